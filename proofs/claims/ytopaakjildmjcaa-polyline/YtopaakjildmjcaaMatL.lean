/- Package slices: Clone; package mat: Row. -/
import Derived.Test.YtopaakjildmjcaaMatJ
import Derived.Test.YtopaakjildmjcaaKitA
import Derived.Lib.SliceRun
namespace Go.Proofs.Ytopaakjildmjcaa
open Go.RowKit Go.Shelf Go.Proofs.Wd
set_option linter.unusedVariables false
set_option linter.unusedSimpArgs false
set_option maxRecDepth 10000

/-- Numbers at the beginning of a block that is known whole. -/
def Own (B len : Nat) (Z : Nat → Int) (w : World) : Prop := ∃ cur, Blk B cur 3 w ∧ ∀ i, i < len → cur[i]? = some (.int .i64 (Z i))
theorem Own.of {B len : Nat} {Z : Nat → Int} {w : World} (h : Blk B (ints len Z) 3 w) : Own B len Z w := ⟨_, h, fun i hi => ints_at len Z i hi⟩
theorem Own.row {B len : Nat} {Z : Nat → Int} {w : World} (h : Own B len Z w) : Row w (some ⟨B, 0, none⟩) len Z := by
  obtain ⟨cur, h1, h2⟩ := h
  refine Or.inr ⟨B, 0, rfl, fun i hi => ?_⟩
  rw [Nat.zero_add, Blk.cell h1, h2 i hi]
theorem Own.kp {B len : Nat} {Z : Nat → Int} {w w' : World} (h : Own B len Z w) (k : Kp w w') : Own B len Z w' := let ⟨cur, h1, h2⟩ := h; ⟨cur, Blk.kp h1 k, h2⟩
theorem Own.mk {B len U : Nat} {Z : Nat → Int} {w w' : World} (h : Own B len Z w) (k : Mk U w w') (hne : B ≠ U) : Own B len Z w' := let ⟨cur, h1, h2⟩ := h; ⟨cur, Blk.mk h1 k hne, h2⟩
theorem Own.by {B len : Nat} {Z : Nat → Int} {w w' : World} {row : Option Nat} (h : Own B len Z w) (k : w.grownBy w' row) (hne : some B ≠ row) : Own B len Z w' := let ⟨cur, h1, h2⟩ := h; ⟨cur, Blk.by h1 k hne, h2⟩
theorem owns_own {w : World} {base n : Nat} {v : Value} {Z : Nat → Int} (hn : 1 ≤ n) (h : w.ownsRow base 3 1 v n ((List.range n).map fun i => Value.int .i64 (Z i))) : ∃ B cap, v = .slice (some ⟨B, 0, none⟩) n cap ∧ base ≤ B ∧ Own B n Z w := by
  rcases h.2 with ⟨rfl, rfl⟩ | ⟨g, cap, cur, rfl, hb, hg, hn', _, hsz, hxs⟩
  · omega
  · refine ⟨g, cap, rfl, hb, cur, hg, fun i hi => ?_⟩
    have e : (cur.toList.take (n * 1))[i]? = some (.int .i64 (Z i)) := by rw [hxs]; simp [hi]
    rw [List.getElem?_take, if_pos (by omega)] at e
    simpa using e

set_option maxRecDepth 50000 in
set_option maxHeartbeats 1000000 in
theorem sliceClone (b o n cap : Nat) (Z : Nat → Int) (h1 : 1 ≤ n) (hn : n ≤ 1000000) (w : World) (hr : Row w (some ⟨b, o, none⟩) n Z) :
    Calls Try.prog 28 #[.slice (some ⟨b, o, none⟩) n cap] w fun e w' => ∃ B cap', e = .returned (.slice (some ⟨B, 0, none⟩) n cap') ∧ w.heap.size ≤ B ∧ Own B n Z w' ∧ Kp w w' := by
  obtain ⟨i0, hi, hz0, hz1, hz2⟩ := info_parts Try.infoInt
  have OM := hide (World.ownsRow_made (base := w.heap.size) (e := 3) (size := 1) w #[] 0 (Nat.le_refl _) (by unfold maxLen; omega) (by simp))
  have NEWH : Hid (∀ j u, ((List.range n).map fun i => Value.int .i64 (Z i))[j]? = some u → (w.alloc (.cells #[] 3)).cell? ((⟨b, o, none⟩ : Addr).add j) = some u) := by
    intro j u hu
    rw [List.getElem?_map] at hu
    by_cases hj : j < n
    · rw [List.getElem?_range hj] at hu
      simp at hu
      subst hu
      obtain ⟨b', o', e, hc⟩ := hr.at hj
      cases e
      rw [Go.WideShapes.add_plain]
      exact gat ((Grown.refl _).alloc _ _) hc
    · rw [List.getElem?_eq_none (by simpa using hj)] at hu
      simp at hu
  have H1 := hide h1
  have q22 : ∀ w : World, (binOp .eql 24 (.slice (some ⟨b, o, none⟩) n cap) (.slice none 0 0)).run Try.prog w = .ok (.bool false) w := fun w => Lib.run_eql_slice_nil w _ _ _ n cap 0 0 Try.underlying24
  clear hr h1
  go_enter Try.func28, Try.ntmps28
  go_wp2_with (at_builtin; refine wpList_append_own _ rfl _ _ 24 rfl w.heap.size 3 i0 (.int .i64 0) 1 8 Try.underlying24 hi hz0 hz1 hz2 rfl (by decide) _ _ _ rfl (unhide OM) ⟨b, o, none⟩ n cap ((List.range n).map fun i => Value.int .i64 (Z i)) rfl (by simp) (unhide NEWH) (cells_one _ _) (by unfold maxLen; omega) (by omega) (by simp) ?_; intro v' w1 hown' hgrow _)
  rw [Nat.zero_add, List.nil_append] at hown'
  obtain ⟨B, cap2, rfl, hB, own2⟩ := owns_own (unhide H1) hown'
  have K1 : Hid (Kp w w1) := Kp.by ((Kp.refl _).alloc _ _) hgrow (fun k e => by have := ((unhide OM).lt k e).1; omega)
  have R1 := hide (And.intro hB own2)
  clear hown' hgrow hB own2
  go_wp2
  go_ret
  exact ⟨_, _, rfl, (unhide R1).1, (unhide R1).2, unhide K1⟩

/-- A list and an error: where it lies. -/
def RowP (len : Nat) (Z : Nat → Int) (err : Int) (w : World) (e : Ending) (w' : World) : Prop :=
  ∃ ao cap B, e = .returned (.tuple #[.slice ao len cap, .int .i64 err]) ∧ w.heap.size ≤ B ∧ (len = 0 ∨ (ao = some ⟨B, 0, none⟩ ∧ Own B len Z w')) ∧ Kp w w'

/-- What a round that leaves knows. -/
def RwX (w : World) (c : Nat) (Z : Nat → Int) (i : Int) {r : Nat} (cd : Code) (pre : List (Fin r)) (W : World) : Prop :=
  cd = .ret ∧ ∃ k : Nat, k < r ∧ (k : Int) = i ∧ ∃ B cap, w.heap.size ≤ B ∧ Own B c (rowZ Z c k) W ∧ Blk (w.heap.size + 1 + 1) #[.slice (some ⟨B, 0, none⟩) c cap] 24 W ∧ Blk (w.heap.size + 1 + 1 + 1) #[.int .i64 0] 27 W ∧ Kp w W
def RwI (W0 : World) (i : Int) {r : Nat} (pre : List (Fin r)) (W : World) : Prop := Kp W0 W ∧ ∀ x ∈ pre, (x.1 : Int) ≠ i
theorem blk_own2 {U : Nat} {cs : Array Value} {T : TypeId} {W W' : World} {row : Option Nat} (h : Blk U cs T W) (hg : W.grownBy W' row) (hr : ∀ r, row = some r → ∃ o : Obj, W.heap[r]? = some o ∧ o.isCells = false) : Blk U cs T W' := blk_own h hg hr
theorem own_own {B len : Nat} {Z : Nat → Int} {W W' : World} {row : Option Nat} (h : Own B len Z W) (hg : W.grownBy W' row) (hr : ∀ r, row = some r → ∃ o : Obj, W.heap[r]? = some o ∧ o.isCells = false) : Own B len Z W' := let ⟨cur, h1, h2⟩ := h; ⟨cur, blk_own h1 hg hr, h2⟩
theorem rwX_own (w : World) (c : Nat) (Z : Nat → Int) (i : Int) (r B : Nat) (hB : w.heap.size ≤ B) (cd : Code) : OwnFrom B (RwX w c Z i (r := r) cd) := by
  rintro pre W W' row ⟨hc, k, hk, hi, b, cap, h1, h2, h3, h4, h5⟩ hg hr
  have hr' : ∀ r, row = some r → ∃ o : Obj, W.heap[r]? = some o ∧ o.isCells = false := fun r e => (hr r e).2
  exact ⟨hc, k, hk, hi, b, cap, h1, own_own h2 hg hr', blk_own h3 hg hr', blk_own h4 hg hr', h5.by hg (fun k e => Nat.le_trans hB (hr k e).1)⟩
theorem rwI_own (W0 : World) (i : Int) (r : Nat) : OwnFrom W0.heap.size (RwI W0 i (r := r)) := by
  rintro pre W W' row ⟨h1, h2⟩ hg hr
  exact ⟨h1.by hg (fun k e => (hr k e).1), h2⟩

section
attribute [local go_sem] Oper.semAt_some

end

end Go.Proofs.Ytopaakjildmjcaa
