/- Package slices: Clone; package mat: Row. -/
import Derived.Test.YtcobicnpdmgnjaaMatJ
import Derived.Test.YtcobicnpdmgnjaaKitA
import Derived.Lib.SliceRun
namespace Go.Proofs.Ytcobicnpdmgnjaa
open Go.RowKit Go.Shelf Go.Proofs.Wd
set_option linter.unusedVariables false
set_option linter.unusedSimpArgs false

/-- Numbers at the beginning of a block that is known whole. -/
def Own (B len : Nat) (Z : Nat → Int) (w : World) : Prop := ∃ cur, Blk B cur 3 w ∧ ∀ i, i < len → cur[i]? = some (.int .i64 (Z i))
theorem Own.of {B len : Nat} {Z : Nat → Int} {w : World} (h : Blk B (ints len Z) 3 w) : Own B len Z w := ⟨_, h, fun i hi => ints_at len Z i hi⟩
theorem Own.row {B len : Nat} {Z : Nat → Int} {w : World} (h : Own B len Z w) : Row w (some ⟨B, 0, none⟩) len Z := by
  obtain ⟨cur, h1, h2⟩ := h
  refine Or.inr ⟨B, 0, rfl, fun i hi => ?_⟩
  rw [Nat.zero_add, Blk.cell h1, h2 i hi]
theorem Own.kp {B len : Nat} {Z : Nat → Int} {w w' : World} (h : Own B len Z w) (k : Kp w w') : Own B len Z w' := let ⟨cur, h1, h2⟩ := h; ⟨cur, Blk.kp h1 k, h2⟩
theorem Own.mk {B len U : Nat} {Z : Nat → Int} {w w' : World} (h : Own B len Z w) (k : Mk U w w') (hne : B ≠ U) : Own B len Z w' := let ⟨cur, h1, h2⟩ := h; ⟨cur, Blk.mk h1 k hne, h2⟩
theorem Own.by {B len : Nat} {Z : Nat → Int} {w w' : World} {row : Option Nat} (h : Own B len Z w) (k : w.grownBy w' row) (hne : some B ≠ row) : Own B len Z w' := let ⟨cur, h1, h2⟩ := h; ⟨cur, Blk.by h1 k hne, h2⟩
theorem owns_own {w : World} {base n : Nat} {v : Value} {Z : Nat → Int} (hn : 1 ≤ n) (h : w.ownsRow base 3 1 v n ((List.range n).map fun i => Value.int .i64 (Z i))) : ∃ B cap, v = .slice (some ⟨B, 0, none⟩) n cap ∧ base ≤ B ∧ Own B n Z w := by
  rcases h.2 with ⟨rfl, rfl⟩ | ⟨g, cap, cur, rfl, hb, hg, hn', _, hsz, hxs⟩
  · omega
  · refine ⟨g, cap, rfl, hb, cur, hg, fun i hi => ?_⟩
    have e : (cur.toList.take (n * 1))[i]? = some (.int .i64 (Z i)) := by rw [hxs]; simp [hi]
    rw [List.getElem?_take, if_pos (by omega)] at e
    simpa using e

set_option maxRecDepth 50000 in
set_option maxHeartbeats 1000000 in
theorem sliceClone (b o n cap : Nat) (Z : Nat → Int) (h1 : 1 ≤ n) (hn : n ≤ 1000000) (w : World) (hr : Row w (some ⟨b, o, none⟩) n Z) :
    Calls Try.prog 46 #[.slice (some ⟨b, o, none⟩) n cap] w fun e w' => ∃ B cap', e = .returned (.slice (some ⟨B, 0, none⟩) n cap') ∧ w.heap.size ≤ B ∧ Own B n Z w' ∧ Kp w w' := by
  obtain ⟨i0, hi, hz0, hz1, hz2⟩ := info_parts Try.infoInt
  have OM := hide (World.ownsRow_made (base := w.heap.size) (e := 3) (size := 1) w #[] 0 (Nat.le_refl _) (by unfold maxLen; omega) (by simp))
  have NEWH : Hid (∀ j u, ((List.range n).map fun i => Value.int .i64 (Z i))[j]? = some u → (w.alloc (.cells #[] 3)).cell? ((⟨b, o, none⟩ : Addr).add j) = some u) := by
    intro j u hu
    rw [List.getElem?_map] at hu
    by_cases hj : j < n
    · rw [List.getElem?_range hj] at hu
      simp at hu
      subst hu
      obtain ⟨b', o', e, hc⟩ := hr.at hj
      cases e
      rw [Go.WideShapes.add_plain]
      exact gat ((Grown.refl _).alloc _ _) hc
    · rw [List.getElem?_eq_none (by simpa using hj)] at hu
      simp at hu
  have H1 := hide h1
  have q22 : ∀ w : World, (binOp .eql 22 (.slice (some ⟨b, o, none⟩) n cap) (.slice none 0 0)).run Try.prog w = .ok (.bool false) w := fun w => Lib.run_eql_slice_nil w _ _ _ n cap 0 0 Try.underlying22
  clear hr h1
  go_enter Try.func46, Try.ntmps46
  go_wp2_with (at_builtin; refine wpList_append_own _ rfl _ _ 22 rfl w.heap.size 3 i0 (.int .i64 0) 1 8 Try.underlying22 hi hz0 hz1 hz2 rfl (by decide) _ _ _ rfl (unhide OM) ⟨b, o, none⟩ n cap ((List.range n).map fun i => Value.int .i64 (Z i)) rfl (by simp) (unhide NEWH) (cells_one _ _) (by unfold maxLen; omega) (by omega) (by simp) ?_; intro v' w1 hown' hgrow _)
  rw [Nat.zero_add, List.nil_append] at hown'
  obtain ⟨B, cap2, rfl, hB, own2⟩ := owns_own (unhide H1) hown'
  have K1 : Hid (Kp w w1) := Kp.by ((Kp.refl _).alloc _ _) hgrow (fun k e => by have := ((unhide OM).lt k e).1; omega)
  have R1 := hide (And.intro hB own2)
  clear hown' hgrow hB own2
  go_wp2
  go_ret
  exact ⟨_, _, rfl, (unhide R1).1, (unhide R1).2, unhide K1⟩

/-- A list and an error: where it lies. -/
def RowP (len : Nat) (Z : Nat → Int) (err : Int) (w : World) (e : Ending) (w' : World) : Prop :=
  ∃ ao cap B, e = .returned (.tuple #[.slice ao len cap, .int .i64 err]) ∧ w.heap.size ≤ B ∧ (len = 0 ∨ (ao = some ⟨B, 0, none⟩ ∧ Own B len Z w')) ∧ Kp w w'

/-- What a round that leaves knows. -/
def RwX (w : World) (c : Nat) (Z : Nat → Int) (i : Int) {r : Nat} (cd : Code) (pre : List (Fin r)) (W : World) : Prop :=
  cd = .ret ∧ ∃ k : Nat, k < r ∧ (k : Int) = i ∧ ∃ B cap, w.heap.size ≤ B ∧ Own B c (rowZ Z c k) W ∧ Blk (w.heap.size + 1 + 1) #[.slice (some ⟨B, 0, none⟩) c cap] 22 W ∧ Blk (w.heap.size + 1 + 1 + 1) #[.int .i64 0] 29 W ∧ Kp w W
def RwI (W0 : World) (i : Int) {r : Nat} (pre : List (Fin r)) (W : World) : Prop := Kp W0 W ∧ ∀ x ∈ pre, (x.1 : Int) ≠ i
theorem blk_own2 {U : Nat} {cs : Array Value} {T : TypeId} {W W' : World} {row : Option Nat} (h : Blk U cs T W) (hg : W.grownBy W' row) (hr : ∀ r, row = some r → ∃ o : Obj, W.heap[r]? = some o ∧ o.isCells = false) : Blk U cs T W' := blk_own h hg hr
theorem own_own {B len : Nat} {Z : Nat → Int} {W W' : World} {row : Option Nat} (h : Own B len Z W) (hg : W.grownBy W' row) (hr : ∀ r, row = some r → ∃ o : Obj, W.heap[r]? = some o ∧ o.isCells = false) : Own B len Z W' := let ⟨cur, h1, h2⟩ := h; ⟨cur, blk_own h1 hg hr, h2⟩
theorem rwX_own (w : World) (c : Nat) (Z : Nat → Int) (i : Int) (r B : Nat) (hB : w.heap.size ≤ B) (cd : Code) : OwnFrom B (RwX w c Z i (r := r) cd) := by
  rintro pre W W' row ⟨hc, k, hk, hi, b, cap, h1, h2, h3, h4, h5⟩ hg hr
  have hr' : ∀ r, row = some r → ∃ o : Obj, W.heap[r]? = some o ∧ o.isCells = false := fun r e => (hr r e).2
  exact ⟨hc, k, hk, hi, b, cap, h1, own_own h2 hg hr', blk_own h3 hg hr', blk_own h4 hg hr', h5.by hg (fun k e => Nat.le_trans hB (hr k e).1)⟩
theorem rwI_own (W0 : World) (i : Int) (r : Nat) : OwnFrom W0.heap.size (RwI W0 i (r := r)) := by
  rintro pre W W' row ⟨h1, h2⟩ hg hr
  exact ⟨h1.by hg (fun k e => (hr k e).1), h2⟩

section
attribute [local go_sem] Oper.semAt_some

set_option maxRecDepth 100000 in
set_option maxHeartbeats 4000000 in
theorem matRow_ok (r c b o cap : Nat) (i : Int) (Z : Nat → Int) (hr : 1 ≤ r ∧ r ≤ 12) (hc : 1 ≤ c ∧ c ≤ 12) (hcap : r * c ≤ cap) (w : World) (hz : ∀ j, j < r * c → w.cell? ⟨b, o + j, none⟩ = some (.int .i64 (Z j))) :
    Calls Try.prog 18 #[.agg #[.int .i64 r, .int .i64 c, .slice (some ⟨b, o, none⟩) (r * c) cap], .int .i64 i] w fun e w' => (∃ k : Nat, k < r ∧ (k : Int) = i ∧ RowP c (rowZ Z c k) 0 w e w') ∨ ((∀ k : Nat, k < r → (k : Int) ≠ i) ∧ RowP 0 Z 3 w e w') := by
  obtain ⟨G, s4, bm, bi, br, be⟩ := alloc4 w #[.int .i64 r, .int .i64 c, .slice (some ⟨b, o, none⟩) (r * c) cap] 24 #[.int .i64 i] 3 #[.slice none 0 0] 22 #[.int .i64 0] 29
  have CK := hide (fun w => matCheck r c (some ⟨b, o, none⟩) (r * c) cap w)
  rw [chk_ok ⟨by omega, by omega, by rw [Int.natCast_mul]⟩] at CK
  have CL : Hid (∀ wx k, k < r → Kp w wx → Calls Try.prog 46 #[.slice (some ⟨b, o + k * c, none⟩) c c] wx fun e w' => ∃ B cap', e = .returned (.slice (some ⟨B, 0, none⟩) c cap') ∧ wx.heap.size ≤ B ∧ Own B c (rowZ Z c k) w' ∧ Kp wx w') := fun wx k hk kw =>
    sliceClone b (o + k * c) c c (rowZ Z c k) hc.1 (by omega) wx (row_part hk (fun j hj => kw.cell (hz j hj)))
  have HB := hide (And.intro bm (And.intro bi (And.intro br be)))
  have HG := hide (And.intro G s4)
  have HR := hide (And.intro hr (And.intro hc hcap))
  obtain ⟨len, hlen⟩ : ∃ len, r * c = len := ⟨_, rfl⟩
  rw [hlen] at CK HG HB HR
  rw [hlen]
  have HL := hide hlen
  clear G s4 bm bi br be hz hr hc hcap hlen
  refine (callsIn_wide (n := 6)).1 ?_
  refine callsIn_of_wp_marks Try.func18 rfl trivial ?_ rfl
  simp only [Try.ntmps18, List.size_toArray, List.length_cons, List.length_nil, Nat.reduceAdd, Nat.reduceSub, Array.replicate_succ, Array.replicate_zero, List.push_toArray, List.append_toArray, List.nil_append, List.cons_append]
  gi_wp2_with fail
  generalize (((w.alloc (.cells #[.int .i64 r, .int .i64 c, .slice (some ⟨b, o, none⟩) len cap] 24)).alloc (.cells #[.int .i64 i] 3)).alloc (.cells #[.slice none 0 0] 22)).alloc (.cells #[.int .i64 0] 29) = w1 at *
  refine ⟨trivial, ?_⟩
  refine (callsIn_wide.2 (unhide CK _)).mono ?_
  rintro e w2 ⟨rfl, g2⟩
  have K2 : Hid (Kp w1 w2) := Kp.of g2
  have d0 : w2.cell? ⟨w.heap.size, 0, none⟩ = some (.int .i64 r) := Blk.cell (Blk.grown (unhide HB).1 g2) 0
  have d1 : w2.cell? ⟨w.heap.size, 1, none⟩ = some (.int .i64 c) := Blk.cell (Blk.grown (unhide HB).1 g2) 1
  have d2 : w2.cell? ⟨w.heap.size, 2, none⟩ = some (.slice (some ⟨b, o, none⟩) len cap) := Blk.cell (Blk.grown (unhide HB).1 g2) 2
  clear g2 CK
  gi_wp2_with (refine ⟨trivial, ?_⟩; gi_at_call 45; refine (callsIn_wide.2 (matRows _ _ _ rfl _)).mono ?_; rintro e w' ⟨rfl, rfl⟩)
  obtain ⟨hr, hc, hcap⟩ := unhide HR
  have g3 : Grown w2 (w2.alloc (.cells #[.int .i64 r, .int .i64 c, .slice (some ⟨b, o, none⟩) len cap] 24)) := (Grown.refl _).alloc _ _
  have bs := Blk.new w2 #[.int .i64 r, .int .i64 c, .slice (some ⟨b, o, none⟩) len cap] 24
  have s3 : (w2.alloc (.cells #[.int .i64 r, .int .i64 c, .slice (some ⟨b, o, none⟩) len cap] 24)).heap.size = w2.heap.size + 1 := by simp
  have K0 : Hid (Kp w1 (w2.alloc (.cells #[.int .i64 r, .int .i64 c, .slice (some ⟨b, o, none⟩) len cap] 24))) := (unhide K2).grown g3
  have sz : Hid (w1.heap.size ≤ w2.heap.size) := (unhide K2).2.2.2
  clear d0 d1 d2 K2
  generalize w2.alloc (.cells #[.int .i64 r, .int .i64 c, .slice (some ⟨b, o, none⟩) len cap] 24) = W0 at *
  have bi0 := Blk.kp (unhide HB).2.1 (unhide K0)
  have br0 := Blk.kp (unhide HB).2.2.1 (unhide K0)
  have be0 := Blk.kp (unhide HB).2.2.2 (unhide K0)
  refine wpIn_rangeFunc_ownG rfl (by omega) (gf := 61) (lb := #[.pointer (some ⟨w2.heap.size, 0, none⟩)]) rfl trivial (enters_of Try.func61 (by kernel_rfl) rfl)
    (rows_stopsL _ (by omega) w2.heap.size r c b o len cap hr hc (unhide HL) hcap W0 bs) kpR_t (kpR_b (by omega)) (Below.refl _ _) (fun _ => rfl)
    (RwI W0 i) (RwX w c Z i) (rwI_own W0 i r) (rwX_own w c Z i r _ (by have := (unhide HG).2; have := unhide sz; omega))
    ⟨Kp.refl _, fun x hx => absurd hx List.not_mem_nil⟩
    (fun x => { tmps := #[.agg #[.int .i64 r, .int .i64 c, .slice (some ⟨b, o, none⟩) len cap], .int .i64 i, .pointer (some ⟨w.heap.size, 0, none⟩), .pointer (some ⟨w.heap.size + 1, 0, none⟩), .pointer (some ⟨w.heap.size + 1 + 1, 0, none⟩), .pointer (some ⟨w.heap.size + 1 + 1 + 1, 0, none⟩), .int .i64 0, .int .i64 (x.1 : Int), .slice (some ⟨b, o + x.1 * c, none⟩) c c, .agg #[.int .i64 r, .int .i64 c, .slice (some ⟨b, o, none⟩) len cap], .int .i64 0, .int .i64 0, .bool false, undef, .agg #[.int .i64 r, .int .i64 c, .slice (some ⟨b, o, none⟩) len cap], .func (.func 61) #[] #[.pointer (some ⟨w2.heap.size, 0, none⟩)], .int .i64 (x.1 : Int), .slice (some ⟨b, o + x.1 * c, none⟩) c c, undef, undef, undef, undef, undef], defers := [] }) ?assign ?body ?done ?stop
  case assign =>
    intro l x W K hK
    dsimp only [encR]
    gi_wp2
    exact hK
  case body =>
    rintro l pre x W ⟨hK, hpre⟩ hlt
    obtain ⟨xn, hxn⟩ : ∃ xn, x.1 = xn := ⟨_, rfl⟩
    have hx : xn < r := by rw [← hxn]; exact x.2
    have d1 : W.cell? ⟨w.heap.size + 1, 0, none⟩ = some (.int .i64 i) := Blk.cell (Blk.kp bi0 hK) 0
    have b2 := Blk.kp br0 hK
    have b3 := Blk.kp be0 hK
    have HS := hide (And.intro hK (And.intro hpre (And.intro b2 b3)))
    (try dsimp only)
    rw [hxn]
    have C1 := hide (unhide CL W xn hx ((Kp.of (unhide HG).1).trans ((unhide K0).trans hK)))
    obtain ⟨oi, hoi⟩ : ∃ q, o + xn * c = q := ⟨_, rfl⟩
    rw [hoi]
    rw [hoi] at C1
    have HXN := hide hxn
    have HX := hide hx
    clear hoi hxn hx hK hpre b2 b3 hlt bi0 br0 be0 bs hr hc hcap g3 s3 CL
    by_cases e : (xn : Int) = i
    · have e2 : ((xn : Int) == i) = true := by simpa using e
      have HE := hide e
      clear e
      gi_wp2_with (refine ⟨trivial, ?_⟩; gi_at_call 46; refine (CallsIn.inRound l (callsIn_wide (n := 3).2 (unhide C1))).mono ?_; rintro e w3 ⟨B, cap', rfl, hB, hO, k3⟩; have b2 := Blk.kp (unhide HS).2.2.1 k3; have b3 := Blk.kp (unhide HS).2.2.2 k3; have q0 : w3.cell? ⟨w.heap.size + 1 + 1, 0, none⟩ = some (.slice none 0 0) := (Blk.cell b2 0); have q1 : w3.cell? ⟨w.heap.size + 1 + 1 + 1, 0, none⟩ = some (.int .i64 0) := (Blk.cell b3 0); have f2 := Blk.free b2; have f3 := Blk.free b3; have R := hide (And.intro hB (And.intro hO (And.intro k3 (And.intro b2 b3)))); clear hB hO k3 b2 b3)
      obtain ⟨hB, hO, k3, b2, b3⟩ := unhide R
      have m2 : Mod (w.heap.size + 1 + 1) w3 (w3.setCell ⟨w.heap.size + 1 + 1, 0, none⟩ (.slice (some ⟨B, 0, none⟩) c cap')) := (Mod.refl _ _).setCell 0 _
      have m3 : Mod (w.heap.size + 1 + 1 + 1) (w3.setCell ⟨w.heap.size + 1 + 1, 0, none⟩ (.slice (some ⟨B, 0, none⟩) c cap')) ((w3.setCell ⟨w.heap.size + 1 + 1, 0, none⟩ (.slice (some ⟨B, 0, none⟩) c cap')).setCell ⟨w.heap.size + 1 + 1 + 1, 0, none⟩ (.int .i64 0)) := (Mod.refl _ _).setCell 0 _
      have kw : Kp w W := (Kp.of (unhide HG).1).trans ((unhide K0).trans (unhide HS).1)
      have hW : w.heap.size + 4 ≤ W.heap.size := by have := (unhide HG).2; have := (unhide K0).2.2.2; have := (unhide HS).1.2.2.2; omega
      refine ⟨KeepsOthers.from (((⟨k3.2.2.2, fun j o hj _ => (k3.2.2.1 j (Array.getElem?_eq_some_iff.1 hj).1).trans hj⟩ : KeepsOthers W w3).trans (KeepsOthers.setCell _ _ _)).trans (KeepsOthers.setCell _ _ _)) _, rfl, xn, unhide HX, unhide HE, B, cap', by omega, (hO.mk (Mk.of m2) (by omega)).mk (Mk.of m3) (by omega), Blk.keep (Blk.set b2 0 _) m3 (by omega), Blk.set (Blk.keep b3 m2 (by omega)) 0 _, ((kw.trans k3).mod m2 (by omega)).mod m3 (by omega)⟩
    · have e2 : ((xn : Int) == i) = false := by simpa using e
      have HE := hide e
      clear e
      gi_wp2
      refine ⟨KeepsFrom.refl _ _, rfl, (unhide HS).1, fun y hy => ?_⟩
      rcases List.mem_append.1 hy with hy | hy
      · exact (unhide HS).2.1 y hy
      · simp at hy
        subst hy
        rw [unhide HXN]
        exact unhide HE
  case done =>
    rintro D ys W hD rfl ⟨hK, hall⟩ hDf
    have b2 := Blk.kp br0 hK
    have b3 := Blk.kp be0 hK
    have q0 : W.cell? ⟨w.heap.size + 1 + 1, 0, none⟩ = some (.slice none 0 0) := Blk.cell b2 0
    have q1 : W.cell? ⟨w.heap.size + 1 + 1 + 1, 0, none⟩ = some (.int .i64 0) := Blk.cell b3 0
    have f2 := Blk.free b2
    have f3 := Blk.free b3
    have R := hide (And.intro hK (And.intro hall (And.intro b2 b3)))
    clear hK hall b2 b3 bi0 br0 be0 bs hr hc hcap g3
    gi_wp2
    obtain ⟨hK, hall, b2, b3⟩ := unhide R
    have m2 : Mod (w.heap.size + 1 + 1) W (W.setCell ⟨w.heap.size + 1 + 1, 0, none⟩ (.slice none 0 0)) := (Mod.refl _ _).setCell 0 _
    have m3 : Mod (w.heap.size + 1 + 1 + 1) (W.setCell ⟨w.heap.size + 1 + 1, 0, none⟩ (.slice none 0 0)) ((W.setCell ⟨w.heap.size + 1 + 1, 0, none⟩ (.slice none 0 0)).setCell ⟨w.heap.size + 1 + 1 + 1, 0, none⟩ (.int .i64 3)) := (Mod.refl _ _).setCell 0 _
    have B2 := Blk.keep (Blk.set b2 0 (.slice none 0 0)) m3 (by omega)
    have B3 := Blk.set (Blk.keep b3 m2 (by omega)) 0 (.int .i64 3)
    have kD : ((W.setCell ⟨w.heap.size + 1 + 1, 0, none⟩ (.slice none 0 0)).setCell ⟨w.heap.size + 1 + 1 + 1, 0, none⟩ (.int .i64 3)).heap[D]? = some (.deferred (some [])) := ((KeepsOthers.setCell _ _ _).trans (KeepsOthers.setCell _ _ _)).same D _ hDf rfl
    have KW : Kp w ((W.setCell ⟨w.heap.size + 1 + 1, 0, none⟩ (.slice none 0 0)).setCell ⟨w.heap.size + 1 + 1 + 1, 0, none⟩ (.int .i64 3)) := (((Kp.of (unhide HG).1).trans ((unhide K0).trans hK)).mod m2 (by omega)).mod m3 (by omega)
    generalize (W.setCell ⟨w.heap.size + 1 + 1, 0, none⟩ (.slice none 0 0)).setCell ⟨w.heap.size + 1 + 1 + 1, 0, none⟩ (.int .i64 3) = WW at *
    have hDD : w.heap.size + 4 ≤ D := by have := (unhide HG).2; have := unhide sz; omega
    have gD := grownBy_putObj' WW D (.deferred none)
    have B2' := Blk.by B2 gD (fun e => by cases e; omega)
    have B3' := Blk.by B3 gD (fun e => by cases e; omega)
    have K9 : Kp w (WW.putObj D (.deferred none)) := KW.by gD (fun k e => by cases e; omega)
    refine ⟨by simp, .inl ⟨_, _, rfl, run_takeDeferred kD, ?_⟩⟩
    have c0 : (WW.putObj D (.deferred none)).cell? ⟨w.heap.size + 1 + 1, 0, none⟩ = some (.slice none 0 0) := Blk.cell B2' 0
    have c1 : (WW.putObj D (.deferred none)).cell? ⟨w.heap.size + 1 + 1 + 1, 0, none⟩ = some (.int .i64 3) := Blk.cell B3' 0
    generalize WW.putObj D (.deferred none) = WP at *
    refine ⟨.tuple #[.slice none 0 0, .int .i64 3], by simp [results, Try.results18, go_sem, c0, c1], Or.inr ⟨fun k hk => ?_, none, 0, w.heap.size, rfl, Nat.le_refl _, Or.inl rfl, K9⟩⟩
    exact hall ⟨k, hk⟩ (by simp [allR])
  case stop =>
    rintro D cd pre W hD hpre ⟨rfl, k, hk, hi, B, cap', h1, h2, h3, h4, h5⟩ hDf
    have R := hide (And.intro hk (And.intro hi (And.intro h1 (And.intro h2 (And.intro h3 (And.intro h4 h5))))))
    clear hk hi h1 h2 h3 h4 h5 bi0 br0 be0 bs hr hc hcap g3 hpre
    gi_wp2
    obtain ⟨hk, hi, h1, h2, h3, h4, h5⟩ := unhide R
    have hDD : w.heap.size + 4 ≤ D := by have := (unhide HG).2; have := unhide sz; omega
    have gD := grownBy_putObj' W D (.deferred none)
    have B2' := Blk.by h3 gD (fun e => by cases e; omega)
    have B3' := Blk.by h4 gD (fun e => by cases e; omega)
    have O' := own_own h2 gD (fun r e => by cases e; exact ⟨_, hDf, rfl⟩)
    have K9 : Kp w (W.putObj D (.deferred none)) := h5.by gD (fun k e => by cases e; omega)
    refine ⟨by simp, .inl ⟨_, _, rfl, run_takeDeferred hDf, ?_⟩⟩
    have c0 : (W.putObj D (.deferred none)).cell? ⟨w.heap.size + 1 + 1, 0, none⟩ = some (.slice (some ⟨B, 0, none⟩) c cap') := Blk.cell B2' 0
    have c1 : (W.putObj D (.deferred none)).cell? ⟨w.heap.size + 1 + 1 + 1, 0, none⟩ = some (.int .i64 0) := Blk.cell B3' 0
    generalize W.putObj D (.deferred none) = WP at *
    exact ⟨.tuple #[.slice (some ⟨B, 0, none⟩) c cap', .int .i64 0], by simp [results, Try.results18, go_sem, c0, c1], Or.inl ⟨k, hk, hi, _, _, B, rfl, h1, Or.inr ⟨rfl, O'⟩, K9⟩⟩
end

set_option maxHeartbeats 1000000 in
theorem matRow_bad (R C : Int) (ao : Option Addr) (len cap : Nat) (i : Int) (Z : Nat → Int) (hb : ¬ okM R C len) (w : World) :
    Calls Try.prog 18 #[.agg #[.int .i64 R, .int .i64 C, .slice ao len cap], .int .i64 i] w fun e w' => RowP 0 Z 3 w e w' := by
  obtain ⟨G, s4, bm, bi, br, be⟩ := alloc4 w #[.int .i64 R, .int .i64 C, .slice ao len cap] 24 #[.int .i64 i] 3 #[.slice none 0 0] 22 #[.int .i64 0] 29
  have CK := hide (fun w => matCheck R C ao len cap w)
  rw [chk_bad hb] at CK
  have HB := hide (And.intro br be)
  have HG := hide G
  clear G s4 bm bi br be hb
  go_enter Try.func18, Try.ntmps18
  go_wp2_with fail
  generalize (((w.alloc (.cells #[.int .i64 R, .int .i64 C, .slice ao len cap] 24)).alloc (.cells #[.int .i64 i] 3)).alloc (.cells #[.slice none 0 0] 22)).alloc (.cells #[.int .i64 0] 29) = w1 at *
  refine (unhide CK _).mono ?_
  rintro e w2 ⟨rfl, g2⟩
  have b2 := Blk.grown (unhide HB).1 g2
  have b3 := Blk.grown (unhide HB).2 g2
  have q0 : w2.cell? ⟨w.heap.size + 1 + 1, 0, none⟩ = some (.slice none 0 0) := Blk.cell b2 0
  have q1 : w2.cell? ⟨w.heap.size + 1 + 1 + 1, 0, none⟩ = some (.int .i64 0) := Blk.cell b3 0
  have f2 := Blk.free b2
  have f3 := Blk.free b3
  have R := hide (And.intro b2 (And.intro b3 g2))
  clear b2 b3 g2 CK
  go_wp2
  obtain ⟨b2, b3, g2⟩ := unhide R
  have m2 : Mod (w.heap.size + 1 + 1) w2 (w2.setCell ⟨w.heap.size + 1 + 1, 0, none⟩ (.slice none 0 0)) := (Mod.refl _ _).setCell 0 _
  have m3 : Mod (w.heap.size + 1 + 1 + 1) (w2.setCell ⟨w.heap.size + 1 + 1, 0, none⟩ (.slice none 0 0)) ((w2.setCell ⟨w.heap.size + 1 + 1, 0, none⟩ (.slice none 0 0)).setCell ⟨w.heap.size + 1 + 1 + 1, 0, none⟩ (.int .i64 3)) := (Mod.refl _ _).setCell 0 _
  have c0 := Blk.cell (Blk.keep (Blk.set b2 0 (.slice none 0 0)) m3 (by omega)) 0
  have c1 := Blk.cell (Blk.set (Blk.keep b3 m2 (by omega)) 0 (.int .i64 3)) 0
  have K : Kp w ((w2.setCell ⟨w.heap.size + 1 + 1, 0, none⟩ (.slice none 0 0)).setCell ⟨w.heap.size + 1 + 1 + 1, 0, none⟩ (.int .i64 3)) := ((((Kp.of (unhide HG)).grown g2).mod m2 (by omega))).mod m3 (by omega)
  generalize (w2.setCell ⟨w.heap.size + 1 + 1, 0, none⟩ (.slice none 0 0)).setCell ⟨w.heap.size + 1 + 1 + 1, 0, none⟩ (.int .i64 3) = WW at *
  simp at c0 c1
  refine bodyPost_ret (v := .tuple #[.slice none 0 0, .int .i64 3]) (by simp [results, Try.results18, go_sem, c0, c1]) rfl ?_
  exact ⟨none, 0, w.heap.size, rfl, Nat.le_refl _, Or.inl rfl, K⟩

end Go.Proofs.Ytcobicnpdmgnjaa
