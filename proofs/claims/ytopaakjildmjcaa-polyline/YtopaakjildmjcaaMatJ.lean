/- Package mat: Apply. -/
import Derived.Test.YtopaakjildmjcaaMatI
import Derived.Test.YtopaakjildmjcaaRoundR
namespace Go.Proofs.Ytopaakjildmjcaa
open Go.RowKit Go.Shelf Go.Proofs.Wd
set_option linter.unusedVariables false
set_option linter.unusedSimpArgs false
set_option maxRecDepth 10000

/-- Apply under way: w is the world at the list's making. -/
def ApS (w : World) (U r m : Nat) (M : Value) (c0 : Bool) (n0 : Int) (Z : Nat → Int) (G : Nat → Bool) (ps : List Nat) (W : World) : Prop :=
  UC U (c0 || ps.any G) (n0 + 2 * m * (ps.length : Int)) W ∧ Blk w.heap.size (ints r (soFar Z ps)) 3 W ∧ Blk (w.heap.size + 1) #[.slice (some ⟨w.heap.size, 0, none⟩) r r] 24 W ∧ Blk (w.heap.size + 1 + 1) #[.int .i64 r, .int .i64 m, M] 26 W ∧ Mk U w W ∧ w.heap.size + 3 ≤ W.heap.size
def nums {r : Nat} (pre : List (Fin r)) : List Nat := pre.map fun x => x.1
theorem nums_all (r : Nat) : nums (allR r) = List.range r := by
  have : nums (allR r) = vis 1 (allR r) := by
    unfold nums vis
    simp [List.range_succ, List.flatMap_singleton', List.map_eq_flatMap]
  rw [this, vis_all, Nat.mul_one]
theorem apS_own (w : World) (U r m : Nat) (hU : U < w.heap.size) (M : Value) (c0 : Bool) (n0 : Int) (Z : Nat → Int) (G : Nat → Bool) (B : Nat) (hB : w.heap.size ≤ B) : OwnFrom B (fun pre : List (Fin r) => ApS w U r m M c0 n0 Z G (nums pre)) := by
  rintro pre W W' row ⟨h1, h2, h3, h4, h5, h6⟩ hg hr
  have hr' : ∀ r, row = some r → ∃ o : Obj, W.heap[r]? = some o ∧ o.isCells = false := fun r e => (hr r e).2
  exact ⟨blk_own h1 hg hr', blk_own h2 hg hr', blk_own h3 hg hr', blk_own h4 hg hr', h5.by hg (fun k e => Nat.le_trans hB (hr k e).1), Nat.le_trans h6 hg.size⟩
/-- A number has been reckoned, and is put. -/
theorem ApS.put {w : World} {U r m : Nat} {M : Value} {c0 : Bool} {n0 : Int} {Z : Nat → Int} {G : Nat → Bool} {ps : List Nat} {p : Nat} {W W1 : World} (hU : U < w.heap.size) (h : ApS w U r m M c0 n0 Z G ps W) (u : UC U (c0 || ps.any G || G p) (n0 + 2 * m * (ps.length : Int) + 2 * m) W1) (s : Mod U W W1) :
    ApS w U r m M c0 n0 Z G (ps ++ [p]) (W1.setCell ⟨w.heap.size, p, none⟩ (.int .i64 (Z p))) ∧ Blk w.heap.size (ints r (soFar Z ps)) 3 W1 ∧ Blk (w.heap.size + 1) #[.slice (some ⟨w.heap.size, 0, none⟩) r r] 24 W1 ∧ KeepsFrom (w.heap.size + 3) W (W1.setCell ⟨w.heap.size, p, none⟩ (.int .i64 (Z p))) ∧ KpR (w.heap.size + 1 + 1) W (W1.setCell ⟨w.heap.size, p, none⟩ (.int .i64 (Z p))) := by
  obtain ⟨h1, h2, h3, h4, h5, h6⟩ := h
  have q : Mod w.heap.size W1 (W1.setCell ⟨w.heap.size, p, none⟩ (.int .i64 (Z p))) := (Mod.refl _ _).setCell _ _
  have b2 := Blk.keep h2 s (by omega)
  have b3 := Blk.keep h3 s (by omega)
  have b4 := Blk.keep h4 s (by omega)
  have ks : KeepsFrom (w.heap.size + 3) W W1 := ⟨s.2.2.2.2, fun k o hk e _ => (s.2.2.1 k (Array.getElem?_eq_some_iff.1 e).1 (by omega)).trans e⟩
  refine ⟨⟨Blk.keep ?_ q (by omega), ?_, Blk.keep b3 q (by omega), Blk.keep b4 q (by omega), (h5.trans (Mk.of s)).new q (Nat.le_refl _), Nat.le_trans (Nat.le_trans h6 s.2.2.2.2) q.2.2.2.2⟩, b2, b3, ks.trans ((KeepsOthers.setCell _ _ _).from _), ?_⟩
  · rw [List.any_append, List.length_append, ← Bool.or_assoc]
    show UC U (c0 || ps.any G || (G p || false)) (n0 + 2 * m * ((ps.length + 1 : Nat) : Int)) W1
    rw [Bool.or_false, show n0 + 2 * m * ((ps.length + 1 : Nat) : Int) = n0 + 2 * m * (ps.length : Int) + 2 * m by rw [Int.natCast_add, Int.mul_add]; omega]
    exact u
  · have := Blk.setI b2 p (Z p)
    rwa [soFar_snoc] at this
  · exact (q.2.2.1 _ (by have := Blk.lt b4; omega) (by omega)).trans (s.2.2.1 _ (by omega) (by omega))

def encRo {r : Nat} (b o c : Nat) (x : Fin r) : Array Value := encR b o c x
theorem rows_stopsL (n : Nat) (hn : 1 ≤ n) (Bs r c b o len cap : Nat) (hr : 1 ≤ r ∧ r ≤ 12) (hc : 1 ≤ c ∧ c ≤ 12) (hlen : r * c = len) (hcap : len ≤ cap) (w : World) (hB : Blk Bs #[.int .i64 r, .int .i64 c, .slice (some ⟨b, o, none⟩) len cap] 26 w) :
    SeqStopsK Fence.wide n Try.prog 67 #[.pointer (some ⟨Bs, 0, none⟩)] (encR (r := r) b o c) (KpR Bs) (fun ys => ys = allR r) (fun pre => pre <+: allR r) r w := by
  subst hlen
  exact rows_stops n hn Bs r c b o cap hr hc hcap w hB

/-- A list and an error that a call tells. -/
def ListP (len : Nat) (Z : Nat → Int) (err : Int) (X : World → Prop) (w : World) (e : Ending) (w' : World) : Prop :=
  ∃ ao cap B, e = .returned (.tuple #[.slice ao len cap, .int .i64 err]) ∧ w.heap.size ≤ B ∧ (len = 0 ∨ (ao = some ⟨B, 0, none⟩ ∧ Blk B (ints len Z) 3 w')) ∧ len ≤ cap ∧ X w'

section
attribute [local go_sem] Oper.semAt_some


end


end Go.Proofs.Ytopaakjildmjcaa
