/- What is below the heap's old size stays, whatever is appended to above it; sums in any order. -/
import Derived.Test.YtecelkneiffceaaGreatUnitE
namespace Go.Proofs.Wd
set_option linter.unusedVariables false

def sumZ (Z : Nat → Int) : Nat → Int
  | 0 => 0
  | k + 1 => sumZ Z k + Z k
theorem add_plainN (s z : Int) (h : addC s z = false) : addN s z = s + z := by
  unfold addC cutB at h
  simp only [Bool.or_eq_false_iff] at h
  obtain ⟨⟨h1, h2⟩, h3⟩ := h
  have e1 : tk s = s := by unfold nb at h2; unfold tk; rw [if_neg (by simpa using h2)]
  have e2 : tk z = z := by unfold nb at h3; unfold tk; rw [if_neg (by simpa using h3)]
  unfold addN
  rw [e1, e2] at h1
  rw [e1, e2]
  unfold fitB at h1
  simp only [decide_eq_false_iff_not] at h1
  unfold fitI
  rw [if_neg (by omega), if_neg (by omega)]
theorem th_sum (Z : Nat → Int) : ∀ n, thC addN addC 0 Z n = false → thN addN 0 Z n = sumZ Z n
  | 0, _ => rfl
  | k + 1, h => by
    have h' : (thC addN addC 0 Z k || addC (thN addN 0 Z k) (Z k)) = false := h
    simp only [Bool.or_eq_false_iff] at h'
    show addN (thN addN 0 Z k) (Z k) = sumZ Z k + Z k
    rw [add_plainN _ _ h'.2, th_sum Z k h'.1]
theorem sum_rev (Z : Nat → Int) (n : Nat) : ∀ k, k ≤ n → sumZ (fun i => Z (n - 1 - i)) k = sumZ Z n - sumZ Z (n - k)
  | 0, _ => by show (0 : Int) = _; rw [Nat.sub_zero]; omega
  | k + 1, h => by
    show sumZ (fun i => Z (n - 1 - i)) k + Z (n - 1 - k) = _
    rw [sum_rev Z n k (by omega)]
    have e : n - k = (n - (k + 1)) + 1 := by omega
    have e2 : n - 1 - k = n - (k + 1) := by omega
    rw [e, e2]
    show sumZ Z n - (sumZ Z (n - (k + 1)) + Z (n - (k + 1))) + Z (n - (k + 1)) = _
    omega
/-- A sum that is cut on neither way is the same from its end on. -/
theorem th_rev (Z : Nat → Int) (n : Nat) (h1 : thC addN addC 0 Z n = false) (h2 : thC addN addC 0 (fun i => Z (n - 1 - i)) n = false) : thN addN 0 (fun i => Z (n - 1 - i)) n = thN addN 0 Z n := by
  rw [th_sum _ _ h1, th_sum _ _ h2, sum_rev Z n n (Nat.le_refl _), Nat.sub_self]
  show sumZ Z n - 0 = _
  omega
end Go.Proofs.Wd

namespace Go.Proofs.YtecelkneiffceaaGreat
open Go.RowKit Go.Proofs.Wd
set_option linter.unusedVariables false
set_option linter.unusedSimpArgs false
set_option maxRecDepth 10000

/-- Below the heap's old size all is as it was. -/
def Kp (W w : World) : Prop := w.os = W.os ∧ w.output = W.output ∧ (∀ k, k < W.heap.size → w.heap[k]? = W.heap[k]?) ∧ W.heap.size ≤ w.heap.size
theorem Kp.of {W w : World} (g : Grown W w) : Kp W w := ⟨g.1.1, g.1.2.1, fun _ hk => gblock g hk, g.2.2⟩
theorem Kp.refl (W : World) : Kp W W := ⟨rfl, rfl, fun _ _ => rfl, Nat.le_refl _⟩
theorem Kp.trans {a b c : World} (h : Kp a b) (k : Kp b c) : Kp a c := ⟨k.1.trans h.1, k.2.1.trans h.2.1, fun i hi => (k.2.2.1 i (Nat.lt_of_lt_of_le hi h.2.2.2)).trans (h.2.2.1 i hi), Nat.le_trans h.2.2.2 k.2.2.2⟩
theorem Kp.grown {W a b : World} (h : Kp W a) (g : Grown a b) : Kp W b := h.trans (Kp.of g)
theorem Kp.alloc {W a : World} (h : Kp W a) (c : Array Value) (t : TypeId) : Kp W (a.alloc (.cells c t)) := h.grown ((Grown.refl _).alloc _ _)
theorem Kp.mod {W a b : World} {U : Nat} (h : Kp W a) (m : Mod U a b) (hU : W.heap.size ≤ U) : Kp W b :=
  ⟨m.1.trans h.1, m.2.1.trans h.2.1, fun i hi => (m.2.2.1 i (Nat.lt_of_lt_of_le hi h.2.2.2) (by omega)).trans (h.2.2.1 i hi), Nat.le_trans h.2.2.2 m.2.2.2.2⟩
theorem Kp.by {W a b : World} {row : Option Nat} (h : Kp W a) (m : a.grownBy b row) (hr : ∀ k, row = some k → W.heap.size ≤ k) : Kp W b :=
  ⟨m.os.trans h.1, m.output.trans h.2.1, fun i hi => (m.block i (Nat.lt_of_lt_of_le hi h.2.2.2) (fun e => by have := hr i e.symm; omega)).trans (h.2.2.1 i hi), Nat.le_trans h.2.2.2 m.size⟩
theorem Kp.frame {W w : World} (h : Kp W w) (may : MemPlace → Prop) : W.keptBut w may := by
  refine ⟨h.1, h.2.1, fun i hi => ?_⟩
  rw [h.2.2.1 i hi]
  split <;> simp_all
theorem Kp.same {W w : World} (h : Kp W w) {p : MemPlace} (hp : p.block < W.heap.size) : W.sameAt w p := by
  cases p with
  | cell b o => exact World.cell?_of_block (w := W) (h.2.2.1 b hp)
  | map b => exact h.2.2.1 b hp
theorem Kp.cell {W w : World} (h : Kp W w) {b o : Nat} {v : Value} (hv : W.cell? ⟨b, o, none⟩ = some v) : w.cell? ⟨b, o, none⟩ = some v :=
  (World.cell?_of_block (h.2.2.1 b (heap_gt hv))).trans hv
theorem Row.kp {w w' : World} {ao : Option Addr} {len : Nat} {Z : Nat → Int} (h : Row w ao len Z) (m : Kp w w') : Row w' ao len Z := by
  rcases h with h | ⟨b, o, rfl, hc⟩
  · exact Or.inl h
  · exact Or.inr ⟨b, o, rfl, fun i hi => m.cell (hc i hi)⟩
theorem Acts.kp {w w' : World} {ao : Option Addr} {len : Nat} {X : Nat → ActV} (h : Acts w ao len X) (g : Kp w w') : Acts w' ao len X := by
  rcases h with h | ⟨b, o, rfl, hc⟩
  · exact Or.inl h
  · refine Or.inr ⟨b, o, rfl, fun i hi j hj => ?_⟩
    have e : (X i).cells[j]? = some ((X i).cells[j]'(by simpa [ActV.cells] using hj)) := Array.getElem?_eq_getElem _
    rw [e]
    exact g.cell ((hc i hi j hj).trans e)
theorem ActV.rows.kp {x : ActV} {w w' : World} (h : x.rows w) (g : Kp w w') : x.rows w' := ⟨h.1.kp g, h.2.kp g⟩
theorem Blk.kp {U : Nat} {cs : Array Value} {T : TypeId} {w w' : World} (h : Blk U cs T w) (g : Kp w w') : Blk U cs T w' := (g.2.2.1 U h.lt).trans h
theorem Blk.by {U : Nat} {cs : Array Value} {T : TypeId} {w w' : World} {row : Option Nat} (h : Blk U cs T w) (g : w.grownBy w' row) (hne : some U ≠ row) : Blk U cs T w' := (g.block U h.lt hne).trans h
/-- Numbers that the call itself has gathered. -/
theorem owns_row {w : World} {base n : Nat} {v : Value} {Z : Nat → Int} (h : w.ownsRow base 3 1 v n ((List.range n).map fun i => Value.int .i64 (Z i))) : ∃ ao cap, v = .slice ao n cap ∧ Row w ao n Z ∧ ∀ U, U < base → Off U n ao := by
  rcases h.2 with ⟨rfl, rfl⟩ | ⟨g, cap, cur, rfl, hb, hg, hn, _, hsz, hxs⟩
  · exact ⟨none, 0, rfl, Or.inl rfl, fun _ _ h => absurd h (Nat.lt_irrefl _)⟩
  · refine ⟨_, cap, rfl, Or.inr ⟨g, 0, rfl, fun i hi => ?_⟩, fun U hU _ a ha => by cases ha; show g ≠ U; omega⟩
    rw [Nat.zero_add, cell_of_row w g i cur 3 (0, 0) hg]
    have e : (cur.toList.take (n * 1))[i]? = some (.int .i64 (Z i)) := by rw [hxs]; simp [hi]
    rw [List.getElem?_take, if_pos (by omega)] at e
    simpa using e

end Go.Proofs.YtecelkneiffceaaGreat
