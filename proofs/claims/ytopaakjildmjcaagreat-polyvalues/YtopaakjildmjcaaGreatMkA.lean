/- But for one block, what was there is as it was: no word of the marks. -/
import Derived.Test.YtopaakjildmjcaaGreatRowA
namespace Go.Proofs.YtopaakjildmjcaaGreat
open Go.RowKit Go.Proofs.Wd
set_option linter.unusedVariables false
set_option linter.unusedSimpArgs false
set_option maxRecDepth 10000

/-- But for block U, what was there is as it was. -/
def Mk (U : Nat) (w w' : World) : Prop := w'.os = w.os ∧ w'.output = w.output ∧ (∀ k, k < w.heap.size → k ≠ U → w'.heap[k]? = w.heap[k]?) ∧ w.heap.size ≤ w'.heap.size
theorem Mk.of {U : Nat} {w w' : World} (m : Mod U w w') : Mk U w w' := ⟨m.1, m.2.1, m.2.2.1, m.2.2.2.2⟩
theorem Mk.refl (U : Nat) (w : World) : Mk U w w := ⟨rfl, rfl, fun _ _ _ => rfl, Nat.le_refl _⟩
theorem Mk.trans {U : Nat} {a b c : World} (h : Mk U a b) (k : Mk U b c) : Mk U a c :=
  ⟨k.1.trans h.1, k.2.1.trans h.2.1, fun i hi hu => (k.2.2.1 i (Nat.lt_of_lt_of_le hi h.2.2.2) hu).trans (h.2.2.1 i hi hu), Nat.le_trans h.2.2.2 k.2.2.2⟩
theorem Mk.grown {U : Nat} {a b c : World} (h : Mk U a b) (k : Grown b c) : Mk U a c := h.trans (Mk.of (Mod.of k))
theorem Mk.by {U : Nat} {a b c : World} {row : Option Nat} (h : Mk U a b) (m : b.grownBy c row) (hr : ∀ k, row = some k → a.heap.size ≤ k) : Mk U a c :=
  ⟨m.os.trans h.1, m.output.trans h.2.1, fun i hi hu => (m.block i (Nat.lt_of_lt_of_le hi h.2.2.2) (fun e => by have := hr i e.symm; omega)).trans (h.2.2.1 i hi hu), Nat.le_trans h.2.2.2 m.size⟩
theorem Mk.new {U L : Nat} {a b c : World} (h : Mk U a b) (k : Mod L b c) (hL : a.heap.size ≤ L) : Mk U a c :=
  ⟨k.1.trans h.1, k.2.1.trans h.2.1, fun i hi hu => (k.2.2.1 i (Nat.lt_of_lt_of_le hi h.2.2.2) (by omega)).trans (h.2.2.1 i hi hu), Nat.le_trans h.2.2.2 k.2.2.2.2⟩
theorem Mk.kp {U : Nat} {a b : World} (k : Kp a b) : Mk U a b := ⟨k.1, k.2.1, fun i hi _ => k.2.2.1 i hi, k.2.2.2⟩
theorem Kp.mk {W a b : World} {U : Nat} (h : Kp W a) (m : Mk U a b) (hU : W.heap.size ≤ U) : Kp W b :=
  ⟨m.1.trans h.1, m.2.1.trans h.2.1, fun i hi => (m.2.2.1 i (Nat.lt_of_lt_of_le hi h.2.2.2) (by omega)).trans (h.2.2.1 i hi), Nat.le_trans h.2.2.2 m.2.2.2⟩
theorem Blk.mk {U V : Nat} {cs : Array Value} {T : TypeId} {w w' : World} (h : Blk U cs T w) (m : Mk V w w') (hne : U ≠ V) : Blk U cs T w' := (m.2.2.1 U h.lt hne).trans h
theorem Mk.cell {U : Nat} {w w' : World} (m : Mk U w w') {b o : Nat} {v : Value} (h : w.cell? ⟨b, o, none⟩ = some v) (hb : b ≠ U) : w'.cell? ⟨b, o, none⟩ = some v :=
  (World.cell?_of_block (m.2.2.1 b (heap_gt h) hb)).trans h
theorem Row.mk {U : Nat} {w w' : World} {ao : Option Addr} {len : Nat} {Z : Nat → Int} (h : Row w ao len Z) (m : Mk U w w') (ho : Off U len ao) : Row w' ao len Z := by
  rcases h with h | ⟨b, o, rfl, hc⟩
  · exact Or.inl h
  · exact Or.inr ⟨b, o, rfl, fun i hi => m.cell (hc i hi) (ho (by omega) _ rfl)⟩
theorem owns_mod {U : Nat} {w w' : World} {base : Nat} {e : TypeId} {size : Nat} {v : Value} {n : Nat} {xs : List Value} (h : w.ownsRow base e size v n xs) (m : Mod U w w') (hU : U < base) : w'.ownsRow base e size v n xs := by
  refine ⟨h.1, ?_⟩
  rcases h.2 with h2 | ⟨g, cap, cur, rfl, hb, hg, r⟩
  · exact Or.inl h2
  · exact Or.inr ⟨g, cap, cur, rfl, hb, (m.2.2.1 g (Array.getElem?_eq_some_iff.1 hg).1 (by omega)).trans hg, r⟩

end Go.Proofs.YtopaakjildmjcaaGreat
