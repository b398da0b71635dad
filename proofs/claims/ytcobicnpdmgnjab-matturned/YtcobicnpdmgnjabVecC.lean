/- Package vec: reckon, Sum, Less, Dot, of a unit that New made, and of none. -/
import Derived.Test.YtcobicnpdmgnjabVecB
namespace Go.Proofs.Ytcobicnpdmgnjab
open Go.RowKit Go.Proofs.Wd
set_option linter.unusedVariables false
set_option linter.unusedSimpArgs false

/-- A list that a call tells: new memory, and no error. -/
def VP (U len : Nat) (Z : Nat → Int) (c : Bool) (n : Int) (w : World) (e : Ending) (w' : World) : Prop :=
  ∃ L, w.heap.size ≤ L ∧ e = .returned (.tuple #[.slice (some ⟨L, 0, none⟩) len len, .int .i64 0]) ∧ Blk L (ints len Z) 3 w' ∧ UC U c n w' ∧ Mod U w w'
theorem VP.from {U len : Nat} {Z : Nat → Int} {c : Bool} {n : Int} {w w1 : World} {e : Ending} {w' : World} (h : VP U len Z c n w1 e w') (m : Mod U w w1) : VP U len Z c n w e w' := by
  obtain ⟨L, h1, h2, h3, h4, h5⟩ := h
  exact ⟨L, Nat.le_trans m.2.2.2.2 h1, h2, h3, h4, m.trans h5⟩

end Go.Proofs.Ytcobicnpdmgnjab
