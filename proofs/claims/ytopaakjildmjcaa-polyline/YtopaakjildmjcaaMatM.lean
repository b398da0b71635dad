/- The laws' kit: matrices' copies, matrices side by side, lists written over; the laws' long. -/
import Derived.Test.YtopaakjildmjcaaMatL
import Derived.Deep.RegionHeld3
import Derived.Deep.DrawnRows
namespace Go.Proofs.Ytopaakjildmjcaa
open Go.RowKit Go.Shelf Go.Proofs.Wd
set_option linter.unusedVariables false
set_option linter.unusedSimpArgs false
set_option maxRecDepth 10000

/-- Numbers that the call itself has gathered, and how much room there is. -/
theorem owns_rowC {w : World} {base n : Nat} {v : Value} {Z : Nat → Int} (h : w.ownsRow base 3 1 v n ((List.range n).map fun i => Value.int .i64 (Z i))) : ∃ ao cap, v = .slice ao n cap ∧ n ≤ cap ∧ Row w ao n Z ∧ ∀ U, U < base → Off U n ao := by
  obtain ⟨ao, cap, rfl, h1, h2⟩ := owns_row h
  rcases h.2 with ⟨e, rfl⟩ | ⟨g, cap', cur, e, hb, hg, hn, _⟩
  · exact ⟨ao, cap, rfl, Nat.zero_le _, h1, h2⟩
  · injection e with e1 e2 e3
    exact ⟨ao, cap, rfl, by omega, h1, h2⟩
def CopyQ (n : Nat) (Z : Nat → Int) (w : World) (e : Ending) (w' : World) : Prop := ∃ ao cap, e = .returned (.slice ao n cap) ∧ n ≤ cap ∧ Row w' ao n Z ∧ (∀ U, U < w.heap.size → Off U n ao) ∧ Kp w w'

/-- A matrix's copy. -/
def CopyM (r c : Int) (n : Nat) (Z : Nat → Int) (w : World) (e : Ending) (w' : World) : Prop := ∃ ao cap, e = .returned (.agg #[.int .i64 r, .int .i64 c, .slice ao n cap]) ∧ n ≤ cap ∧ Row w' ao n Z ∧ (∀ U, U < w.heap.size → Off U n ao) ∧ Kp w w'

set_option maxHeartbeats 1000000 in
theorem kitSameM (r c : Int) (ao bo : Option Addr) (len c1 c2 : Nat) (X : Nat → Int) (hl : len ≤ 1000000) (w : World) (hr : Row w ao len X) (ht : Row w bo len X) :
    Calls Try.prog 16 #[.agg #[.int .i64 r, .int .i64 c, .slice ao len c1], .agg #[.int .i64 r, .int .i64 c, .slice bo len c2]] w fun e w' => e = .returned (.bool true) ∧ Kp w w' := by
  have G : Grown w ((w.alloc (.cells #[.int .i64 r, .int .i64 c, .slice ao len c1] 26)).alloc (.cells #[.int .i64 r, .int .i64 c, .slice bo len c2] 26)) := ((Grown.refl _).alloc _ _).alloc _ _
  have S := hide (kitSameQ ao bo len c1 c2 X hl _ (hr.grown G) (ht.grown G))
  have HG := hide G
  clear G hr ht
  go_enter Try.func16, Try.ntmps16
  go_wp2_with fail
  refine (unhide S).mono ?_
  rintro e w2 ⟨rfl, n, rfl⟩
  have K : Hid (Kp w (((w.alloc (.cells #[.int .i64 r, .int .i64 c, .slice ao len c1] 26)).alloc (.cells #[.int .i64 r, .int .i64 c, .slice bo len c2] 26)).drewN n)) := Kp.of (unhide HG)
  go_wp2
  go_ret
  exact ⟨rfl, unhide K⟩

end Go.Proofs.Ytopaakjildmjcaa
