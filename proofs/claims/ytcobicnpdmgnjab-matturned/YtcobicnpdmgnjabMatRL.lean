/- How matrices that are handed in lie in memory. -/
import Derived.Test.YtcobicnpdmgnjabRowL
namespace Go.Proofs.Ytcobicnpdmgnjab
open Go.ChangeShapes Go.WideShapes Go.ChangeAt Go.RowKit Go.Joins Go.Proofs.Wd Go.Deep
set_option linter.unusedVariables false
set_option linter.unusedSimpArgs false

set_option maxRecDepth 20000 in
theorem open_mat {H : Type} {enc : TypeId × Value → H} {W : World} {n : Nat} {cs : List Value} {y : DataW H × List MemPlace} (h : DataW.trod enc Try.prog W 0 (fun _ => true) true n 24 cs = some y) :
    ∃ (R C : Int) (ao : Option Addr) (ln lc : Nat) (Z : Nat → Int), cs = [.int .i64 R, .int .i64 C, .slice ao ln lc] ∧ I64 R ∧ I64 C ∧ ln ≤ lc ∧ lc ≤ 9223372036854775807 ∧ Row W ao ln Z ∧ (∀ i, i < ln → I64 (Z i)) ∧ (ao = none → ln = 0 ∧ lc = 0) := by
  obtain ⟨xs, m, _, _, hlen, hxl, hf⟩ := DataW.trod_struct Try.underlying24 h
  rw [show Try.prog.cellsOf 24 = 3 by kernel_rfl] at hlen
  match cs, hlen with
  | [v0, v1, v2], _ =>
  match xs, hxl with
  | [x0, x1, x2], _ =>
  have f0 : DataW.trod enc Try.prog W 0 (fun _ => true) true m 3 (([v0, v1, v2].drop 0).take (Try.prog.cellsOf 3)) = some x0 := hf 0 _ rfl
  rw [cellsInt] at f0
  have f1 : DataW.trod enc Try.prog W 0 (fun _ => true) true m 3 (([v0, v1, v2].drop 1).take (Try.prog.cellsOf 3)) = some x1 := hf 1 _ rfl
  rw [cellsInt] at f1
  have f2 : DataW.trod enc Try.prog W 0 (fun _ => true) true m 22 (([v0, v1, v2].drop 2).take (Try.prog.cellsOf 22)) = some x2 := hf 2 _ rfl
  rw [cellsInts] at f2
  obtain ⟨R, e0, _, w0⟩ := DataW.trod_int Try.underlying3 f0
  obtain ⟨C, e1, _, w1⟩ := DataW.trod_int Try.underlying3 f1
  obtain ⟨lo, ln, lc, lz, rfl, l1, l2, l3, l4, l5⟩ := open_row0 f2
  simp at e0 e1
  subst e0 e1
  exact ⟨R, C, lo, ln, lc, lz, rfl, i64_wf w0, i64_wf w1, l1, l2, l3, l4, l5⟩

end Go.Proofs.Ytcobicnpdmgnjab
