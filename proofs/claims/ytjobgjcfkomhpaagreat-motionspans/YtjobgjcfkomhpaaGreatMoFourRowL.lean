/- How lists of numbers that are handed in lie in memory. -/
import Derived.Test.YtjobgjcfkomhpaaGreatMoFourT4
import Derived.ProofKit
import Derived.OpenShut
import Derived.Lib.SmallJoins
import Derived.Deep.Slices
import Derived.Carry
namespace Go.Proofs.YtjobgjcfkomhpaaGreat
open Go.ChangeShapes Go.WideShapes Go.ChangeAt Go.RowKit Go.Joins Go.Proofs.Wd Go.Deep
set_option linter.unusedVariables false
set_option linter.unusedSimpArgs false
set_option maxRecDepth 10000

theorem laid : laidOutB Tryz.prog = true := by kernel_rfl
theorem cellsInt : Tryz.prog.cellsOf 3 = 1 := by kernel_rfl
theorem cellsInts : Tryz.prog.cellsOf 22 = 1 := by kernel_rfl
theorem i64_wf {x : Int} (h : (Lit.int .i64 x).wf = true) : I64 x := by
  simp [Lit.wf, IntKind.min, IntKind.max, IntKind.signed, IntKind.bits] at h
  exact ⟨by omega, by omega⟩

/-- A place of what was handed in holds what it held. -/
theorem same_of {W W' : World} (g : Grown W W') {p : MemPlace} (hp : p.block < W.heap.size) : W.sameAt W' p := by
  cases p with
  | cell b o => exact World.cell?_of_block (w := W) (gblock g hp)
  | map b => exact gblock g hp

/-- A slice of numbers, as it is read. -/
theorem open_row0 {H : Type} {enc : TypeId × Value → H} {W : World} {n : Nat} {v : Value} {y : DataW H × List MemPlace} (h : DataW.trod enc Tryz.prog W 0 (fun _ => true) true n 22 [v] = some y) :
    ∃ (ao : Option Addr) (ln lc : Nat) (Z : Nat → Int), v = .slice ao ln lc ∧ ln ≤ lc ∧ lc ≤ 9223372036854775807 ∧ Row W ao ln Z ∧ (∀ i, i < ln → I64 (Z i)) ∧ (ao = none → ln = 0 ∧ lc = 0) := by
  rcases open_ints Tryz.underlying22 Tryz.underlying3 cellsInt h with ⟨h1, _⟩ | ⟨a, len, cap, zs, h1, _, h2, h3, h4, _, h5, h6⟩
  · simp only [List.cons.injEq, and_true] at h1
    exact ⟨none, 0, 0, fun _ => 0, h1, Nat.le_refl _, by omega, Or.inl rfl, fun i hi => absurd hi (Nat.not_lt_zero _), fun _ => ⟨rfl, rfl⟩⟩
  · simp only [List.cons.injEq, and_true] at h1
    simp only [if_true] at h4
    refine ⟨some a, len, cap, fun i => zs.getD i 0, h1, h2, h3, ?_, fun i hi => ?_, fun h => by cases h⟩
    · by_cases h0 : len = 0
      · exact Or.inl h0
      · obtain ⟨b, o, rfl, hc⟩ := Go.ints_at h5 (by omega)
        exact Or.inr ⟨b, o, rfl, fun i hi => hc i (by omega)⟩
    · have hi' : i < zs.length := by omega
      simp only [List.getD, List.getElem?_eq_getElem hi']
      exact i64_wf (h6 _ (List.getElem_mem _))

theorem open_row {H : Type} {enc : TypeId × Value → H} {W : World} {n : Nat} {v : Value} {y : DataW H × List MemPlace} (h : DataW.trod enc Tryz.prog W 0 (fun _ => true) true n 22 [v] = some y) :
    ∃ (ao : Option Addr) (ln lc : Nat) (Z : Nat → Int), v = .slice ao ln lc ∧ ln ≤ lc ∧ lc ≤ 9223372036854775807 ∧ Row W ao ln Z ∧ ∀ i, i < ln → I64 (Z i) :=
  let ⟨ao, ln, lc, Z, h1, h2, h3, h4, h5, _⟩ := open_row0 h
  ⟨ao, ln, lc, Z, h1, h2, h3, h4, h5⟩

/-- What a law's walk leaves, where something was appended to. -/
theorem post_of_kp {H : Type} {enc : TypeId × Value → H} {P : Program} {f : Func} {s : ChangeSpec} {apart fresh handsOn : Bool} {W W' : World} {args : Array Value} {v : Value} {ds gs : List (DataW H)} {before pa pv : List MemPlace}
    (hW : DataW.Whole enc P f.params.toList s.vars apart W args.toList ds gs before)
    (hres : ∀ b, DataW.TrodAll enc P W' b (fun _ => false) handsOn f.resultTypes.toList (v.resultList f.resultTypes.size) (s.fn H (ds ++ gs)).results [])
    (hargs : DataW.TrodAll enc P W' 0 (fun b => decide (b < W.heap.size)) true f.params.toList args.toList (s.fn H (ds ++ gs)).args pa)
    (hvars : DataW.TrodVars enc P W' (fun b => decide (b < W.heap.size)) s.vars (s.fn H (ds ++ gs)).vars pv) (hk : Kp W W') : s.post enc P f apart fresh handsOn false W args v W' :=
  ⟨ds, gs, before, [], pa, pv, hW, hres _, hargs, hvars, hk.frame _, fun h => by cases h⟩

end Go.Proofs.YtjobgjcfkomhpaaGreat
