/- How lists of numbers and acts that are handed in lie in memory. -/
import Derived.Test.YtecelkneiffceaaUnitE
import Derived.ProofKit
import Derived.OpenShut
import Derived.Lib.SmallJoins
import Derived.Deep.Slices
import Derived.Carry
namespace Go.Proofs.Ytecelkneiffceaa
open Go.ChangeShapes Go.WideShapes Go.ChangeAt Go.RowKit Go.Joins Go.Proofs.Wd Go.Deep
set_option linter.unusedVariables false
set_option linter.unusedSimpArgs false

theorem laid : laidOutB Try.prog = true := by kernel_rfl
theorem cellsInt : Try.prog.cellsOf 3 = 1 := by kernel_rfl
theorem cellsInts : Try.prog.cellsOf 22 = 1 := by kernel_rfl
theorem cellsBool : Try.prog.cellsOf 4 = 1 := by kernel_rfl
theorem i64_wf {x : Int} (h : (Lit.int .i64 x).wf = true) : I64 x := by
  simp [Lit.wf, IntKind.min, IntKind.max, IntKind.signed, IntKind.bits] at h
  exact ⟨by omega, by omega⟩

/-- A place of what was handed in holds what it held. -/
theorem same_of {W W' : World} (g : Grown W W') {p : MemPlace} (hp : p.block < W.heap.size) : W.sameAt W' p := by
  cases p with
  | cell b o => exact World.cell?_of_block (w := W) (gblock g hp)
  | map b => exact gblock g hp

/-- A slice of numbers, as it is read. -/
theorem open_row0 {H : Type} {enc : TypeId × Value → H} {W : World} {n : Nat} {v : Value} {y : DataW H × List MemPlace} (h : DataW.trod enc Try.prog W 0 (fun _ => true) true n 22 [v] = some y) :
    ∃ (ao : Option Addr) (ln lc : Nat) (Z : Nat → Int), v = .slice ao ln lc ∧ ln ≤ lc ∧ lc ≤ 9223372036854775807 ∧ Row W ao ln Z ∧ (∀ i, i < ln → I64 (Z i)) ∧ (ao = none → ln = 0 ∧ lc = 0) := by
  rcases open_ints Try.underlying22 Try.underlying3 cellsInt h with ⟨h1, _⟩ | ⟨a, len, cap, zs, h1, _, h2, h3, h4, _, h5, h6⟩
  · simp only [List.cons.injEq, and_true] at h1
    exact ⟨none, 0, 0, fun _ => 0, h1, Nat.le_refl _, by omega, Or.inl rfl, fun i hi => absurd hi (Nat.not_lt_zero _), fun _ => ⟨rfl, rfl⟩⟩
  · simp only [List.cons.injEq, and_true] at h1
    simp only [if_true] at h4
    refine ⟨some a, len, cap, fun i => zs.getD i 0, h1, h2, h3, ?_, fun i hi => ?_, fun h => by cases h⟩
    · by_cases h0 : len = 0
      · exact Or.inl h0
      · obtain ⟨b, o, rfl, hc⟩ := ints_at h5 (by omega)
        exact Or.inr ⟨b, o, rfl, fun i hi => hc i (by omega)⟩
    · have hi' : i < zs.length := by omega
      simp only [List.getD, List.getElem?_eq_getElem hi']
      exact i64_wf (h6 _ (List.getElem_mem _))

theorem open_row {H : Type} {enc : TypeId × Value → H} {W : World} {n : Nat} {v : Value} {y : DataW H × List MemPlace} (h : DataW.trod enc Try.prog W 0 (fun _ => true) true n 22 [v] = some y) :
    ∃ (ao : Option Addr) (ln lc : Nat) (Z : Nat → Int), v = .slice ao ln lc ∧ ln ≤ lc ∧ lc ≤ 9223372036854775807 ∧ Row W ao ln Z ∧ ∀ i, i < ln → I64 (Z i) :=
  let ⟨ao, ln, lc, Z, h1, h2, h3, h4, h5, _⟩ := open_row0 h
  ⟨ao, ln, lc, Z, h1, h2, h3, h4, h5⟩

/-- What is known of an act that is handed in. -/
structure ActV.ok (x : ActV) (W : World) : Prop where
  nums : x.nums
  kind : I64 x.kind
  rows : x.rows W
  ln : x.ln ≤ 9223372036854775807
  kn : x.kn ≤ 9223372036854775807
  l0 : x.lo = none → x.ln = 0 ∧ x.lc = 0
  k0 : x.ko = none → x.kn = 0 ∧ x.kc = 0

set_option maxRecDepth 20000 in
theorem open_act {H : Type} {enc : TypeId × Value → H} {W : World} {n : Nat} {cs : List Value} {y : DataW H × List MemPlace} (h : DataW.trod enc Try.prog W 0 (fun _ => true) true n 24 cs = some y) :
    ∃ x : ActV, cs = x.cells.toList ∧ x.ok W := by
  obtain ⟨xs, m, _, _, hlen, hxl, hf⟩ := DataW.trod_struct Try.underlying24 h
  rw [show Try.prog.cellsOf 24 = 6 by kernel_rfl] at hlen
  match cs, hlen with
  | [v0, v1, v2, v3, v4, v5], _ =>
  match xs, hxl with
  | [x0, x1, x2, x3, x4, x5], _ =>
  have f0 : DataW.trod enc Try.prog W 0 (fun _ => true) true m 3 (([v0, v1, v2, v3, v4, v5].drop 0).take (Try.prog.cellsOf 3)) = some x0 := hf 0 _ rfl
  rw [cellsInt] at f0
  have f1 : DataW.trod enc Try.prog W 0 (fun _ => true) true m 3 (([v0, v1, v2, v3, v4, v5].drop 1).take (Try.prog.cellsOf 3)) = some x1 := hf 1 _ rfl
  rw [cellsInt] at f1
  have f2 : DataW.trod enc Try.prog W 0 (fun _ => true) true m 3 (([v0, v1, v2, v3, v4, v5].drop 2).take (Try.prog.cellsOf 3)) = some x2 := hf 2 _ rfl
  rw [cellsInt] at f2
  have f3 : DataW.trod enc Try.prog W 0 (fun _ => true) true m 22 (([v0, v1, v2, v3, v4, v5].drop 3).take (Try.prog.cellsOf 22)) = some x3 := hf 3 _ rfl
  rw [cellsInts] at f3
  have f4 : DataW.trod enc Try.prog W 0 (fun _ => true) true m 22 (([v0, v1, v2, v3, v4, v5].drop 4).take (Try.prog.cellsOf 22)) = some x4 := hf 4 _ rfl
  rw [cellsInts] at f4
  have f5 : DataW.trod enc Try.prog W 0 (fun _ => true) true m 4 (([v0, v1, v2, v3, v4, v5].drop 5).take (Try.prog.cellsOf 4)) = some x5 := hf 5 _ rfl
  rw [cellsBool] at f5
  obtain ⟨k, e0, _, w0⟩ := DataW.trod_int Try.underlying3 f0
  obtain ⟨a, e1, _, w1⟩ := DataW.trod_int Try.underlying3 f1
  obtain ⟨b, e2, _, w2⟩ := DataW.trod_int Try.underlying3 f2
  obtain ⟨lo, ln, lc, lz, rfl, l1, l2, l3, l4, l5⟩ := open_row0 f3
  obtain ⟨ko, kn, kc, kz, rfl, k1, k2, k3, k4, k5⟩ := open_row0 f4
  obtain ⟨is, e5, _⟩ := DataW.trod_bool Try.underlying4 f5
  simp at e0 e1 e2 e5
  subst e0 e1 e2 e5
  exact ⟨⟨k, a, b, lo, ln, lc, ko, kn, kc, is, lz, kz⟩, rfl, ⟨i64_wf w1, i64_wf w2, l4, k4⟩, i64_wf w0, ⟨l3, k3⟩, Nat.le_trans l1 l2, Nat.le_trans k1 k2, l5, k5⟩

/-- A slice of acts, as it is read. -/
theorem open_acts {H : Type} {enc : TypeId × Value → H} {W : World} {n : Nat} {v : Value} {y : DataW H × List MemPlace} (h : DataW.trod enc Try.prog W 0 (fun _ => true) true n 26 [v] = some y) :
    ∃ (ao : Option Addr) (len cap : Nat) (X : Nat → ActV), v = .slice ao len cap ∧ len ≤ 9223372036854775807 ∧ Acts W ao len X ∧ ∀ i, i < len → (X i).ok W := by
  rcases open_slice Try.underlying26 h with ⟨h1, _⟩ | ⟨a, len, cap, m, k, D, Pl, h1, _, h2, h3, h4, _, h5⟩
  · simp only [List.cons.injEq, and_true] at h1
    exact ⟨none, 0, 0, fun _ => ⟨0, 0, 0, none, 0, 0, none, 0, 0, false, fun _ => 0, fun _ => 0⟩, h1, by omega, Or.inl rfl, fun i hi => absurd hi (Nat.not_lt_zero _)⟩
  · simp only [List.cons.injEq, and_true] at h1
    simp only [if_true] at h4
    rw [show Try.prog.cellsOf 24 = 6 by kernel_rfl] at h5
    have inh : Inhabited ActV := ⟨⟨0, 0, 0, none, 0, 0, none, 0, 0, false, fun _ => 0, fun _ => 0⟩⟩
    obtain ⟨X, hX⟩ := choose_lt (α := ActV) (n := len) (p := fun i x => (∀ j, j < 6 → W.cell? (a.add (i * 6 + j)) = x.cells[j]?) ∧ x.ok W) (fun i hi => by
      obtain ⟨cs, c1, c2⟩ := h5 i (by omega)
      obtain ⟨x, e, ok⟩ := open_act c2
      subst e
      refine ⟨x, fun j hj => ?_, ok⟩
      have := (World.cells?_some c1).2.2 j hj
      rw [Go.Deep.add_add] at this
      rw [this]
      simp)
    refine ⟨some a, len, cap, X, h1, Nat.le_trans h2 h3, ?_, fun i hi => (hX i hi).2⟩
    by_cases h0 : len = 0
    · exact Or.inl h0
    · obtain ⟨b, off, spot⟩ := a
      have hs : spot = none := by
        have := (hX 0 (by omega)).1 0 (by omega)
        simp only [ActV.cells] at this
        simpa [Addr.add] using World.cell?_spot this
      subst hs
      refine Or.inr ⟨b, off, rfl, fun i hi j hj => ?_⟩
      have := (hX i hi).1 j hj
      rw [add_plain] at this
      rw [Nat.add_assoc]
      exact this

end Go.Proofs.Ytecelkneiffceaa
