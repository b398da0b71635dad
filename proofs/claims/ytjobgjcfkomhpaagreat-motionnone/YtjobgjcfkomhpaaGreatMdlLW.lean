/- MdlL, as far as MoFour wants it. -/
import Derived.Test.YtjobgjcfkomhpaaGreatMoFourT4
import Derived.Test.YtjobgjcfkomhpaaGreatMoFourRowL
import Derived.ProofKit
import Derived.OpenShut
import Derived.Lib.SmallJoins
import Derived.Deep.Slices
import Derived.Carry
set_option linter.unusedVariables false
set_option linter.unusedSimpArgs false
namespace Go.Proofs.YtjobgjcfkomhpaaGreat
open Go.ChangeShapes Go.WideShapes Go.ChangeAt Go.RowKit Go.Joins Go.Proofs.Wd Go.Deep
set_option maxRecDepth 10000
structure LV.okIn (x : LV) (W : World) : Prop where
 row : x.ok W
 nums : ∀ i, i < x.len → I64 (x.Z i)
 le : x.len ≤ x.cap
 lm : x.cap ≤ 9223372036854775807
 nil : x.ao = none → x.len = 0 ∧ x.cap = 0
structure RV.okIn (x : RV) (W : World) : Prop where
 h : x.h.okIn W
 s : I64 x.s
 r : I64 x.r
structure DV.okIn (m : DV) (W : World) : Prop where
 N : I64 m.N
 A : m.A.okIn W
 Q : m.Q.okIn W
 tick : I64 m.tick
 gate : I64 m.gate
 rmin : I64 m.rmin
 rvs : RVs W m.ro m.rl m.X
 each : ∀ i, i < m.rl → (m.X i).okIn W
 le : m.rl ≤ m.rc
 lm : m.rc ≤ 9223372036854775807
 nil : m.ro = none → m.rl = 0 ∧ m.rc = 0
theorem open_list {H : Type} {enc : TypeId × Value → H} {W : World} {n : Nat} {v : Value} {y : DataW H × List MemPlace} (h : DataW.trod enc Tryz.prog W 0 (fun _ => true) true n 22 [v] = some y) : ∃ x : LV, v = x.val ∧ x.okIn W := by
 obtain ⟨lo, ln, lc, lz, rfl, l1, l2, l3, l4, l5⟩ := open_row0 h
 exact ⟨⟨lo, ln, lc, lz⟩, rfl, l3, l4, l1, l2, l5⟩
set_option maxRecDepth 20000 in
theorem open_rowS {H : Type} {enc : TypeId × Value → H} {W : World} {n : Nat} {cs : List Value} {y : DataW H × List MemPlace} (h : DataW.trod enc Tryz.prog W 0 (fun _ => true) true n 62 cs = some y) : ∃ x : RV, cs = x.cells.toList ∧ x.okIn W := by
 obtain ⟨xs, m, _, _, hlen, hxl, hf⟩ := DataW.trod_struct Tryz.underlying62 h
 rw [show Tryz.prog.cellsOf 62 = 3 by kernel_rfl] at hlen
 match cs, hlen with
 | [v0, v1, v2], _ =>
 match xs, hxl with
 | [x0, x1, x2], _ =>
 have f0 : DataW.trod enc Tryz.prog W 0 (fun _ => true) true m 3 (([v0, v1, v2].drop 0).take (Tryz.prog.cellsOf 3)) = some x0 := hf 0 _ rfl
 rw [cellsInt] at f0
 have f1 : DataW.trod enc Tryz.prog W 0 (fun _ => true) true m 22 (([v0, v1, v2].drop 1).take (Tryz.prog.cellsOf 22)) = some x1 := hf 1 _ rfl
 rw [cellsInts] at f1
 have f2 : DataW.trod enc Tryz.prog W 0 (fun _ => true) true m 3 (([v0, v1, v2].drop 2).take (Tryz.prog.cellsOf 3)) = some x2 := hf 2 _ rfl
 rw [cellsInt] at f2
 obtain ⟨s, e0, _, w0⟩ := DataW.trod_int Tryz.underlying3 f0
 obtain ⟨hv, e1, oh⟩ := open_list (v := v1) f1
 obtain ⟨r, e2, _, w2⟩ := DataW.trod_int Tryz.underlying3 f2
 simp at e0 e2
 subst e0 e1 e2
 exact ⟨⟨s, hv, r⟩, rfl, oh, i64_wf w0, i64_wf w2⟩
def z0RV : RV := ⟨0, ⟨none, 0, 0, fun _ => 0⟩, 0⟩
theorem open_rowsS {H : Type} {enc : TypeId × Value → H} {W : World} {n : Nat} {v : Value} {y : DataW H × List MemPlace} (h : DataW.trod enc Tryz.prog W 0 (fun _ => true) true n 23 [v] = some y) :
  ∃ (ao : Option Addr) (len cap : Nat) (X : Nat → RV), v = .slice ao len cap ∧ len ≤ cap ∧ cap ≤ 9223372036854775807 ∧ RVs W ao len X ∧ (∀ i, i < len → (X i).okIn W) ∧ (ao = none → len = 0 ∧ cap = 0) := by
 rcases open_slice Tryz.underlying23 h with ⟨h1, _⟩ | ⟨a, len, cap, m, k, D, Pl, h1, _, h2, h3, h4, _, h5⟩
 ·simp only [List.cons.injEq, and_true] at h1
  exact ⟨none, 0, 0, fun _ => z0RV, h1, Nat.le_refl _, by omega, Or.inl rfl, fun i hi => absurd hi (Nat.not_lt_zero _), fun _ => ⟨rfl, rfl⟩⟩
 ·simp only [List.cons.injEq, and_true] at h1
  simp only [if_true] at h4
  rw [show Tryz.prog.cellsOf 62 = 3 by kernel_rfl] at h5
  have inh : Inhabited RV := ⟨z0RV⟩
  obtain ⟨X, hX⟩ := choose_lt (α := RV) (n := len) (p := fun i x => (∀ j, j < 3 → W.cell? (a.add (i * 3 + j)) = x.cells[j]?) ∧ x.okIn W) (fun i hi => by
   obtain ⟨cs, c1, c2⟩ := h5 i (by omega)
   obtain ⟨x, e, ok⟩ := open_rowS c2
   subst e
   refine ⟨x, fun j hj => ?_, ok⟩
   have := (World.cells?_some c1).2.2 j hj
   rw [Go.Deep.add_add] at this
   rw [this]
   simp)
  refine ⟨some a, len, cap, X, h1, h2, h3, ?_, fun i hi => (hX i hi).2, fun e => by cases e⟩
  by_cases h0 : len = 0
  ·exact Or.inl h0
  ·obtain ⟨b, off, spot⟩ := a
   have hs : spot = none := by
    have := (hX 0 (by omega)).1 0 (by omega)
    simp only [RV.cells] at this
    simpa [Addr.add] using World.cell?_spot this
   subst hs
   refine Or.inr ⟨b, off, rfl, fun i hi j hj => ?_⟩
   have := (hX i hi).1 j hj
   rw [add_plain] at this
   rw [Nat.add_assoc]
   exact this
theorem cellsRows : Tryz.prog.cellsOf 23 = 1 := by kernel_rfl
set_option maxRecDepth 20000 in
theorem open_model {H : Type} {enc : TypeId × Value → H} {W : World} {n : Nat} {cs : List Value} {y : DataW H × List MemPlace} (h : DataW.trod enc Tryz.prog W 0 (fun _ => true) true n 25 cs = some y) : ∃ m : DV, cs = m.cells.toList ∧ m.okIn W := by
 obtain ⟨xs, m, _, _, hlen, hxl, hf⟩ := DataW.trod_struct Tryz.underlying25 h
 rw [show Tryz.prog.cellsOf 25 = 7 by kernel_rfl] at hlen
 match cs, hlen with
 | [v0, v1, v2, v3, v4, v5, v6], _ =>
 match xs, hxl with
 | [x0, x1, x2, x3, x4, x5, x6], _ =>
 have f0 : DataW.trod enc Tryz.prog W 0 (fun _ => true) true m 3 (([v0, v1, v2, v3, v4, v5, v6].drop 0).take (Tryz.prog.cellsOf 3)) = some x0 := hf 0 _ rfl
 rw [cellsInt] at f0
 have f1 : DataW.trod enc Tryz.prog W 0 (fun _ => true) true m 22 (([v0, v1, v2, v3, v4, v5, v6].drop 1).take (Tryz.prog.cellsOf 22)) = some x1 := hf 1 _ rfl
 rw [cellsInts] at f1
 have f2 : DataW.trod enc Tryz.prog W 0 (fun _ => true) true m 22 (([v0, v1, v2, v3, v4, v5, v6].drop 2).take (Tryz.prog.cellsOf 22)) = some x2 := hf 2 _ rfl
 rw [cellsInts] at f2
 have f3 : DataW.trod enc Tryz.prog W 0 (fun _ => true) true m 3 (([v0, v1, v2, v3, v4, v5, v6].drop 3).take (Tryz.prog.cellsOf 3)) = some x3 := hf 3 _ rfl
 rw [cellsInt] at f3
 have f4 : DataW.trod enc Tryz.prog W 0 (fun _ => true) true m 3 (([v0, v1, v2, v3, v4, v5, v6].drop 4).take (Tryz.prog.cellsOf 3)) = some x4 := hf 4 _ rfl
 rw [cellsInt] at f4
 have f5 : DataW.trod enc Tryz.prog W 0 (fun _ => true) true m 3 (([v0, v1, v2, v3, v4, v5, v6].drop 5).take (Tryz.prog.cellsOf 3)) = some x5 := hf 5 _ rfl
 rw [cellsInt] at f5
 have f6 : DataW.trod enc Tryz.prog W 0 (fun _ => true) true m 23 (([v0, v1, v2, v3, v4, v5, v6].drop 6).take (Tryz.prog.cellsOf 23)) = some x6 := hf 6 _ rfl
 rw [cellsRows] at f6
 obtain ⟨a0, e0, _, w0⟩ := DataW.trod_int Tryz.underlying3 f0
 obtain ⟨l1, e1, o1⟩ := open_list (v := v1) f1
 obtain ⟨l2, e2, o2⟩ := open_list (v := v2) f2
 obtain ⟨a3, e3, _, w3⟩ := DataW.trod_int Tryz.underlying3 f3
 obtain ⟨a4, e4, _, w4⟩ := DataW.trod_int Tryz.underlying3 f4
 obtain ⟨a5, e5, _, w5⟩ := DataW.trod_int Tryz.underlying3 f5
 obtain ⟨ro, rl, rc, X, e6, r1, r2, r3, r4, r5⟩ := open_rowsS (v := v6) f6
 simp at e0 e3 e4 e5
 subst e0 e1 e2 e3 e4 e5 e6
 exact ⟨⟨a0, l1, l2, a3, a4, a5, ro, rl, rc, X⟩, rfl, i64_wf w0, o1, o2, i64_wf w3, i64_wf w4, i64_wf w5, r3, r4, r1, r2, r5⟩
end Go.Proofs.YtjobgjcfkomhpaaGreat
