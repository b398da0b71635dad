/- MdlV MdlL MdlG MdlRa MdlRb MdlRd MdlRe MdlF MdlT, one after another. -/
import Derived.Test.YtpanfppnkgokdaaMdlRow
import Derived.Test.YtpanfppnkgokdaaRowLB
import Derived.ProofKit
import Derived.OpenShut
import Derived.Lib.SmallJoins
import Derived.Deep.Slices
import Derived.Carry
import Derived.Test.YtpanfppnkgokdaaMdlBase
import Derived.Deep.RegionHeld3
import Derived.Deep.DrawnRows
/- Models, rows and beliefs as values. -/
namespace Go.Proofs.Ytpanfppnkgokdaa
open Go.RowKit Go.Shelf Go.Proofs.Wd
set_option linter.unusedVariables false
set_option linter.unusedSimpArgs false
set_option maxRecDepth 10000

/-- A list of numbers. -/
structure LV where
  ao : Option Addr
  len : Nat
  cap : Nat
  Z : Nat → Int
def LV.val (x : LV) : Value := .slice x.ao x.len x.cap
/-- A row of a model. -/
structure RV where
  s : Int
  h : LV
  r : Int
def RV.cells (x : RV) : Array Value := #[.int .i64 x.s, .slice x.h.ao x.h.len x.h.cap, .int .i64 x.r]
/-- A list of rows, as it is read: where its cells lie. -/
def RVs (w : World) (ao : Option Addr) (n : Nat) (X : Nat → RV) : Prop := n = 0 ∨ ∃ b o, ao = some ⟨b, o, none⟩ ∧ ∀ i, i < n → ∀ j, j < 3 → w.cell? ⟨b, o + i * 3 + j, none⟩ = (X i).cells[j]?
theorem RVs.at {w : World} {ao : Option Addr} {n : Nat} {X : Nat → RV} (h : RVs w ao n X) {k : Nat} (hk : k < n) : ∃ b o, ao = some ⟨b, o, none⟩ ∧ w.cell? ⟨b, o + k * 3, none⟩ = some (.int .i64 (X k).s) ∧ w.cell? ⟨b, o + k * 3 + 1, none⟩ = some (.slice (X k).h.ao (X k).h.len (X k).h.cap) ∧ w.cell? ⟨b, o + k * 3 + 2, none⟩ = some (.int .i64 (X k).r) := by
  rcases h with h | ⟨b, o, rfl, hc⟩
  · omega
  · exact ⟨b, o, rfl, hc k hk 0 (by omega), hc k hk 1 (by omega), hc k hk 2 (by omega)⟩
theorem RVs.cells {w w' : World} {ao : Option Addr} {n : Nat} {X : Nat → RV} (h : RVs w ao n X) (k : ∀ b o (v : Value), (0 < n → ∃ o', ao = some ⟨b, o', none⟩) → w.cell? ⟨b, o, none⟩ = some v → w'.cell? ⟨b, o, none⟩ = some v) : RVs w' ao n X := by
  rcases h with h | ⟨b, o, rfl, hc⟩
  · exact Or.inl h
  · refine Or.inr ⟨b, o, rfl, fun i hi j hj => ?_⟩
    have := hc i hi j hj
    have hs : ∃ v, (X i).cells[j]? = some v := ⟨_, Array.getElem?_eq_getElem (by show j < 3; exact hj)⟩
    obtain ⟨v, hv⟩ := hs
    rw [hv] at this ⊢
    exact k b _ v (fun _ => ⟨o, rfl⟩) this
theorem RVs.kp {w w' : World} {ao : Option Addr} {n : Nat} {X : Nat → RV} (h : RVs w ao n X) (k : Kp w w') : RVs w' ao n X := h.cells fun _ _ _ _ hv => k.cell hv
theorem RVs.grown {w w' : World} {ao : Option Addr} {n : Nat} {X : Nat → RV} (h : RVs w ao n X) (k : Grown w w') : RVs w' ao n X := h.kp (Kp.of k)
/-- A model. -/
structure DV where
  N : Int
  A : LV
  Q : LV
  tick : Int
  gate : Int
  rmin : Int
  ro : Option Addr
  rl : Nat
  rc : Nat
  X : Nat → RV
def DV.cells (m : DV) : Array Value := #[.int .i64 m.N, .slice m.A.ao m.A.len m.A.cap, .slice m.Q.ao m.Q.len m.Q.cap, .int .i64 m.tick, .int .i64 m.gate, .int .i64 m.rmin, .slice m.ro m.rl m.rc]
def DV.val (m : DV) : Value := .agg m.cells
/-- A belief. -/
structure BV where
  at' : Int
  x : LV
  p : LV
  flag : Bool
  pass : Int
  fail : Int
def BV.cells (b : BV) : Array Value := #[.int .i64 b.at', .slice b.x.ao b.x.len b.x.cap, .slice b.p.ao b.p.len b.p.cap, .bool b.flag, .int .i64 b.pass, .int .i64 b.fail]
def BV.val (b : BV) : Value := .agg b.cells
/-- What lies in memory. -/
def LV.ok (x : LV) (W : World) : Prop := Row W x.ao x.len x.Z
def DV.rows (m : DV) (W : World) : Prop := m.A.ok W ∧ m.Q.ok W ∧ RVs W m.ro m.rl m.X ∧ ∀ i, i < m.rl → (m.X i).h.ok W
def BV.rows (b : BV) (W : World) : Prop := b.x.ok W ∧ b.p.ok W
theorem LV.ok.kp {x : LV} {W W' : World} (h : x.ok W) (k : Kp W W') : x.ok W' := Row.kp h k
theorem DV.rows.kp {m : DV} {W W' : World} (h : m.rows W) (k : Kp W W') : m.rows W' := ⟨h.1.kp k, h.2.1.kp k, h.2.2.1.kp k, fun i hi => (h.2.2.2 i hi).kp k⟩
theorem BV.rows.kp {b : BV} {W W' : World} (h : b.rows W) (k : Kp W W') : b.rows W' := ⟨h.1.kp k, h.2.kp k⟩

/-- Which models may be. -/
def farP (x : Int) : Prop := -68719476736 ≤ x ∧ x ≤ 68719476736
def lastS (X : Nat → RV) : Nat → Int
  | 0 => 1
  | i + 1 => (X i).s
def okRow (N rmin last : Int) (x : RV) : Prop := (1 ≤ x.s ∧ x.s ≤ 16 ∧ last ≤ x.s) ∧ (x.h.len : Int) = N ∧ rmin ≤ x.r ∧ ∀ j, j < x.h.len → farP (x.h.Z j)
def okMoves (n al ql : Nat) (A Q : Nat → Int) : Prop := al = n * n ∧ ql = n ∧ ∀ i, i < n → (0 ≤ Q i ∧ Q i ≤ 68719476736) ∧ ∀ k, k < n → farP (A (i * n + k)) ∧ (k ≤ i → A (i * n + k) = 0)
def okD (m : DV) : Prop := (1 ≤ m.N ∧ m.N ≤ 6) ∧ okMoves m.N.toNat m.A.len m.Q.len m.A.Z m.Q.Z ∧ (1 ≤ m.tick ∧ m.tick ≤ 4294967296) ∧ 1 ≤ m.gate ∧ 1 ≤ m.rmin ∧ m.rl ≤ 24 ∧ ∀ i, i < m.rl → okRow m.N m.rmin (lastS m.X i) (m.X i)
open Classical in
noncomputable def chkD (m : DV) : Int := if okD m then 0 else 2
/-- Why a belief does not fit. -/
def sizeB (m : DV) (b : BV) : Prop := (b.x.len : Int) = m.N ∧ (b.p.len : Int) = m.N * m.N
def spanB (b : BV) : Prop := (0 ≤ b.at' ∧ b.at' ≤ 1099511627776) ∧ (0 ≤ b.pass ∧ b.pass ≤ 1099511627776) ∧ (0 ≤ b.fail ∧ b.fail ≤ 1099511627776)
def formB (n : Nat) (X P : Nat → Int) : Prop := ∀ i, i < n → -9223372036854775807 ≤ X i ∧ 0 ≤ P (i * n + i) ∧ ∀ k, k < n → -9223372036854775807 ≤ P (i * n + k) ∧ P (i * n + k) = P (k * n + i)
open Classical in
noncomputable def fitD (m : DV) (b : BV) : Int := if okD m then (if sizeB m b then (if spanB b then (if formB m.N.toNat b.x.Z b.p.Z then 0 else 5) else 4) else 3) else 2
/-- Which rows a sensor has: their places, up to the k-th. -/
def sensed (X : Nat → RV) (s : Int) : Nat → List Nat
  | 0 => []
  | k + 1 => if (X k).s = s then sensed X s k ++ [k] else sensed X s k

end Go.Proofs.Ytpanfppnkgokdaa

/- How models and beliefs that are handed in lie in memory. -/
namespace Go.Proofs.Ytpanfppnkgokdaa
open Go.ChangeShapes Go.WideShapes Go.ChangeAt Go.RowKit Go.Joins Go.Proofs.Wd Go.Deep
set_option linter.unusedVariables false
set_option linter.unusedSimpArgs false
set_option maxRecDepth 10000

/-- What is known of a list that is handed in. -/
structure LV.okIn (x : LV) (W : World) : Prop where
  row : x.ok W
  nums : ∀ i, i < x.len → I64 (x.Z i)
  le : x.len ≤ x.cap
  lm : x.cap ≤ 9223372036854775807
  nil : x.ao = none → x.len = 0 ∧ x.cap = 0
structure RV.okIn (x : RV) (W : World) : Prop where
  h : x.h.okIn W
  s : I64 x.s
  r : I64 x.r
structure DV.okIn (m : DV) (W : World) : Prop where
  N : I64 m.N
  A : m.A.okIn W
  Q : m.Q.okIn W
  tick : I64 m.tick
  gate : I64 m.gate
  rmin : I64 m.rmin
  rvs : RVs W m.ro m.rl m.X
  each : ∀ i, i < m.rl → (m.X i).okIn W
  le : m.rl ≤ m.rc
  lm : m.rc ≤ 9223372036854775807
  nil : m.ro = none → m.rl = 0 ∧ m.rc = 0
structure BV.okIn (b : BV) (W : World) : Prop where
  at' : I64 b.at'
  x : b.x.okIn W
  p : b.p.okIn W
  pass : I64 b.pass
  fail : I64 b.fail
theorem DV.okIn.rows {m : DV} {W : World} (h : m.okIn W) : m.rows W := ⟨h.A.row, h.Q.row, h.rvs, fun i hi => (h.each i hi).h.row⟩
theorem BV.okIn.rows {b : BV} {W : World} (h : b.okIn W) : b.rows W := ⟨h.x.row, h.p.row⟩

theorem open_list {H : Type} {enc : TypeId × Value → H} {W : World} {n : Nat} {v : Value} {y : DataW H × List MemPlace} (h : DataW.trod enc Try.prog W 0 (fun _ => true) true n 22 [v] = some y) : ∃ x : LV, v = x.val ∧ x.okIn W := by
  obtain ⟨lo, ln, lc, lz, rfl, l1, l2, l3, l4, l5⟩ := open_row0 h
  exact ⟨⟨lo, ln, lc, lz⟩, rfl, l3, l4, l1, l2, l5⟩
set_option maxRecDepth 20000 in
theorem open_rowS {H : Type} {enc : TypeId × Value → H} {W : World} {n : Nat} {cs : List Value} {y : DataW H × List MemPlace} (h : DataW.trod enc Try.prog W 0 (fun _ => true) true n 41 cs = some y) : ∃ x : RV, cs = x.cells.toList ∧ x.okIn W := by
  obtain ⟨xs, m, _, _, hlen, hxl, hf⟩ := DataW.trod_struct Try.underlying41 h
  rw [show Try.prog.cellsOf 41 = 3 by kernel_rfl] at hlen
  match cs, hlen with
  | [v0, v1, v2], _ =>
  match xs, hxl with
  | [x0, x1, x2], _ =>
  have f0 : DataW.trod enc Try.prog W 0 (fun _ => true) true m 3 (([v0, v1, v2].drop 0).take (Try.prog.cellsOf 3)) = some x0 := hf 0 _ rfl
  rw [cellsInt] at f0
  have f1 : DataW.trod enc Try.prog W 0 (fun _ => true) true m 22 (([v0, v1, v2].drop 1).take (Try.prog.cellsOf 22)) = some x1 := hf 1 _ rfl
  rw [cellsInts] at f1
  have f2 : DataW.trod enc Try.prog W 0 (fun _ => true) true m 3 (([v0, v1, v2].drop 2).take (Try.prog.cellsOf 3)) = some x2 := hf 2 _ rfl
  rw [cellsInt] at f2
  obtain ⟨s, e0, _, w0⟩ := DataW.trod_int Try.underlying3 f0
  obtain ⟨hv, e1, oh⟩ := open_list (v := v1) f1
  obtain ⟨r, e2, _, w2⟩ := DataW.trod_int Try.underlying3 f2
  simp at e0 e2
  subst e0 e1 e2
  exact ⟨⟨s, hv, r⟩, rfl, oh, i64_wf w0, i64_wf w2⟩
def z0RV : RV := ⟨0, ⟨none, 0, 0, fun _ => 0⟩, 0⟩
theorem open_rowsS {H : Type} {enc : TypeId × Value → H} {W : World} {n : Nat} {v : Value} {y : DataW H × List MemPlace} (h : DataW.trod enc Try.prog W 0 (fun _ => true) true n 23 [v] = some y) :
    ∃ (ao : Option Addr) (len cap : Nat) (X : Nat → RV), v = .slice ao len cap ∧ len ≤ cap ∧ cap ≤ 9223372036854775807 ∧ RVs W ao len X ∧ (∀ i, i < len → (X i).okIn W) ∧ (ao = none → len = 0 ∧ cap = 0) := by
  rcases open_slice Try.underlying23 h with ⟨h1, _⟩ | ⟨a, len, cap, m, k, D, Pl, h1, _, h2, h3, h4, _, h5⟩
  · simp only [List.cons.injEq, and_true] at h1
    exact ⟨none, 0, 0, fun _ => z0RV, h1, Nat.le_refl _, by omega, Or.inl rfl, fun i hi => absurd hi (Nat.not_lt_zero _), fun _ => ⟨rfl, rfl⟩⟩
  · simp only [List.cons.injEq, and_true] at h1
    simp only [if_true] at h4
    rw [show Try.prog.cellsOf 41 = 3 by kernel_rfl] at h5
    have inh : Inhabited RV := ⟨z0RV⟩
    obtain ⟨X, hX⟩ := choose_lt (α := RV) (n := len) (p := fun i x => (∀ j, j < 3 → W.cell? (a.add (i * 3 + j)) = x.cells[j]?) ∧ x.okIn W) (fun i hi => by
      obtain ⟨cs, c1, c2⟩ := h5 i (by omega)
      obtain ⟨x, e, ok⟩ := open_rowS c2
      subst e
      refine ⟨x, fun j hj => ?_, ok⟩
      have := (World.cells?_some c1).2.2 j hj
      rw [Go.Deep.add_add] at this
      rw [this]
      simp)
    refine ⟨some a, len, cap, X, h1, h2, h3, ?_, fun i hi => (hX i hi).2, fun e => by cases e⟩
    by_cases h0 : len = 0
    · exact Or.inl h0
    · obtain ⟨b, off, spot⟩ := a
      have hs : spot = none := by
        have := (hX 0 (by omega)).1 0 (by omega)
        simp only [RV.cells] at this
        simpa [Addr.add] using World.cell?_spot this
      subst hs
      refine Or.inr ⟨b, off, rfl, fun i hi j hj => ?_⟩
      have := (hX i hi).1 j hj
      rw [add_plain] at this
      rw [Nat.add_assoc]
      exact this
theorem cellsRows : Try.prog.cellsOf 23 = 1 := by kernel_rfl
theorem cellsBoolM : Try.prog.cellsOf 4 = 1 := by kernel_rfl
set_option maxRecDepth 20000 in
theorem open_model {H : Type} {enc : TypeId × Value → H} {W : World} {n : Nat} {cs : List Value} {y : DataW H × List MemPlace} (h : DataW.trod enc Try.prog W 0 (fun _ => true) true n 25 cs = some y) : ∃ m : DV, cs = m.cells.toList ∧ m.okIn W := by
  obtain ⟨xs, m, _, _, hlen, hxl, hf⟩ := DataW.trod_struct Try.underlying25 h
  rw [show Try.prog.cellsOf 25 = 7 by kernel_rfl] at hlen
  match cs, hlen with
  | [v0, v1, v2, v3, v4, v5, v6], _ =>
  match xs, hxl with
  | [x0, x1, x2, x3, x4, x5, x6], _ =>
  have f0 : DataW.trod enc Try.prog W 0 (fun _ => true) true m 3 (([v0, v1, v2, v3, v4, v5, v6].drop 0).take (Try.prog.cellsOf 3)) = some x0 := hf 0 _ rfl
  rw [cellsInt] at f0
  have f1 : DataW.trod enc Try.prog W 0 (fun _ => true) true m 22 (([v0, v1, v2, v3, v4, v5, v6].drop 1).take (Try.prog.cellsOf 22)) = some x1 := hf 1 _ rfl
  rw [cellsInts] at f1
  have f2 : DataW.trod enc Try.prog W 0 (fun _ => true) true m 22 (([v0, v1, v2, v3, v4, v5, v6].drop 2).take (Try.prog.cellsOf 22)) = some x2 := hf 2 _ rfl
  rw [cellsInts] at f2
  have f3 : DataW.trod enc Try.prog W 0 (fun _ => true) true m 3 (([v0, v1, v2, v3, v4, v5, v6].drop 3).take (Try.prog.cellsOf 3)) = some x3 := hf 3 _ rfl
  rw [cellsInt] at f3
  have f4 : DataW.trod enc Try.prog W 0 (fun _ => true) true m 3 (([v0, v1, v2, v3, v4, v5, v6].drop 4).take (Try.prog.cellsOf 3)) = some x4 := hf 4 _ rfl
  rw [cellsInt] at f4
  have f5 : DataW.trod enc Try.prog W 0 (fun _ => true) true m 3 (([v0, v1, v2, v3, v4, v5, v6].drop 5).take (Try.prog.cellsOf 3)) = some x5 := hf 5 _ rfl
  rw [cellsInt] at f5
  have f6 : DataW.trod enc Try.prog W 0 (fun _ => true) true m 23 (([v0, v1, v2, v3, v4, v5, v6].drop 6).take (Try.prog.cellsOf 23)) = some x6 := hf 6 _ rfl
  rw [cellsRows] at f6
  obtain ⟨a0, e0, _, w0⟩ := DataW.trod_int Try.underlying3 f0
  obtain ⟨l1, e1, o1⟩ := open_list (v := v1) f1
  obtain ⟨l2, e2, o2⟩ := open_list (v := v2) f2
  obtain ⟨a3, e3, _, w3⟩ := DataW.trod_int Try.underlying3 f3
  obtain ⟨a4, e4, _, w4⟩ := DataW.trod_int Try.underlying3 f4
  obtain ⟨a5, e5, _, w5⟩ := DataW.trod_int Try.underlying3 f5
  obtain ⟨ro, rl, rc, X, e6, r1, r2, r3, r4, r5⟩ := open_rowsS (v := v6) f6
  simp at e0 e3 e4 e5
  subst e0 e1 e2 e3 e4 e5 e6
  exact ⟨⟨a0, l1, l2, a3, a4, a5, ro, rl, rc, X⟩, rfl, i64_wf w0, o1, o2, i64_wf w3, i64_wf w4, i64_wf w5, r3, r4, r1, r2, r5⟩
set_option maxRecDepth 20000 in
theorem open_belief {H : Type} {enc : TypeId × Value → H} {W : World} {n : Nat} {cs : List Value} {y : DataW H × List MemPlace} (h : DataW.trod enc Try.prog W 0 (fun _ => true) true n 27 cs = some y) : ∃ b : BV, cs = b.cells.toList ∧ b.okIn W := by
  obtain ⟨xs, m, _, _, hlen, hxl, hf⟩ := DataW.trod_struct Try.underlying27 h
  rw [show Try.prog.cellsOf 27 = 6 by kernel_rfl] at hlen
  match cs, hlen with
  | [v0, v1, v2, v3, v4, v5], _ =>
  match xs, hxl with
  | [x0, x1, x2, x3, x4, x5], _ =>
  have f0 : DataW.trod enc Try.prog W 0 (fun _ => true) true m 3 (([v0, v1, v2, v3, v4, v5].drop 0).take (Try.prog.cellsOf 3)) = some x0 := hf 0 _ rfl
  rw [cellsInt] at f0
  have f1 : DataW.trod enc Try.prog W 0 (fun _ => true) true m 22 (([v0, v1, v2, v3, v4, v5].drop 1).take (Try.prog.cellsOf 22)) = some x1 := hf 1 _ rfl
  rw [cellsInts] at f1
  have f2 : DataW.trod enc Try.prog W 0 (fun _ => true) true m 22 (([v0, v1, v2, v3, v4, v5].drop 2).take (Try.prog.cellsOf 22)) = some x2 := hf 2 _ rfl
  rw [cellsInts] at f2
  have f3 : DataW.trod enc Try.prog W 0 (fun _ => true) true m 4 (([v0, v1, v2, v3, v4, v5].drop 3).take (Try.prog.cellsOf 4)) = some x3 := hf 3 _ rfl
  rw [cellsBoolM] at f3
  have f4 : DataW.trod enc Try.prog W 0 (fun _ => true) true m 3 (([v0, v1, v2, v3, v4, v5].drop 4).take (Try.prog.cellsOf 3)) = some x4 := hf 4 _ rfl
  rw [cellsInt] at f4
  have f5 : DataW.trod enc Try.prog W 0 (fun _ => true) true m 3 (([v0, v1, v2, v3, v4, v5].drop 5).take (Try.prog.cellsOf 3)) = some x5 := hf 5 _ rfl
  rw [cellsInt] at f5
  obtain ⟨a0, e0, _, w0⟩ := DataW.trod_int Try.underlying3 f0
  obtain ⟨l1, e1, o1⟩ := open_list (v := v1) f1
  obtain ⟨l2, e2, o2⟩ := open_list (v := v2) f2
  obtain ⟨a3, e3, _⟩ := DataW.trod_bool Try.underlying4 f3
  obtain ⟨a4, e4, _, w4⟩ := DataW.trod_int Try.underlying3 f4
  obtain ⟨a5, e5, _, w5⟩ := DataW.trod_int Try.underlying3 f5
  simp at e0 e3 e4 e5
  subst e0 e1 e2 e3 e4 e5
  exact ⟨⟨a0, l1, l2, a3, a4, a5⟩, rfl, i64_wf w0, o1, o2, i64_wf w4, i64_wf w5⟩

end Go.Proofs.Ytpanfppnkgokdaa

/- Lists of rows that a call gathers. -/
namespace Go.Proofs.Ytpanfppnkgokdaa
open Go.RowKit Go.Shelf Go.Proofs.Wd
set_option linter.unusedVariables false
set_option linter.unusedSimpArgs false
set_option maxRecDepth 10000

/-- Their cells, one behind the other. -/
def flatR (l : List RV) : List Value := l.flatMap fun x => x.cells.toList
theorem flatR_len : ∀ l : List RV, (flatR l).length = l.length * 3
  | [] => rfl
  | x :: l => by
    have := flatR_len l
    unfold flatR at *
    rw [List.flatMap_cons, List.length_append, this, List.length_cons]
    show 3 + _ = _
    omega
theorem flatR_snoc (l : List RV) (x : RV) : flatR (l ++ [x]) = flatR l ++ x.cells.toList := by
  unfold flatR
  rw [List.flatMap_append]
  simp
theorem flatR_at : ∀ (l : List RV) (i j : Nat) (x : RV), l[i]? = some x → j < 3 → (flatR l)[i * 3 + j]? = x.cells[j]?
  | [], i, j, x, h, _ => by simp at h
  | y :: l, 0, j, x, h, hj => by
    simp at h
    subst h
    unfold flatR
    rw [List.flatMap_cons, List.getElem?_append_left (by show 0 * 3 + j < 3; omega)]
    simp
  | y :: l, i + 1, j, x, h, hj => by
    have := flatR_at l i j x (by simpa using h) hj
    unfold flatR at *
    rw [List.flatMap_cons, List.getElem?_append_right (by show 3 ≤ _; omega), ← this]
    congr 1
    show (i + 1) * 3 + j - 3 = _
    omega
theorem cells_oneRV (x : RV) : ∀ u ∈ x.cells.toList, u.oneCell' = true := by
  intro u hu
  simp [RV.cells] at hu
  rcases hu with rfl | rfl | rfl <;> rfl
theorem Try.infoRow : (Try.prog.info? 41).map (fun i => (i.zero, i.size, i.bytes)) = some (some (.agg #[.int .i64 0, .slice none 0 0, .int .i64 0]), 3, 40) := by kernel_rfl

/-- A list that a call gathered. -/
def RLs (w : World) (base : Nat) (v : Value) (l : List RV) : Prop := w.ownsRow base 41 3 v l.length (flatR l)
theorem RLs.blk {w w' : World} {base : Nat} {v : Value} {l : List RV} (h : RLs w base v l) (k : ∀ g cs, v.ownBlock = some g → base ≤ g → Blk g cs 41 w → Blk g cs 41 w') : RLs w' base v l := by
  refine ⟨h.1, ?_⟩
  rcases h.2 with h2 | ⟨g, cap, cur, rfl, hb, hg, r⟩
  · exact Or.inl h2
  · exact Or.inr ⟨g, cap, cur, rfl, hb, k g cur rfl hb hg, r⟩
theorem RLs.kp {w w' : World} {base : Nat} {v : Value} {l : List RV} (h : RLs w base v l) (k : Kp w w') : RLs w' base v l := h.blk fun _ _ _ _ hb => Blk.kp hb k
theorem RLs.mono {w : World} {base base' : Nat} {v : Value} {l : List RV} (h : RLs w base v l) (hb : base' ≤ base) : RLs w base' v l := by
  refine ⟨h.1, ?_⟩
  rcases h.2 with h2 | ⟨g, cap, cur, rfl, hb', hg, r⟩
  · exact Or.inl h2
  · exact Or.inr ⟨g, cap, cur, rfl, by omega, hg, r⟩
theorem RLs.has {w : World} {base g n c : Nat} {l : List RV} (h : RLs w base (.slice (some ⟨g, 0, none⟩) n c) l) : base ≤ g ∧ ∃ cur, Blk g cur 41 w := by
  rcases h.2 with ⟨e, _⟩ | ⟨g', cap, cur, e, hb, hg, r⟩
  · cases e
  · simp at e
    obtain ⟨rfl, _⟩ := e
    exact ⟨hb, cur, hg⟩
theorem RLs.nil (w : World) (base : Nat) : RLs w base (.slice none 0 0) [] := World.ownsRow_nil _ _ _ _

def z0R : RV := ⟨0, ⟨none, 0, 0, fun _ => 0⟩, 0⟩
def ixR (l : List RV) (i : Nat) : RV := (l[i]?).getD z0R
theorem ixR_at {l : List RV} {i : Nat} {x : RV} (h : l[i]? = some x) : ixR l i = x := by unfold ixR; rw [h]; rfl
theorem RLs.rvs {w : World} {base : Nat} {v : Value} {l : List RV} (h : RLs w base v l) : ∃ ao cap, v = .slice ao l.length cap ∧ RVs w ao l.length (ixR l) ∧ l.length ≤ cap ∧ (∀ U, U < base → Off U l.length ao) := by
  have hc := fun g (e : v.ownBlock = some g) => World.ownsRow.cells h e
  rcases h.2 with ⟨rfl, e⟩ | ⟨g, cap, cur, rfl, hb, hg, hn, r⟩
  · rw [e]
    exact ⟨none, 0, rfl, Or.inl rfl, Nat.le_refl _, fun U _ h0 => absurd h0 (Nat.lt_irrefl _)⟩
  · refine ⟨_, cap, rfl, Or.inr ⟨g, 0, rfl, fun i hi j hj => ?_⟩, hn, fun U hU _ a ha => by cases ha; show g ≠ U; omega⟩
    have hx : l[i]? = some l[i] := List.getElem?_eq_getElem hi
    have hf := flatR_at l i j _ hx hj
    have hs : ∃ u, (l[i]).cells[j]? = some u := ⟨_, Array.getElem?_eq_getElem (by show j < 3; exact hj)⟩
    obtain ⟨u, hu⟩ := hs
    have := hc g rfl (i * 3 + j) u (by rw [hf, hu])
    rw [Go.WideShapes.add_plain] at this
    rw [ixR_at hx, hu, ← this, Nat.zero_add]
    show _ = w.cell? ⟨g, 0 + (i * 3 + j), none⟩
    rw [Nat.zero_add]
theorem news_rowS {w : World} {b : Nat} {x : RV} (h : Blk b x.cells 41 w) : ∀ j u, x.cells.toList[j]? = some u → w.cell? ((⟨b, 0, none⟩ : Addr).add j) = some u := by
  intro j u hu
  rw [Go.WideShapes.add_plain, Nat.zero_add, Blk.cell h]
  simpa using hu

theorem run_append_atR (w : World) (ty : TypeId) (base n : Nat) (v : Value) (xs : List Value) (hown : w.ownsRow base 41 3 v n xs) (a : Addr) (m c : Nat) (news : List Value) (hl : news.length = m * 3) (hnews : ∀ j u, news[j]? = some u → w.cell? (a.add j) = some u) (h1 : ∀ u ∈ news, u.oneCell' = true)
    (hm : 1 ≤ m ∧ m ≤ 1000000) (hn : n ≤ 1000000) (hb : base ≤ w.heap.size) :
    ∃ v' w', (Builtin.append_ #[23, 23] ty #[v, .slice (some a) m c]).run Try.prog w = .ok v' w' ∧ w'.ownsRow base 41 3 v' (n + m) (xs ++ news) ∧ w.grownBy w' v.ownBlock ∧ (v'.ownBlock = v.ownBlock ∨ ∃ g, v'.ownBlock = some g ∧ w.heap.size ≤ g) := by
  obtain ⟨i0, hi, hz0, hz1, hz2⟩ := info_parts Try.infoRow
  have h63 : n + m ≤ maxLen := by unfold maxLen; omega
  have hby : (n + m) * 40 ≤ 140737488355328 := by omega
  obtain ⟨v', w', hr, r1, r2, _⟩ := run_append_own (P := Try.prog) w base 23 ty 41 i0 (.agg #[.int .i64 0, .slice none 0 0, .int .i64 0]) 3 40 Try.underlying23 hi hz0 hz1 hz2 rfl (by decide) v n xs hown a m c news hl hnews h1 h63 hby hb
  refine ⟨v', w', hr, r1, r2, ?_⟩
  rcases hown.2 with ⟨rfl, rfl⟩ | ⟨g, cap, cur, rfl, hbg, hg, hnc, hcm, hcs, htake⟩
  · have hx : xs = [] := List.eq_nil_of_length_eq_zero (by simpa using hown.1)
    subst hx
    obtain ⟨v2, w2, hr2, q1, _, _⟩ := run_append_own (P := Try.prog) w w.heap.size 23 ty 41 i0 (.agg #[.int .i64 0, .slice none 0 0, .int .i64 0]) 3 40 Try.underlying23 hi hz0 hz1 hz2 rfl (by decide) (.slice none 0 0) 0 [] (World.ownsRow_nil _ _ _ _) a m c news hl hnews h1 h63 hby (Nat.le_refl _)
    rw [hr] at hr2
    cases hr2
    rcases q1.2 with ⟨_, e⟩ | ⟨g, cap, cur, rfl, hbg, _⟩
    · omega
    · exact Or.inr ⟨g, rfl, hbg⟩
  · by_cases hroom : n + m ≤ cap
    · have hfit : n * i0.size + news.length ≤ cur.size := by rw [hl, hcs, hz1, ← Nat.add_mul]; exact Nat.mul_le_mul_right _ hroom
      have hr2 := run_append_room (P := Try.prog) w 23 ty 41 i0 Try.underlying23 hi g n cap cur hg a m c news (by rw [hz1]; exact hl) hnews h1 hroom hfit
      rw [hr] at hr2
      cases hr2
      exact Or.inl rfl
    · have holds : ∀ j u, xs[j]? = some u → w.cell? ((⟨g, 0, none⟩ : Addr).add j) = some u := hown.cells (g := g) rfl
      have hr2 := run_append_grow (P := Try.prog) w 23 ty 41 i0 (.agg #[.int .i64 0, .slice none 0 0, .int .i64 0]) Try.underlying23 hi hz0 ⟨g, 0, none⟩ n cap xs (by rw [hz1]; exact hown.1) holds a m c news (by rw [hz1]; exact hl) hnews (by omega) (by omega) (growslice_fits (by omega) (by rw [hz2]; exact hby))
      rw [hr] at hr2
      cases hr2
      exact Or.inr ⟨_, rfl, Nat.le_refl _⟩
theorem wpList_append_atR {ops : Array Oper} {rest : List Oper} {o : Oper} {a : Act} {w : World} {Q : Exit → Act → World → Prop} (hgd : o.guard = none) (s x : Operand) (ho : o.op = .call { callee := .builtin .append, args := #[s, x], argTypes := #[23, 23] })
    (base : Nat) (v : Value) (n : Nat) (xs : List Value) (hs : a.eval s = v) (hown : w.ownsRow base 41 3 v n xs)
    (ad : Addr) (m c : Nat) (news : List Value) (hx : a.eval x = .slice (some ad) m c) (hl : news.length = m * 3) (hnews : ∀ j u, news[j]? = some u → w.cell? (ad.add j) = some u) (h1 : ∀ u ∈ news, u.oneCell' = true)
    (hm : 1 ≤ m ∧ m ≤ 1000000) (hn : n ≤ 1000000) (hb : base ≤ w.heap.size)
    (h : ∀ v' w', w'.ownsRow base 41 3 v' (n + m) (xs ++ news) → w.grownBy w' v.ownBlock → (v'.ownBlock = v.ownBlock ∨ ∃ g, v'.ownBlock = some g ∧ w.heap.size ≤ g) → wpList Try.prog ops Q rest (a.put o.dst v') w') : wpList Try.prog ops Q (o :: rest) a w := by
  refine wpList_plain hgd fun _ hK => ?_
  obtain ⟨v', w', hr, h2, h3, h4⟩ := run_append_atR w o.type base n v xs hown ad m c news hl hnews h1 hm hn hb
  unfold Oper.wp execOp
  simp only [ho, resolve, invoke, builtin, Sem.run_bind, Sem.run_pure, Result.andThen_ok, List.map_toArray, List.map_cons, List.map_nil, hs, hx, hr]
  exact hK _ _ (h v' w' h2 h3 h4)


end Go.Proofs.Ytpanfppnkgokdaa

/- The document's model: far, moves, sees. -/
namespace Go.Proofs.Ytpanfppnkgokdaa
open Go.RowKit Go.Shelf Go.Proofs.Wd
set_option linter.unusedVariables false
set_option linter.unusedSimpArgs false
set_option maxRecDepth 10000

def farB (x : Int) : Bool := decide (x < -68719476736) || decide (68719476736 < x)
theorem farB_no {x : Int} (h : farP x) : farB x = false := by unfold farB farP at *; simp; omega
theorem farB_yes {x : Int} (h : ¬ farP x) : farB x = true := by unfold farB farP at *; simp; omega
set_option maxHeartbeats 1000000 in
theorem refFar (x : Int) (w : World) : Calls Try.prog 53 #[.int .i64 x] w fun e w' => e = .returned (.bool (farB x)) ∧ w' = w := by
  unfold farB
  by_cases h : x < -68719476736
  · rw [decide_eq_true h]
    have d : decide (x < -68719476736) = true := decide_eq_true h
    clear h
    go_enter Try.func53, Try.ntmps53
    go_wp2
    go_ret
    exact ⟨rfl, rfl⟩
  · rw [decide_eq_false h]
    have d : decide (x < -68719476736) = false := decide_eq_false h
    clear h
    go_enter Try.func53, Try.ntmps53
    go_wp2
    go_ret
    exact ⟨by simp, rfl⟩
open Classical in
noncomputable def movB (n al ql : Nat) (A Q : Nat → Int) : Bool := decide (okMoves n al ql A Q)
theorem movB_yes {n al ql : Nat} {A Q : Nat → Int} (h : okMoves n al ql A Q) : movB n al ql A Q = true := by classical exact decide_eq_true h
theorem movB_no {n al ql : Nat} {A Q : Nat → Int} (h : ¬ okMoves n al ql A Q) : movB n al ql A Q = false := by classical exact decide_eq_false h
/-- Rows of A and Q that may be, up to the i-th; entries of a row, up to the k-th. -/
def okUpTo (n : Nat) (A Q : Nat → Int) (i : Nat) : Prop := ∀ j, j < i → (0 ≤ Q j ∧ Q j ≤ 68719476736) ∧ ∀ k, k < n → farP (A (j * n + k)) ∧ (k ≤ j → A (j * n + k) = 0)
def okRowTo (n : Nat) (A : Nat → Int) (i k : Nat) : Prop := ∀ j, j < k → farP (A (i * n + j)) ∧ (j ≤ i → A (i * n + j) = 0)

set_option maxRecDepth 20000 in
set_option maxHeartbeats 8000000 in
theorem refMoves (n : Nat) (hn : 1 ≤ n ∧ n ≤ 6) (aa qa ro : Option Addr) (al ac ql qc rl rc : Nat) (tick gate rmin : Int) (A Q : Nat → Int) (w : World) (ha : Row w aa al A) (hq : Row w qa ql Q) :
    Calls Try.prog 41 #[.agg #[.int .i64 n, .slice aa al ac, .slice qa ql qc, .int .i64 tick, .int .i64 gate, .int .i64 rmin, .slice ro rl rc]] w fun e w' => e = .returned (.bool (movB n al ql A Q)) ∧ Grown w w' := by
  have G1 : Hid (Grown w (w.alloc (.cells #[.int .i64 n, .slice aa al ac, .slice qa ql qc, .int .i64 tick, .int .i64 gate, .int .i64 rmin, .slice ro rl rc] 25))) := (Grown.refl _).alloc _ _
  have bl := Blk.new w #[.int .i64 n, .slice aa al ac, .slice qa ql qc, .int .i64 tick, .int .i64 gate, .int .i64 rmin, .slice ro rl rc] 25
  have y0 : (w.alloc (.cells #[.int .i64 n, .slice aa al ac, .slice qa ql qc, .int .i64 tick, .int .i64 gate, .int .i64 rmin, .slice ro rl rc] 25)).cell? ⟨w.heap.size, 0, none⟩ = some (.int .i64 n) := Blk.cell bl 0
  have y1 : (w.alloc (.cells #[.int .i64 n, .slice aa al ac, .slice qa ql qc, .int .i64 tick, .int .i64 gate, .int .i64 rmin, .slice ro rl rc] 25)).cell? ⟨w.heap.size, 1, none⟩ = some (.slice aa al ac) := Blk.cell bl 1
  have y2 : (w.alloc (.cells #[.int .i64 n, .slice aa al ac, .slice qa ql qc, .int .i64 tick, .int .i64 gate, .int .i64 rmin, .slice ro rl rc] 25)).cell? ⟨w.heap.size, 2, none⟩ = some (.slice qa ql qc) := Blk.cell bl 2
  have RA := hide (ha.grown (unhide G1))
  have RQ := hide (hq.grown (unhide G1))
  obtain ⟨nn, hnn⟩ : ∃ nn, n * n = nn := ⟨_, rfl⟩
  have n36 : nn ≤ 36 := by rw [← hnn]; exact Nat.mul_le_mul hn.2 hn.2
  have wn : wrap64 ((n : Int) * (n : Int)) = (nn : Int) := wrapP n n nn hnn (by omega)
  have HN := hide (And.intro hn (And.intro hnn n36))
  clear bl ha hq hn hnn n36
  by_cases h1 : al = nn
  · subst h1
    have d1 : ((al : Int) != (al : Int)) = false := by simp
    by_cases h2 : ql = n
    · subst h2
      have d2 : ((ql : Int) != (ql : Int)) = false := by simp
      go_enter Try.func41, Try.ntmps41
      go_wp2_with fail
      generalize w.alloc (.cells #[.int .i64 ql, .slice aa al ac, .slice qa ql qc, .int .i64 tick, .int .i64 gate, .int .i64 rmin, .slice ro rl rc] 25) = w1 at *
      go_loop [3] (fun i => ∃ k : Nat, k ≤ ql ∧ i = .int .i64 k ∧ Hid (okUpTo ql A Q k)) (fun i => ql - (intOf i).toNat)
      case atStart => exact ⟨0, Nat.zero_le _, rfl, fun j hj => absurd hj (Nat.not_lt_zero _)⟩
      case round =>
        obtain ⟨i, hi, rfl, HI⟩ := hrel
        have n6 := (unhide HN).1.2
        by_cases hlt : i < ql
        · obtain ⟨bq, oq, rfl, cq⟩ := (unhide RQ).at hlt
          have i0 : (0 : Int) ≤ (i : Int) := Int.natCast_nonneg _
          have i1 : (i : Int) < (ql : Int) := Int.ofNat_lt.2 hlt
          have QE : Hid (∃ q, Q i = q) := ⟨_, rfl⟩
          obtain ⟨q, hqe⟩ := unhide QE
          rw [hqe] at cq
          by_cases hq0 : q < 0
          · have dq : decide (q < 0) = true := decide_eq_true hq0
            have GE : Hid (movB ql al ql A Q = false) := movB_no (fun h => by have := (h.2.2 i hlt).1.1; omega)
            clear HI hq0
            go_wp2
            go_ret
            exact ⟨by rw [unhide GE]; rfl, unhide G1⟩
          · have dq : decide (q < 0) = false := decide_eq_false hq0
            by_cases hq1 : 68719476736 < q
            · have dq1 : decide (68719476736 < q) = true := decide_eq_true hq1
              have GE : Hid (movB ql al ql A Q = false) := movB_no (fun h => by have := (h.2.2 i hlt).1.2; omega)
              clear HI hq0 hq1
              go_wp2
              go_ret
              exact ⟨by rw [unhide GE]; rfl, unhide G1⟩
            · have dq1 : decide (68719476736 < q) = false := decide_eq_false hq1
              have HQ : Hid (0 ≤ Q i ∧ Q i ≤ 68719476736) := ⟨by omega, by omega⟩
              clear hq0 hq1
              go_wp2_with fail
              clear dq dq1 cq
              go_loop [4, 5] (fun k _ => ∃ j : Nat, j ≤ ql ∧ k = .int .i64 j ∧ Hid (okRowTo ql A i j)) (fun k _ => ql - (intOf k).toNat)
              case atStart => exact ⟨0, Nat.zero_le _, rfl, fun j hj => absurd hj (Nat.not_lt_zero _)⟩
              case round =>
                obtain ⟨k, hk, rfl, HK⟩ := hrel
                by_cases hkt : k < ql
                · obtain ⟨p, hpe⟩ : ∃ p, i * ql + k = p := ⟨_, rfl⟩
                  have hp : p < al := by
                    have h3 := place_in i k ql ql hlt hkt
                    have h4 := (unhide HN).2.1
                    omega
                  obtain ⟨ba, oa, rfl, ca⟩ := (unhide RA).at hp
                  obtain ⟨qq, hqq⟩ : ∃ z, i * ql = z := ⟨_, rfl⟩
                  rw [hqq] at hpe
                  have hn2 := unhide HN
                  have wa : wrap64 ((i : Int) * (ql : Int)) = (qq : Int) := wrapP i ql qq hqq (by omega)
                  have wb : wrap64 ((qq : Int) + (k : Int)) = (p : Int) := wrapA qq k p hpe (by omega)
                  have p0 : (0 : Int) ≤ (p : Int) := Int.natCast_nonneg _
                  have p1 : (p : Int) < (al : Int) := Int.ofNat_lt.2 hp
                  have EP : Hid (i * ql + k = p) := by show i * ql + k = p; omega
                  obtain ⟨a, hae⟩ : ∃ a, A p = a := ⟨_, rfl⟩
                  rw [hae] at ca
                  have EA : Hid (A (i * ql + k) = a) := by show A (i * ql + k) = a; rw [unhide EP, hae]
                  have FA := hide (fun w => refFar a w)
                  clear hpe hqq hn2 hp hae
                  by_cases hf : farP a
                  · rw [farB_no hf] at FA
                    by_cases hki : k ≤ i
                    · have dk : decide ((k : Int) ≤ (i : Int)) = true := decide_eq_true (by omega)
                      by_cases h0 : a = 0
                      · have da : (a != 0) = false := by simpa using h0
                        have HK2 : Hid (okRowTo ql A i (k + 1)) := fun j hj => by
                          by_cases e : j = k
                          · subst e
                            rw [unhide EA]
                            exact ⟨hf, fun _ => h0⟩
                          · exact unhide HK j (by omega)
                        clear hf h0 EA HK
                        go_wp2_with fail
                        refine (unhide FA _).mono ?_
                        rintro e w2 ⟨rfl, e2⟩
                        subst e2
                        clear FA
                        go_wp2
                        go_round
                        case rel => exact ⟨k + 1, hkt, by go_num, HK2⟩
                        case measure => simp [intOf]; omega
                      · have da : (a != 0) = true := by simpa using h0
                        have GE : Hid (movB ql al ql A Q = false) := movB_no (fun h => h0 (by rw [← unhide EA]; exact ((h.2.2 i hlt).2 k hkt).2 hki))
                        clear hf h0 EA HK
                        go_wp2_with fail
                        refine (unhide FA _).mono ?_
                        rintro e w2 ⟨rfl, e2⟩
                        subst e2
                        clear FA
                        go_wp2
                        go_ret
                        exact ⟨by rw [unhide GE]; rfl, unhide G1⟩
                    · have dk : decide ((k : Int) ≤ (i : Int)) = false := decide_eq_false (by omega)
                      have HK2 : Hid (okRowTo ql A i (k + 1)) := fun j hj => by
                        by_cases e : j = k
                        · subst e
                          rw [unhide EA]
                          exact ⟨hf, fun h => absurd h hki⟩
                        · exact unhide HK j (by omega)
                      clear hf EA HK
                      go_wp2_with fail
                      refine (unhide FA _).mono ?_
                      rintro e w2 ⟨rfl, e2⟩
                      subst e2
                      clear FA
                      go_wp2
                      go_round
                      case rel => exact ⟨k + 1, hkt, by go_num, HK2⟩
                      case measure => simp [intOf]; omega
                  · rw [farB_yes hf] at FA
                    have GE : Hid (movB ql al ql A Q = false) := movB_no (fun h => hf (by rw [← unhide EA]; exact ((h.2.2 i hlt).2 k hkt).1))
                    clear hf EA HK
                    go_wp2_with fail
                    refine (unhide FA _).mono ?_
                    rintro e w2 ⟨rfl, e2⟩
                    subst e2
                    clear FA
                    go_wp2
                    go_ret
                    exact ⟨by rw [unhide GE]; rfl, unhide G1⟩
                · obtain rfl : k = ql := by omega
                  have HI2 : Hid (okUpTo k A Q (i + 1)) := fun j hj => by
                    by_cases e : j = i
                    · subst e
                      exact ⟨unhide HQ, unhide HK⟩
                    · exact unhide HI j (by omega)
                  go_wp2
                  go_round
                  case rel => exact ⟨i + 1, hlt, by go_num, HI2⟩
                  case measure => simp [intOf]; omega
        · obtain rfl : i = ql := by omega
          have GE := hide (movB_yes (n := i) (al := al) (ql := i) (A := A) (Q := Q) ⟨by have := (unhide HN).2.1; omega, rfl, unhide HI⟩)
          go_wp2
          go_ret
          exact ⟨by rw [unhide GE]; rfl, unhide G1⟩
    · have d2 : ((ql : Int) != (n : Int)) = true := by simp; omega
      have GE : Hid (movB n al ql A Q = false) := movB_no (fun h => h2 h.2.1)
      clear h2
      go_enter Try.func41, Try.ntmps41
      go_wp2
      go_ret
      exact ⟨by rw [unhide GE]; rfl, unhide G1⟩
  · have d1 : ((al : Int) != (nn : Int)) = true := by simp; omega
    have GE : Hid (movB n al ql A Q = false) := movB_no (fun h => h1 (h.1.trans (unhide HN).2.1))
    clear h1
    go_enter Try.func41, Try.ntmps41
    go_wp2
    go_ret
    exact ⟨by rw [unhide GE]; rfl, unhide G1⟩

/-- A row that may be. -/
def okSee (n : Nat) (rmin last s : Int) (hl : Nat) (H : Nat → Int) (r : Int) : Prop := (1 ≤ s ∧ s ≤ 16 ∧ last ≤ s) ∧ (hl : Int) = n ∧ rmin ≤ r ∧ ∀ j, j < hl → farP (H j)
open Classical in
noncomputable def seeB (n : Nat) (rmin last s : Int) (hl : Nat) (H : Nat → Int) (r : Int) : Bool := decide (okSee n rmin last s hl H r)
theorem seeB_yes {n : Nat} {rmin last s : Int} {hl : Nat} {H : Nat → Int} {r : Int} (h : okSee n rmin last s hl H r) : seeB n rmin last s hl H r = true := by classical exact decide_eq_true h
theorem seeB_no {n : Nat} {rmin last s : Int} {hl : Nat} {H : Nat → Int} {r : Int} (h : ¬ okSee n rmin last s hl H r) : seeB n rmin last s hl H r = false := by classical exact decide_eq_false h
set_option maxRecDepth 20000 in
set_option maxHeartbeats 8000000 in
theorem refSees (n : Nat) (hn : 1 ≤ n ∧ n ≤ 6) (aa qa ro : Option Addr) (al ac ql qc rl rc : Nat) (tick gate rmin : Int) (s r last : Int) (ha : Option Addr) (hl hc : Nat) (H : Nat → Int) (w : World) (rh : Row w ha hl H) :
    Calls Try.prog 42 #[.agg #[.int .i64 n, .slice aa al ac, .slice qa ql qc, .int .i64 tick, .int .i64 gate, .int .i64 rmin, .slice ro rl rc], .agg #[.int .i64 s, .slice ha hl hc, .int .i64 r], .int .i64 last] w fun e w' => e = .returned (.bool (seeB n rmin last s hl H r)) ∧ Grown w w' := by
  have G1 : Hid (Grown w ((w.alloc (.cells #[.int .i64 n, .slice aa al ac, .slice qa ql qc, .int .i64 tick, .int .i64 gate, .int .i64 rmin, .slice ro rl rc] 25)).alloc (.cells #[.int .i64 s, .slice ha hl hc, .int .i64 r] 41))) := ((Grown.refl _).alloc _ _).alloc _ _
  have b1 := Blk.grown (Blk.new w #[.int .i64 n, .slice aa al ac, .slice qa ql qc, .int .i64 tick, .int .i64 gate, .int .i64 rmin, .slice ro rl rc] 25) ((Grown.refl _).alloc #[.int .i64 s, .slice ha hl hc, .int .i64 r] 41)
  have b2 := blk_new2 w (.cells #[.int .i64 n, .slice aa al ac, .slice qa ql qc, .int .i64 tick, .int .i64 gate, .int .i64 rmin, .slice ro rl rc] 25) #[.int .i64 s, .slice ha hl hc, .int .i64 r] 41
  have y0 : ((w.alloc (.cells #[.int .i64 n, .slice aa al ac, .slice qa ql qc, .int .i64 tick, .int .i64 gate, .int .i64 rmin, .slice ro rl rc] 25)).alloc (.cells #[.int .i64 s, .slice ha hl hc, .int .i64 r] 41)).cell? ⟨w.heap.size, 0, none⟩ = some (.int .i64 n) := Blk.cell b1 0
  have y5 : ((w.alloc (.cells #[.int .i64 n, .slice aa al ac, .slice qa ql qc, .int .i64 tick, .int .i64 gate, .int .i64 rmin, .slice ro rl rc] 25)).alloc (.cells #[.int .i64 s, .slice ha hl hc, .int .i64 r] 41)).cell? ⟨w.heap.size, 5, none⟩ = some (.int .i64 rmin) := Blk.cell b1 5
  have z0 : ((w.alloc (.cells #[.int .i64 n, .slice aa al ac, .slice qa ql qc, .int .i64 tick, .int .i64 gate, .int .i64 rmin, .slice ro rl rc] 25)).alloc (.cells #[.int .i64 s, .slice ha hl hc, .int .i64 r] 41)).cell? ⟨w.heap.size + 1, 0, none⟩ = some (.int .i64 s) := Blk.cell b2 0
  have z1 : ((w.alloc (.cells #[.int .i64 n, .slice aa al ac, .slice qa ql qc, .int .i64 tick, .int .i64 gate, .int .i64 rmin, .slice ro rl rc] 25)).alloc (.cells #[.int .i64 s, .slice ha hl hc, .int .i64 r] 41)).cell? ⟨w.heap.size + 1, 1, none⟩ = some (.slice ha hl hc) := Blk.cell b2 1
  have z2 : ((w.alloc (.cells #[.int .i64 n, .slice aa al ac, .slice qa ql qc, .int .i64 tick, .int .i64 gate, .int .i64 rmin, .slice ro rl rc] 25)).alloc (.cells #[.int .i64 s, .slice ha hl hc, .int .i64 r] 41)).cell? ⟨w.heap.size + 1, 2, none⟩ = some (.int .i64 r) := Blk.cell b2 2
  have RH := hide (rh.grown (unhide G1))
  clear b1 b2 rh
  by_cases h1 : s < 1
  · have dh1 : decide (s < 1) = true := decide_eq_true h1
    have GE := hide (seeB_no (n := n) (rmin := rmin) (last := last) (s := s) (hl := hl) (H := H) (r := r) (fun h => by have := h.1.1; omega))
    go_enter Try.func42, Try.ntmps42
    go_wp2
    go_ret
    exact ⟨by rw [unhide GE]; rfl, unhide G1⟩
  · have dh1 : decide (s < 1) = false := decide_eq_false h1
    by_cases h2 : 16 < s
    · have dh2 : decide (16 < s) = true := decide_eq_true h2
      have GE := hide (seeB_no (n := n) (rmin := rmin) (last := last) (s := s) (hl := hl) (H := H) (r := r) (fun h => by have := h.1.2.1; omega))
      go_enter Try.func42, Try.ntmps42
      go_wp2
      go_ret
      exact ⟨by rw [unhide GE]; rfl, unhide G1⟩
    · have dh2 : decide (16 < s) = false := decide_eq_false h2
      by_cases h3 : s < last
      · have dh3 : decide (s < last) = true := decide_eq_true h3
        have GE := hide (seeB_no (n := n) (rmin := rmin) (last := last) (s := s) (hl := hl) (H := H) (r := r) (fun h => by have := h.1.2.2; omega))
        go_enter Try.func42, Try.ntmps42
        go_wp2
        go_ret
        exact ⟨by rw [unhide GE]; rfl, unhide G1⟩
      · have dh3 : decide (s < last) = false := decide_eq_false h3
        by_cases h4 : (hl : Int) ≠ (n : Int)
        · have dh4 : ((hl : Int) != (n : Int)) = true := by simpa using h4
          have GE := hide (seeB_no (n := n) (rmin := rmin) (last := last) (s := s) (hl := hl) (H := H) (r := r) (fun h => h4 h.2.1))
          go_enter Try.func42, Try.ntmps42
          go_wp2
          go_ret
          exact ⟨by rw [unhide GE]; rfl, unhide G1⟩
        · have dh4 : ((hl : Int) != (n : Int)) = false := by simpa using h4
          by_cases h5 : r < rmin
          · have dh5 : decide (r < rmin) = true := decide_eq_true h5
            have GE := hide (seeB_no (n := n) (rmin := rmin) (last := last) (s := s) (hl := hl) (H := H) (r := r) (fun h => by have := h.2.2.1; omega))
            go_enter Try.func42, Try.ntmps42
            go_wp2
            go_ret
            exact ⟨by rw [unhide GE]; rfl, unhide G1⟩
          · have dh5 : decide (r < rmin) = false := decide_eq_false h5
            have OKK : Hid ((1 ≤ s ∧ s ≤ 16 ∧ last ≤ s) ∧ (hl : Int) = n ∧ rmin ≤ r) := ⟨⟨by omega, by omega, by omega⟩, by omega, by omega⟩
            have h6 : hl ≤ 6 := by omega
            clear h1 h2 h3 h4 h5
            go_enter Try.func42, Try.ntmps42
            go_wp2_with fail
            generalize ((w.alloc (.cells #[.int .i64 n, .slice aa al ac, .slice qa ql qc, .int .i64 tick, .int .i64 gate, .int .i64 rmin, .slice ro rl rc] 25)).alloc (.cells #[.int .i64 s, .slice ha hl hc, .int .i64 r] 41)) = w1 at *
            clear dh1 dh2 dh3 dh4 dh5
            go_loop [7] (fun i => ∃ k : Nat, k ≤ hl ∧ i = .int .i64 k ∧ Hid (∀ j, j < k → farP (H j))) (fun i => hl - (intOf i).toNat)
            case atStart => exact ⟨0, Nat.zero_le _, rfl, fun j hj => absurd hj (Nat.not_lt_zero _)⟩
            case round =>
              obtain ⟨k, hk, rfl, HK⟩ := hrel
              by_cases hlt : k < hl
              · obtain ⟨bh, oh, rfl, ch⟩ := (unhide RH).at hlt
                have i0 : (0 : Int) ≤ (k : Int) := Int.natCast_nonneg _
                have i1 : (k : Int) < (hl : Int) := Int.ofNat_lt.2 hlt
                obtain ⟨a, hae⟩ : ∃ a, H k = a := ⟨_, rfl⟩
                rw [hae] at ch
                have FA := hide (fun w => refFar a w)
                by_cases hf : farP a
                · rw [farB_no hf] at FA
                  have HK2 : Hid (∀ j, j < k + 1 → farP (H j)) := fun j hj => by
                    by_cases e : j = k
                    · subst e
                      rw [hae]
                      exact hf
                    · exact unhide HK j (by omega)
                  clear hf hae HK
                  go_wp2_with fail
                  refine (unhide FA _).mono ?_
                  rintro e w2 ⟨rfl, e2⟩
                  subst e2
                  clear FA
                  go_wp2
                  go_round
                  case rel => exact ⟨k + 1, hlt, by go_num, HK2⟩
                  case measure => simp [intOf]; omega
                · rw [farB_yes hf] at FA
                  have GE := hide (seeB_no (n := n) (rmin := rmin) (last := last) (s := s) (hl := hl) (H := H) (r := r) (fun h => hf (by rw [← hae]; exact h.2.2.2 k hlt)))
                  clear hf hae HK
                  go_wp2_with fail
                  refine (unhide FA _).mono ?_
                  rintro e w2 ⟨rfl, e2⟩
                  subst e2
                  clear FA
                  go_wp2
                  go_ret
                  exact ⟨by rw [unhide GE]; rfl, unhide G1⟩
              · obtain rfl : k = hl := by omega
                have GE := hide (seeB_yes (n := n) (rmin := rmin) (last := last) (s := s) (hl := k) (H := H) (r := r) ⟨(unhide OKK).1, (unhide OKK).2.1, (unhide OKK).2.2, unhide HK⟩)
                go_wp2
                go_ret
                exact ⟨by rw [unhide GE]; rfl, unhide G1⟩

end Go.Proofs.Ytpanfppnkgokdaa

/- The document's model: Check. -/
namespace Go.Proofs.Ytpanfppnkgokdaa
open Go.RowKit Go.Shelf Go.Proofs.Wd
set_option linter.unusedVariables false
set_option linter.unusedSimpArgs false
set_option maxRecDepth 10000
attribute [local go_sem ↓] Go.wp_at_zero Go.wp_at_succ

/-- A model that may be, by its parts. -/
def okC (N : Int) (al ql rl : Nat) (A Q : Nat → Int) (tick gate rmin : Int) (X : Nat → RV) : Prop := (1 ≤ N ∧ N ≤ 6) ∧ okMoves N.toNat al ql A Q ∧ (1 ≤ tick ∧ tick ≤ 4294967296) ∧ 1 ≤ gate ∧ 1 ≤ rmin ∧ rl ≤ 24 ∧ ∀ i, i < rl → okRow N rmin (lastS X i) (X i)
open Classical in
noncomputable def chkC (N : Int) (al ql rl : Nat) (A Q : Nat → Int) (tick gate rmin : Int) (X : Nat → RV) : Int := if okC N al ql rl A Q tick gate rmin X then 0 else 2
theorem chkC_yes {N : Int} {al ql rl : Nat} {A Q : Nat → Int} {tick gate rmin : Int} {X : Nat → RV} (h : okC N al ql rl A Q tick gate rmin X) : chkC N al ql rl A Q tick gate rmin X = 0 := if_pos h
theorem chkC_no {N : Int} {al ql rl : Nat} {A Q : Nat → Int} {tick gate rmin : Int} {X : Nat → RV} (h : ¬ okC N al ql rl A Q tick gate rmin X) : chkC N al ql rl A Q tick gate rmin X = 2 := if_neg h
theorem chkD_C (m : DV) : chkD m = chkC m.N m.A.len m.Q.len m.rl m.A.Z m.Q.Z m.tick m.gate m.rmin m.X := rfl

set_option maxRecDepth 20000 in
set_option maxHeartbeats 4000000 in
theorem refCheck_N (N : Int) (aa qa ro : Option Addr) (al ac ql qc rl rc : Nat) (tick gate rmin : Int) (A Q : Nat → Int) (X : Nat → RV) (w : World) (hb : N < 1 ∨ 6 < N) :
    Calls Try.prog 16 #[.agg #[.int .i64 N, .slice aa al ac, .slice qa ql qc, .int .i64 tick, .int .i64 gate, .int .i64 rmin, .slice ro rl rc]] w fun e w' => e = .returned (.int .i64 (chkC N al ql rl A Q tick gate rmin X)) ∧ Grown w w' := by
  rw [chkC_no (fun h => by have := h.1; omega)]
  have G1 : Hid (Grown w (w.alloc (.cells #[.int .i64 N, .slice aa al ac, .slice qa ql qc, .int .i64 tick, .int .i64 gate, .int .i64 rmin, .slice ro rl rc] 25)) ∧ Blk w.heap.size #[.int .i64 N, .slice aa al ac, .slice qa ql qc, .int .i64 tick, .int .i64 gate, .int .i64 rmin, .slice ro rl rc] 25 (w.alloc (.cells #[.int .i64 N, .slice aa al ac, .slice qa ql qc, .int .i64 tick, .int .i64 gate, .int .i64 rmin, .slice ro rl rc] 25))) := ⟨(Grown.refl _).alloc _ _, Blk.new _ _ _⟩
  have y0 : (w.alloc (.cells #[.int .i64 N, .slice aa al ac, .slice qa ql qc, .int .i64 tick, .int .i64 gate, .int .i64 rmin, .slice ro rl rc] 25)).cell? ⟨w.heap.size, 0, none⟩ = some (.int .i64 N) := Blk.cell (unhide G1).2 0
  have y1 : (w.alloc (.cells #[.int .i64 N, .slice aa al ac, .slice qa ql qc, .int .i64 tick, .int .i64 gate, .int .i64 rmin, .slice ro rl rc] 25)).cell? ⟨w.heap.size, 1, none⟩ = some (.slice aa al ac) := Blk.cell (unhide G1).2 1
  have y2 : (w.alloc (.cells #[.int .i64 N, .slice aa al ac, .slice qa ql qc, .int .i64 tick, .int .i64 gate, .int .i64 rmin, .slice ro rl rc] 25)).cell? ⟨w.heap.size, 2, none⟩ = some (.slice qa ql qc) := Blk.cell (unhide G1).2 2
  have y3 : (w.alloc (.cells #[.int .i64 N, .slice aa al ac, .slice qa ql qc, .int .i64 tick, .int .i64 gate, .int .i64 rmin, .slice ro rl rc] 25)).cell? ⟨w.heap.size, 3, none⟩ = some (.int .i64 tick) := Blk.cell (unhide G1).2 3
  have y4 : (w.alloc (.cells #[.int .i64 N, .slice aa al ac, .slice qa ql qc, .int .i64 tick, .int .i64 gate, .int .i64 rmin, .slice ro rl rc] 25)).cell? ⟨w.heap.size, 4, none⟩ = some (.int .i64 gate) := Blk.cell (unhide G1).2 4
  have y5 : (w.alloc (.cells #[.int .i64 N, .slice aa al ac, .slice qa ql qc, .int .i64 tick, .int .i64 gate, .int .i64 rmin, .slice ro rl rc] 25)).cell? ⟨w.heap.size, 5, none⟩ = some (.int .i64 rmin) := Blk.cell (unhide G1).2 5
  have y6 : (w.alloc (.cells #[.int .i64 N, .slice aa al ac, .slice qa ql qc, .int .i64 tick, .int .i64 gate, .int .i64 rmin, .slice ro rl rc] 25)).cell? ⟨w.heap.size, 6, none⟩ = some (.slice ro rl rc) := Blk.cell (unhide G1).2 6
  by_cases h1 : N < 1
  · have d1 : decide (N < 1) = true := decide_eq_true h1
    clear h1 hb
    go_enter Try.func16, Try.ntmps16
    go_wp2
    go_ret
    exact ⟨rfl, (unhide G1).1⟩
  · have d1 : decide (N < 1) = false := decide_eq_false h1
    have d6 : decide (6 < N) = true := decide_eq_true (by omega)
    clear h1 hb
    go_enter Try.func16, Try.ntmps16
    go_wp2
    go_ret
    exact ⟨rfl, (unhide G1).1⟩

set_option maxRecDepth 20000 in
set_option maxHeartbeats 8000000 in
theorem refCheck_n (n : Nat) (hn : 1 ≤ n ∧ n ≤ 6) (aa qa ro : Option Addr) (al ac ql qc rl rc : Nat) (tick gate rmin : Int) (A Q : Nat → Int) (X : Nat → RV) (w : World) (ha0 : Row w aa al A) (hq0 : Row w qa ql Q) (hr : RVs w ro rl X) (hh : ∀ i, i < rl → Row w (X i).h.ao (X i).h.len (X i).h.Z) :
    Calls Try.prog 16 #[.agg #[.int .i64 n, .slice aa al ac, .slice qa ql qc, .int .i64 tick, .int .i64 gate, .int .i64 rmin, .slice ro rl rc]] w fun e w' => e = .returned (.int .i64 (chkC (n : Int) al ql rl A Q tick gate rmin X)) ∧ Grown w w' := by
  have HN := hide hn
  have MV : Hid (∀ W, Grown w W → Calls Try.prog 41 #[.agg #[.int .i64 n, .slice aa al ac, .slice qa ql qc, .int .i64 tick, .int .i64 gate, .int .i64 rmin, .slice ro rl rc]] W fun e w' => e = .returned (.bool (movB n al ql A Q)) ∧ Grown W w') := fun W g => refMoves n hn aa qa ro al ac ql qc rl rc tick gate rmin A Q W (ha0.grown g) (hq0.grown g)
  have RR := hide (And.intro hr hh)
  have dn1 : decide ((n : Int) < 1) = false := decide_eq_false (by omega)
  have dn6 : decide ((6 : Int) < (n : Int)) = false := decide_eq_false (by omega)
  have EN : Hid ((n : Int).toNat = n) := Int.toNat_natCast n
  have G1 : Hid (Grown w (w.alloc (.cells #[.int .i64 n, .slice aa al ac, .slice qa ql qc, .int .i64 tick, .int .i64 gate, .int .i64 rmin, .slice ro rl rc] 25)) ∧ Blk w.heap.size #[.int .i64 n, .slice aa al ac, .slice qa ql qc, .int .i64 tick, .int .i64 gate, .int .i64 rmin, .slice ro rl rc] 25 (w.alloc (.cells #[.int .i64 n, .slice aa al ac, .slice qa ql qc, .int .i64 tick, .int .i64 gate, .int .i64 rmin, .slice ro rl rc] 25))) := ⟨(Grown.refl _).alloc _ _, Blk.new _ _ _⟩
  have y0 : (w.alloc (.cells #[.int .i64 n, .slice aa al ac, .slice qa ql qc, .int .i64 tick, .int .i64 gate, .int .i64 rmin, .slice ro rl rc] 25)).cell? ⟨w.heap.size, 0, none⟩ = some (.int .i64 n) := Blk.cell (unhide G1).2 0
  have y1 : (w.alloc (.cells #[.int .i64 n, .slice aa al ac, .slice qa ql qc, .int .i64 tick, .int .i64 gate, .int .i64 rmin, .slice ro rl rc] 25)).cell? ⟨w.heap.size, 1, none⟩ = some (.slice aa al ac) := Blk.cell (unhide G1).2 1
  have y2 : (w.alloc (.cells #[.int .i64 n, .slice aa al ac, .slice qa ql qc, .int .i64 tick, .int .i64 gate, .int .i64 rmin, .slice ro rl rc] 25)).cell? ⟨w.heap.size, 2, none⟩ = some (.slice qa ql qc) := Blk.cell (unhide G1).2 2
  have y3 : (w.alloc (.cells #[.int .i64 n, .slice aa al ac, .slice qa ql qc, .int .i64 tick, .int .i64 gate, .int .i64 rmin, .slice ro rl rc] 25)).cell? ⟨w.heap.size, 3, none⟩ = some (.int .i64 tick) := Blk.cell (unhide G1).2 3
  have y4 : (w.alloc (.cells #[.int .i64 n, .slice aa al ac, .slice qa ql qc, .int .i64 tick, .int .i64 gate, .int .i64 rmin, .slice ro rl rc] 25)).cell? ⟨w.heap.size, 4, none⟩ = some (.int .i64 gate) := Blk.cell (unhide G1).2 4
  have y5 : (w.alloc (.cells #[.int .i64 n, .slice aa al ac, .slice qa ql qc, .int .i64 tick, .int .i64 gate, .int .i64 rmin, .slice ro rl rc] 25)).cell? ⟨w.heap.size, 5, none⟩ = some (.int .i64 rmin) := Blk.cell (unhide G1).2 5
  have y6 : (w.alloc (.cells #[.int .i64 n, .slice aa al ac, .slice qa ql qc, .int .i64 tick, .int .i64 gate, .int .i64 rmin, .slice ro rl rc] 25)).cell? ⟨w.heap.size, 6, none⟩ = some (.slice ro rl rc) := Blk.cell (unhide G1).2 6
  clear hn ha0 hq0 hr hh
  by_cases hm : okMoves n al ql A Q
  · rw [movB_yes hm] at MV
    have MO : Hid (okMoves (n : Int).toNat al ql A Q) := by show okMoves (n : Int).toNat al ql A Q; rw [unhide EN]; exact hm
    clear hm EN
    by_cases h3 : tick < 1
    · have dh3 : decide (tick < 1) = true := decide_eq_true (by omega)
      have GE : Hid (chkC (n : Int) al ql rl A Q tick gate rmin X = 2) := chkC_no (fun h => by have := h.2.2.1; omega)
      clear RR
      go_enter Try.func16, Try.ntmps16
      go_wp2_with fail
      generalize (w.alloc (.cells #[.int .i64 n, .slice aa al ac, .slice qa ql qc, .int .i64 tick, .int .i64 gate, .int .i64 rmin, .slice ro rl rc] 25)) = w1 at *
      refine (unhide MV _ (unhide G1).1).mono ?_
      rintro e w2 ⟨rfl, g2⟩
      have G2 := hide (And.intro (gtrans (unhide G1).1 g2) (Blk.grown (unhide G1).2 g2))
      clear g2 G1 MV y0 y1 y2 y3 y4 y5 y6
      have z0 : w2.cell? ⟨w.heap.size, 0, none⟩ = some (.int .i64 n) := Blk.cell (unhide G2).2 0
      have z1 : w2.cell? ⟨w.heap.size, 1, none⟩ = some (.slice aa al ac) := Blk.cell (unhide G2).2 1
      have z2 : w2.cell? ⟨w.heap.size, 2, none⟩ = some (.slice qa ql qc) := Blk.cell (unhide G2).2 2
      have z3 : w2.cell? ⟨w.heap.size, 3, none⟩ = some (.int .i64 tick) := Blk.cell (unhide G2).2 3
      have z4 : w2.cell? ⟨w.heap.size, 4, none⟩ = some (.int .i64 gate) := Blk.cell (unhide G2).2 4
      have z5 : w2.cell? ⟨w.heap.size, 5, none⟩ = some (.int .i64 rmin) := Blk.cell (unhide G2).2 5
      have z6 : w2.cell? ⟨w.heap.size, 6, none⟩ = some (.slice ro rl rc) := Blk.cell (unhide G2).2 6
      go_wp2
      go_ret
      exact ⟨by rw [unhide GE]; rfl, (unhide G2).1⟩
    · have dh3 : decide (tick < 1) = false := decide_eq_false (by omega)
      by_cases h4 : 4294967296 < tick
      · have dh4 : decide (4294967296 < tick) = true := decide_eq_true (by omega)
        have GE : Hid (chkC (n : Int) al ql rl A Q tick gate rmin X = 2) := chkC_no (fun h => by have := h.2.2.1; omega)
        clear RR
        go_enter Try.func16, Try.ntmps16
        go_wp2_with fail
        generalize (w.alloc (.cells #[.int .i64 n, .slice aa al ac, .slice qa ql qc, .int .i64 tick, .int .i64 gate, .int .i64 rmin, .slice ro rl rc] 25)) = w1 at *
        refine (unhide MV _ (unhide G1).1).mono ?_
        rintro e w2 ⟨rfl, g2⟩
        have G2 := hide (And.intro (gtrans (unhide G1).1 g2) (Blk.grown (unhide G1).2 g2))
        clear g2 G1 MV y0 y1 y2 y3 y4 y5 y6
        have z0 : w2.cell? ⟨w.heap.size, 0, none⟩ = some (.int .i64 n) := Blk.cell (unhide G2).2 0
        have z1 : w2.cell? ⟨w.heap.size, 1, none⟩ = some (.slice aa al ac) := Blk.cell (unhide G2).2 1
        have z2 : w2.cell? ⟨w.heap.size, 2, none⟩ = some (.slice qa ql qc) := Blk.cell (unhide G2).2 2
        have z3 : w2.cell? ⟨w.heap.size, 3, none⟩ = some (.int .i64 tick) := Blk.cell (unhide G2).2 3
        have z4 : w2.cell? ⟨w.heap.size, 4, none⟩ = some (.int .i64 gate) := Blk.cell (unhide G2).2 4
        have z5 : w2.cell? ⟨w.heap.size, 5, none⟩ = some (.int .i64 rmin) := Blk.cell (unhide G2).2 5
        have z6 : w2.cell? ⟨w.heap.size, 6, none⟩ = some (.slice ro rl rc) := Blk.cell (unhide G2).2 6
        go_wp2
        go_ret
        exact ⟨by rw [unhide GE]; rfl, (unhide G2).1⟩
      · have dh4 : decide (4294967296 < tick) = false := decide_eq_false (by omega)
        by_cases h5 : gate < 1
        · have dh5 : decide (gate < 1) = true := decide_eq_true (by omega)
          have GE : Hid (chkC (n : Int) al ql rl A Q tick gate rmin X = 2) := chkC_no (fun h => by have := h.2.2.2.1; omega)
          clear RR
          go_enter Try.func16, Try.ntmps16
          go_wp2_with fail
          generalize (w.alloc (.cells #[.int .i64 n, .slice aa al ac, .slice qa ql qc, .int .i64 tick, .int .i64 gate, .int .i64 rmin, .slice ro rl rc] 25)) = w1 at *
          refine (unhide MV _ (unhide G1).1).mono ?_
          rintro e w2 ⟨rfl, g2⟩
          have G2 := hide (And.intro (gtrans (unhide G1).1 g2) (Blk.grown (unhide G1).2 g2))
          clear g2 G1 MV y0 y1 y2 y3 y4 y5 y6
          have z0 : w2.cell? ⟨w.heap.size, 0, none⟩ = some (.int .i64 n) := Blk.cell (unhide G2).2 0
          have z1 : w2.cell? ⟨w.heap.size, 1, none⟩ = some (.slice aa al ac) := Blk.cell (unhide G2).2 1
          have z2 : w2.cell? ⟨w.heap.size, 2, none⟩ = some (.slice qa ql qc) := Blk.cell (unhide G2).2 2
          have z3 : w2.cell? ⟨w.heap.size, 3, none⟩ = some (.int .i64 tick) := Blk.cell (unhide G2).2 3
          have z4 : w2.cell? ⟨w.heap.size, 4, none⟩ = some (.int .i64 gate) := Blk.cell (unhide G2).2 4
          have z5 : w2.cell? ⟨w.heap.size, 5, none⟩ = some (.int .i64 rmin) := Blk.cell (unhide G2).2 5
          have z6 : w2.cell? ⟨w.heap.size, 6, none⟩ = some (.slice ro rl rc) := Blk.cell (unhide G2).2 6
          go_wp2
          go_ret
          exact ⟨by rw [unhide GE]; rfl, (unhide G2).1⟩
        · have dh5 : decide (gate < 1) = false := decide_eq_false (by omega)
          by_cases h6 : rmin < 1
          · have dh6 : decide (rmin < 1) = true := decide_eq_true (by omega)
            have GE : Hid (chkC (n : Int) al ql rl A Q tick gate rmin X = 2) := chkC_no (fun h => by have := h.2.2.2.2.1; omega)
            clear RR
            go_enter Try.func16, Try.ntmps16
            go_wp2_with fail
            generalize (w.alloc (.cells #[.int .i64 n, .slice aa al ac, .slice qa ql qc, .int .i64 tick, .int .i64 gate, .int .i64 rmin, .slice ro rl rc] 25)) = w1 at *
            refine (unhide MV _ (unhide G1).1).mono ?_
            rintro e w2 ⟨rfl, g2⟩
            have G2 := hide (And.intro (gtrans (unhide G1).1 g2) (Blk.grown (unhide G1).2 g2))
            clear g2 G1 MV y0 y1 y2 y3 y4 y5 y6
            have z0 : w2.cell? ⟨w.heap.size, 0, none⟩ = some (.int .i64 n) := Blk.cell (unhide G2).2 0
            have z1 : w2.cell? ⟨w.heap.size, 1, none⟩ = some (.slice aa al ac) := Blk.cell (unhide G2).2 1
            have z2 : w2.cell? ⟨w.heap.size, 2, none⟩ = some (.slice qa ql qc) := Blk.cell (unhide G2).2 2
            have z3 : w2.cell? ⟨w.heap.size, 3, none⟩ = some (.int .i64 tick) := Blk.cell (unhide G2).2 3
            have z4 : w2.cell? ⟨w.heap.size, 4, none⟩ = some (.int .i64 gate) := Blk.cell (unhide G2).2 4
            have z5 : w2.cell? ⟨w.heap.size, 5, none⟩ = some (.int .i64 rmin) := Blk.cell (unhide G2).2 5
            have z6 : w2.cell? ⟨w.heap.size, 6, none⟩ = some (.slice ro rl rc) := Blk.cell (unhide G2).2 6
            go_wp2
            go_ret
            exact ⟨by rw [unhide GE]; rfl, (unhide G2).1⟩
          · have dh6 : decide (rmin < 1) = false := decide_eq_false (by omega)
            by_cases h7 : 24 < rl
            · have dh7 : decide ((24 : Int) < (rl : Int)) = true := decide_eq_true (by omega)
              have GE : Hid (chkC (n : Int) al ql rl A Q tick gate rmin X = 2) := chkC_no (fun h => by have := h.2.2.2.2.2.1; omega)
              clear RR
              go_enter Try.func16, Try.ntmps16
              go_wp2_with fail
              generalize (w.alloc (.cells #[.int .i64 n, .slice aa al ac, .slice qa ql qc, .int .i64 tick, .int .i64 gate, .int .i64 rmin, .slice ro rl rc] 25)) = w1 at *
              refine (unhide MV _ (unhide G1).1).mono ?_
              rintro e w2 ⟨rfl, g2⟩
              have G2 := hide (And.intro (gtrans (unhide G1).1 g2) (Blk.grown (unhide G1).2 g2))
              clear g2 G1 MV y0 y1 y2 y3 y4 y5 y6
              have z0 : w2.cell? ⟨w.heap.size, 0, none⟩ = some (.int .i64 n) := Blk.cell (unhide G2).2 0
              have z1 : w2.cell? ⟨w.heap.size, 1, none⟩ = some (.slice aa al ac) := Blk.cell (unhide G2).2 1
              have z2 : w2.cell? ⟨w.heap.size, 2, none⟩ = some (.slice qa ql qc) := Blk.cell (unhide G2).2 2
              have z3 : w2.cell? ⟨w.heap.size, 3, none⟩ = some (.int .i64 tick) := Blk.cell (unhide G2).2 3
              have z4 : w2.cell? ⟨w.heap.size, 4, none⟩ = some (.int .i64 gate) := Blk.cell (unhide G2).2 4
              have z5 : w2.cell? ⟨w.heap.size, 5, none⟩ = some (.int .i64 rmin) := Blk.cell (unhide G2).2 5
              have z6 : w2.cell? ⟨w.heap.size, 6, none⟩ = some (.slice ro rl rc) := Blk.cell (unhide G2).2 6
              go_wp2
              go_ret
              exact ⟨by rw [unhide GE]; rfl, (unhide G2).1⟩
            · have dh7 : decide ((24 : Int) < (rl : Int)) = false := decide_eq_false (by omega)
              have OKK : Hid ((1 ≤ tick ∧ tick ≤ 4294967296) ∧ 1 ≤ gate ∧ 1 ≤ rmin ∧ rl ≤ 24) := ⟨⟨by omega, by omega⟩, by omega, by omega, by omega⟩
              have r24 : rl ≤ 24 := by omega
              clear h3 h4 h5 h6 h7
              go_enter Try.func16, Try.ntmps16
              go_wp2_with fail
              generalize (w.alloc (.cells #[.int .i64 n, .slice aa al ac, .slice qa ql qc, .int .i64 tick, .int .i64 gate, .int .i64 rmin, .slice ro rl rc] 25)) = w1 at *
              refine (unhide MV _ (unhide G1).1).mono ?_
              rintro e w2 ⟨rfl, g2⟩
              have G2 : Hid (Grown w w2 ∧ Blk w.heap.size #[.int .i64 n, .slice aa al ac, .slice qa ql qc, .int .i64 tick, .int .i64 gate, .int .i64 rmin, .slice ro rl rc] 25 w2 ∧ ∀ j, j < 0 → okRow n rmin (lastS X j) (X j)) := ⟨gtrans (unhide G1).1 g2, Blk.grown (unhide G1).2 g2, fun j hj => absurd hj (Nat.not_lt_zero _)⟩
              clear g2 G1 MV y0 y1 y2 y3 y4 y5 y6
              have z0 : w2.cell? ⟨w.heap.size, 0, none⟩ = some (.int .i64 n) := Blk.cell (unhide G2).2.1 0
              have z1 : w2.cell? ⟨w.heap.size, 1, none⟩ = some (.slice aa al ac) := Blk.cell (unhide G2).2.1 1
              have z2 : w2.cell? ⟨w.heap.size, 2, none⟩ = some (.slice qa ql qc) := Blk.cell (unhide G2).2.1 2
              have z3 : w2.cell? ⟨w.heap.size, 3, none⟩ = some (.int .i64 tick) := Blk.cell (unhide G2).2.1 3
              have z4 : w2.cell? ⟨w.heap.size, 4, none⟩ = some (.int .i64 gate) := Blk.cell (unhide G2).2.1 4
              have z5 : w2.cell? ⟨w.heap.size, 5, none⟩ = some (.int .i64 rmin) := Blk.cell (unhide G2).2.1 5
              have z6 : w2.cell? ⟨w.heap.size, 6, none⟩ = some (.slice ro rl rc) := Blk.cell (unhide G2).2.1 6
              go_wp2_with fail
              clear dh3 dh4 dh5 dh6 dh7 z0 z1 z2 z3 z4 z5 z6
              go_loopw [3, 4] (fun l i wr => ∃ k : Nat, k ≤ rl ∧ i = .int .i64 k ∧ l = .int .i64 (lastS X k) ∧ Hid (Grown w wr ∧ Blk w.heap.size #[.int .i64 n, .slice aa al ac, .slice qa ql qc, .int .i64 tick, .int .i64 gate, .int .i64 rmin, .slice ro rl rc] 25 wr ∧ ∀ j, j < k → okRow n rmin (lastS X j) (X j))) (fun _ i _ => rl - (intOf i).toNat)
              case atStart => exact ⟨0, Nat.zero_le _, rfl, rfl, unhide G2⟩
              case round =>
                obtain ⟨k, hk, rfl, rfl, HI⟩ := hrel
                clear G2
                have y0 : wr.cell? ⟨w.heap.size, 0, none⟩ = some (.int .i64 n) := Blk.cell (unhide HI).2.1 0
                have y1 : wr.cell? ⟨w.heap.size, 1, none⟩ = some (.slice aa al ac) := Blk.cell (unhide HI).2.1 1
                have y2 : wr.cell? ⟨w.heap.size, 2, none⟩ = some (.slice qa ql qc) := Blk.cell (unhide HI).2.1 2
                have y3 : wr.cell? ⟨w.heap.size, 3, none⟩ = some (.int .i64 tick) := Blk.cell (unhide HI).2.1 3
                have y4 : wr.cell? ⟨w.heap.size, 4, none⟩ = some (.int .i64 gate) := Blk.cell (unhide HI).2.1 4
                have y5 : wr.cell? ⟨w.heap.size, 5, none⟩ = some (.int .i64 rmin) := Blk.cell (unhide HI).2.1 5
                have y6 : wr.cell? ⟨w.heap.size, 6, none⟩ = some (.slice ro rl rc) := Blk.cell (unhide HI).2.1 6
                by_cases hlt : k < rl
                · obtain ⟨b, o, rfl, c0, c1, c2⟩ := ((unhide RR).1.grown (unhide HI).1).at hlt
                  have i0 : (0 : Int) ≤ (k : Int) := Int.natCast_nonneg _
                  have i1 : (k : Int) < (rl : Int) := Int.ofNat_lt.2 hlt
                  have SS : Hid (∀ W, Grown w W → Calls Try.prog 42 #[.agg #[.int .i64 n, .slice aa al ac, .slice qa ql qc, .int .i64 tick, .int .i64 gate, .int .i64 rmin, .slice (some ⟨b, o, none⟩) rl rc], .agg #[.int .i64 (X k).s, .slice (X k).h.ao (X k).h.len (X k).h.cap, .int .i64 (X k).r], .int .i64 (lastS X k)] W fun e w' => e = .returned (.bool (seeB n rmin (lastS X k) (X k).s (X k).h.len (X k).h.Z (X k).r)) ∧ Grown W w') := fun W g => refSees n (unhide HN) aa qa (some ⟨b, o, none⟩) al ac ql qc rl rc tick gate rmin (X k).s (X k).r (lastS X k) (X k).h.ao (X k).h.len (X k).h.cap (X k).h.Z W (((unhide RR).2 k hlt).grown g)
                  have EL : Hid (lastS X (k + 1) = (X k).s) := rfl
                  have EO : Hid (okSee n rmin (lastS X k) (X k).s (X k).h.len (X k).h.Z (X k).r ↔ okRow n rmin (lastS X k) (X k)) := Iff.rfl
                  by_cases hs : okRow n rmin (lastS X k) (X k)
                  · rw [seeB_yes ((unhide EO).2 hs)] at SS
                    have HS : Hid (∀ j, j < k + 1 → okRow n rmin (lastS X j) (X j)) := fun j hj => by
                      by_cases e : j = k
                      · subst e
                        exact hs
                      · exact (unhide HI).2.2 j (by omega)
                    have B1 : Hid (k + 1 ≤ rl) := hlt
                    clear hs EO
                    generalize (X k).s = s at *
                    generalize (X k).h.ao = ha at *
                    generalize (X k).h.len = hl at *
                    generalize (X k).h.cap = hc at *
                    generalize (X k).r = r at *
                    generalize lastS X k = last at *
                    go_wp2_with fail
                    go_region_held3 (fun w' => w'.cell? ⟨w.heap.size, 0, none⟩ = some (.int .i64 n) ∧ w'.cell? ⟨w.heap.size, 1, none⟩ = some (.slice aa al ac) ∧ w'.cell? ⟨w.heap.size, 2, none⟩ = some (.slice qa ql qc) ∧ w'.cell? ⟨w.heap.size, 3, none⟩ = some (.int .i64 tick) ∧ w'.cell? ⟨w.heap.size, 4, none⟩ = some (.int .i64 gate) ∧ w'.cell? ⟨w.heap.size, 5, none⟩ = some (.int .i64 rmin) ∧ w'.cell? ⟨w.heap.size, 6, none⟩ = some (.slice (some ⟨b, o, none⟩) rl rc) ∧ w'.cell? ⟨b, o + k * 3, none⟩ = some (.int .i64 s) ∧ w'.cell? ⟨b, o + k * 3 + 1, none⟩ = some (.slice ha hl hc) ∧ w'.cell? ⟨b, o + k * 3 + 2, none⟩ = some (.int .i64 r))
                        (simp [go_sem, *])
                        (first
                          | (go_at_call 42; refine (unhide SS _ (show Grown w wr.drew from (unhide HI).1)).mono ?_; clear SS; rintro e w5 ⟨rfl, g5⟩; have G5 : Hid (Grown w w5 ∧ Blk w.heap.size #[.int .i64 n, .slice aa al ac, .slice qa ql qc, .int .i64 tick, .int .i64 gate, .int .i64 rmin, .slice (some ⟨b, o, none⟩) rl rc] 25 w5) := ⟨gtrans (show Grown w wr.drew from (unhide HI).1) g5, Blk.grown (show Blk w.heap.size #[.int .i64 n, .slice aa al ac, .slice qa ql qc, .int .i64 tick, .int .i64 gate, .int .i64 rmin, .slice (some ⟨b, o, none⟩) rl rc] 25 wr.drew from (unhide HI).2.1) g5⟩; have kk : Grown wr w5 := g5; have v0 : w5.cell? ⟨w.heap.size, 0, none⟩ = some (.int .i64 n) := Blk.cell (unhide G5).2 0; have v1 : w5.cell? ⟨w.heap.size, 1, none⟩ = some (.slice aa al ac) := Blk.cell (unhide G5).2 1; have v2 : w5.cell? ⟨w.heap.size, 2, none⟩ = some (.slice qa ql qc) := Blk.cell (unhide G5).2 2; have v3 : w5.cell? ⟨w.heap.size, 3, none⟩ = some (.int .i64 tick) := Blk.cell (unhide G5).2 3; have v4 : w5.cell? ⟨w.heap.size, 4, none⟩ = some (.int .i64 gate) := Blk.cell (unhide G5).2 4; have v5 : w5.cell? ⟨w.heap.size, 5, none⟩ = some (.int .i64 rmin) := Blk.cell (unhide G5).2 5; have v6 : w5.cell? ⟨w.heap.size, 6, none⟩ = some (.slice (some ⟨b, o, none⟩) rl rc) := Blk.cell (unhide G5).2 6; have t0 := gat kk c0; have t1 := gat kk c1; have t2 := gat kk c2; clear g5 kk))
                    have R5 : Hid (Grown w w5 ∧ Blk w.heap.size #[.int .i64 n, .slice aa al ac, .slice qa ql qc, .int .i64 tick, .int .i64 gate, .int .i64 rmin, .slice (some ⟨b, o, none⟩) rl rc] 25 w5 ∧ ∀ j, j < k + 1 → okRow n rmin (lastS X j) (X j)) := ⟨(unhide G5).1, (unhide G5).2, unhide HS⟩
                    clear HI G5 HS
                    go_wp2
                    go_roundw
                    case rel => exact ⟨k + 1, unhide B1, by go_num, by rw [unhide EL], R5⟩
                    case measure => have := unhide B1; simp [intOf]; omega
                  · rw [seeB_no (fun h => hs ((unhide EO).1 h))] at SS
                    have GE : Hid (chkC (n : Int) al ql rl A Q tick gate rmin X = 2) := chkC_no (fun h => hs (h.2.2.2.2.2.2 k hlt))
                    clear hs EO EL
                    generalize (X k).s = s at *
                    generalize (X k).h.ao = ha at *
                    generalize (X k).h.len = hl at *
                    generalize (X k).h.cap = hc at *
                    generalize (X k).r = r at *
                    generalize lastS X k = last at *
                    go_wp2_with fail
                    go_region_held3 (fun w' => w'.cell? ⟨w.heap.size, 0, none⟩ = some (.int .i64 n) ∧ w'.cell? ⟨w.heap.size, 1, none⟩ = some (.slice aa al ac) ∧ w'.cell? ⟨w.heap.size, 2, none⟩ = some (.slice qa ql qc) ∧ w'.cell? ⟨w.heap.size, 3, none⟩ = some (.int .i64 tick) ∧ w'.cell? ⟨w.heap.size, 4, none⟩ = some (.int .i64 gate) ∧ w'.cell? ⟨w.heap.size, 5, none⟩ = some (.int .i64 rmin) ∧ w'.cell? ⟨w.heap.size, 6, none⟩ = some (.slice (some ⟨b, o, none⟩) rl rc) ∧ w'.cell? ⟨b, o + k * 3, none⟩ = some (.int .i64 s) ∧ w'.cell? ⟨b, o + k * 3 + 1, none⟩ = some (.slice ha hl hc) ∧ w'.cell? ⟨b, o + k * 3 + 2, none⟩ = some (.int .i64 r))
                        (simp [go_sem, *])
                        (first
                          | (go_at_call 42; refine (unhide SS _ (show Grown w wr.drew from (unhide HI).1)).mono ?_; clear SS; rintro e w5 ⟨rfl, g5⟩; have G5 : Hid (Grown w w5 ∧ Blk w.heap.size #[.int .i64 n, .slice aa al ac, .slice qa ql qc, .int .i64 tick, .int .i64 gate, .int .i64 rmin, .slice (some ⟨b, o, none⟩) rl rc] 25 w5) := ⟨gtrans (show Grown w wr.drew from (unhide HI).1) g5, Blk.grown (show Blk w.heap.size #[.int .i64 n, .slice aa al ac, .slice qa ql qc, .int .i64 tick, .int .i64 gate, .int .i64 rmin, .slice (some ⟨b, o, none⟩) rl rc] 25 wr.drew from (unhide HI).2.1) g5⟩; have kk : Grown wr w5 := g5; have v0 : w5.cell? ⟨w.heap.size, 0, none⟩ = some (.int .i64 n) := Blk.cell (unhide G5).2 0; have v1 : w5.cell? ⟨w.heap.size, 1, none⟩ = some (.slice aa al ac) := Blk.cell (unhide G5).2 1; have v2 : w5.cell? ⟨w.heap.size, 2, none⟩ = some (.slice qa ql qc) := Blk.cell (unhide G5).2 2; have v3 : w5.cell? ⟨w.heap.size, 3, none⟩ = some (.int .i64 tick) := Blk.cell (unhide G5).2 3; have v4 : w5.cell? ⟨w.heap.size, 4, none⟩ = some (.int .i64 gate) := Blk.cell (unhide G5).2 4; have v5 : w5.cell? ⟨w.heap.size, 5, none⟩ = some (.int .i64 rmin) := Blk.cell (unhide G5).2 5; have v6 : w5.cell? ⟨w.heap.size, 6, none⟩ = some (.slice (some ⟨b, o, none⟩) rl rc) := Blk.cell (unhide G5).2 6; have t0 := gat kk c0; have t1 := gat kk c1; have t2 := gat kk c2; clear g5 kk))
                    clear HI
                    go_wp2
                    go_ret
                    exact ⟨by rw [unhide GE]; rfl, (unhide G5).1⟩
                · obtain rfl : k = rl := by omega
                  have GE : Hid (chkC (n : Int) al ql k A Q tick gate rmin X = 0) := chkC_yes ⟨⟨by have := (unhide HN).1; omega, by have := (unhide HN).2; omega⟩, unhide MO, (unhide OKK).1, (unhide OKK).2.1, (unhide OKK).2.2.1, (unhide OKK).2.2.2, (unhide HI).2.2⟩
                  go_wp2
                  go_ret
                  exact ⟨by rw [unhide GE]; rfl, (unhide HI).1⟩
  · rw [movB_no hm] at MV
    have HM : Hid (¬ okMoves (n : Int).toNat al ql A Q) := by show ¬ okMoves (n : Int).toNat al ql A Q; rw [unhide EN]; exact hm
    clear hm EN
    have GE : Hid (chkC (n : Int) al ql rl A Q tick gate rmin X = 2) := chkC_no (fun h => unhide HM h.2.1)
    clear RR
    go_enter Try.func16, Try.ntmps16
    go_wp2_with fail
    generalize (w.alloc (.cells #[.int .i64 n, .slice aa al ac, .slice qa ql qc, .int .i64 tick, .int .i64 gate, .int .i64 rmin, .slice ro rl rc] 25)) = w1 at *
    refine (unhide MV _ (unhide G1).1).mono ?_
    rintro e w2 ⟨rfl, g2⟩
    have G2 := hide (And.intro (gtrans (unhide G1).1 g2) (Blk.grown (unhide G1).2 g2))
    clear g2 G1 MV y0 y1 y2 y3 y4 y5 y6
    have z0 : w2.cell? ⟨w.heap.size, 0, none⟩ = some (.int .i64 n) := Blk.cell (unhide G2).2 0
    have z1 : w2.cell? ⟨w.heap.size, 1, none⟩ = some (.slice aa al ac) := Blk.cell (unhide G2).2 1
    have z2 : w2.cell? ⟨w.heap.size, 2, none⟩ = some (.slice qa ql qc) := Blk.cell (unhide G2).2 2
    have z3 : w2.cell? ⟨w.heap.size, 3, none⟩ = some (.int .i64 tick) := Blk.cell (unhide G2).2 3
    have z4 : w2.cell? ⟨w.heap.size, 4, none⟩ = some (.int .i64 gate) := Blk.cell (unhide G2).2 4
    have z5 : w2.cell? ⟨w.heap.size, 5, none⟩ = some (.int .i64 rmin) := Blk.cell (unhide G2).2 5
    have z6 : w2.cell? ⟨w.heap.size, 6, none⟩ = some (.slice ro rl rc) := Blk.cell (unhide G2).2 6
    go_wp2
    go_ret
    exact ⟨by rw [unhide GE]; rfl, (unhide G2).1⟩

theorem refCheck (m : DV) (w : World) (h : m.rows w) : Calls Try.prog 16 #[.agg m.cells] w fun e w' => e = .returned (.int .i64 (chkD m)) ∧ Grown w w' := by
  rw [chkD_C]
  by_cases hN : 1 ≤ m.N ∧ m.N ≤ 6
  · obtain ⟨n, hn⟩ : ∃ n : Nat, m.N = n := ⟨m.N.toNat, by omega⟩
    have := refCheck_n n (by omega) m.A.ao m.Q.ao m.ro m.A.len m.A.cap m.Q.len m.Q.cap m.rl m.rc m.tick m.gate m.rmin m.A.Z m.Q.Z m.X w h.1 h.2.1 h.2.2.1 h.2.2.2
    rw [← hn] at this
    exact this
  · exact refCheck_N m.N m.A.ao m.Q.ao m.ro m.A.len m.A.cap m.Q.len m.Q.cap m.rl m.rc m.tick m.gate m.rmin m.A.Z m.Q.Z m.X w (by omega)

end Go.Proofs.Ytpanfppnkgokdaa

/- Lists of rows that are copied; the document's RowsOf. -/
namespace Go.Proofs.Ytpanfppnkgokdaa
open Go.RowKit Go.Shelf Go.Proofs.Wd
set_option linter.unusedVariables false
set_option linter.unusedSimpArgs false
set_option maxRecDepth 10000

/-- A copy of a row: its numbers lie elsewhere. -/
def cpRV (y : RV) (a : Option Addr) (p : Nat) : RV := ⟨y.s, ⟨a, y.h.len, p, y.h.Z⟩, y.r⟩
/-- The rows of a sensor, up to the k-th. -/
def seenR (X : Nat → RV) (s : Int) : Nat → List RV
  | 0 => []
  | k + 1 => if (X k).s = s then seenR X s k ++ [X k] else seenR X s k
theorem seenR_len (X : Nat → RV) (s : Int) : ∀ k, (seenR X s k).length ≤ k
  | 0 => Nat.le_refl _
  | k + 1 => by
    have := seenR_len X s k
    unfold seenR
    split
    · rw [List.length_append, List.length_singleton]; omega
    · omega
/-- A list of copies that was gathered. -/
def RCp (base : Nat) (v : Value) (Y : List RV) (l : List RV) (W : World) : Prop :=
  RLs W base v l ∧ l.length = Y.length ∧ ∀ (i : Nat) (x y : RV), l[i]? = some x → Y[i]? = some y → ∃ a p, x = cpRV y a p ∧ y.h.len ≤ p ∧ Row W a y.h.len y.h.Z ∧ (∀ U, U < base → Off U y.h.len a) ∧ ∀ g, v.ownBlock = some g → Off g y.h.len a
theorem rowGrownByR {W W' : World} {ao : Option Addr} {len : Nat} {Z : Nat → Int} {row : Option Nat} (h : Row W ao len Z) (hg : W.grownBy W' row) (ho : ∀ g, row = some g → Off g len ao) : Row W' ao len Z := by
  rcases h with h | ⟨b, o, rfl, hc⟩
  · exact Or.inl h
  · exact Or.inr ⟨b, o, rfl, fun i hi => (World.cell?_of_block (hg.block b (heap_gt (hc i hi)) (fun e => ho b e.symm (by omega) _ rfl rfl))).trans (hc i hi)⟩
theorem RCp.kp {base : Nat} {v : Value} {Y l : List RV} {W W' : World} (h : RCp base v Y l W) (k : Kp W W') : RCp base v Y l W' :=
  ⟨h.1.kp k, h.2.1, fun i x y hx hy => let ⟨a, p, e, h1, h2, h3, h4⟩ := h.2.2 i x y hx hy; ⟨a, p, e, h1, h2.kp k, h3, h4⟩⟩
theorem RCp.nil (w : World) (base : Nat) : RCp base (.slice none 0 0) [] [] w := ⟨RLs.nil w base, rfl, fun i x y hx => by cases hx⟩
theorem RCp.mono {base base' : Nat} {v : Value} {Y l : List RV} {W : World} (h : RCp base v Y l W) (hb : base' ≤ base) : RCp base' v Y l W :=
  ⟨h.1.mono hb, h.2.1, fun i x y hx hy => let ⟨a, p, e, h1, h2, h3, h4⟩ := h.2.2 i x y hx hy; ⟨a, p, e, h1, h2, fun U hU => h3 U (by omega), h4⟩⟩
theorem RCp.ownLt {base g : Nat} {v : Value} {Y l : List RV} {W : World} (h : RCp base v Y l W) (e : v.ownBlock = some g) : g < W.heap.size ∧ base ≤ g := by
  rcases h.1.2 with ⟨e2, _⟩ | ⟨g', cap, cur, rfl, hb, hg, r⟩
  · rw [e2] at e
    cases e
  · cases e
    exact ⟨Blk.lt (show Blk _ cur 41 W from hg), hb⟩
theorem RCp.app {base p : Nat} {v v' : Value} {Y l : List RV} {y : RV} {wa w4 : World} {a : Option Addr} (h : RCp base v Y l wa) (hp : y.h.len ≤ p) (hr : Row wa a y.h.len y.h.Z) (ho : ∀ U, U < base → Off U y.h.len a) (hg0 : ∀ g, v.ownBlock = some g → Off g y.h.len a)
    (hown : w4.ownsRow base 41 3 v' (l.length + 1) (flatR l ++ (cpRV y a p).cells.toList)) (hg : wa.grownBy w4 v.ownBlock) (hw : v'.ownBlock = v.ownBlock ∨ ∃ g, v'.ownBlock = some g ∧ wa.heap.size ≤ g) : RCp base v' (Y ++ [y]) (l ++ [cpRV y a p]) w4 := by
  have off : ∀ (len : Nat) (Z : Nat → Int) (a : Option Addr), Row wa a len Z → (∀ g, v.ownBlock = some g → Off g len a) → ∀ g, v'.ownBlock = some g → Off g len a := fun len Z a hr h0 g e => by
    rcases hw with hw | ⟨g', e', hge⟩
    · exact h0 g (hw ▸ e)
    · rw [e'] at e
      cases e
      exact hr.off hge
  refine ⟨?_, by rw [List.length_append, List.length_append, h.2.1]; rfl, fun i x z hx hz => ?_⟩
  · unfold RLs
    rw [flatR_snoc, List.length_append]
    exact hown
  · rw [List.getElem?_append] at hx hz
    split at hx
    · rename_i hi
      rw [if_pos (by rw [← h.2.1]; exact hi)] at hz
      obtain ⟨a', p', e, a1, a2, a3, a4⟩ := h.2.2 i x z hx hz
      exact ⟨a', p', e, a1, rowGrownByR a2 hg a4, a3, off _ _ _ a2 a4⟩
    · rename_i hi
      rw [if_neg (by rw [← h.2.1]; exact hi)] at hz
      have e : i = l.length := by
        rcases Nat.lt_or_ge (i - l.length) 1 with h1 | h1
        · omega
        · rw [List.getElem?_eq_none (by simpa using h1)] at hx; cases hx
      rw [e, h.2.1, Nat.sub_self] at hz
      rw [e, Nat.sub_self] at hx
      cases hx
      cases hz
      exact ⟨a, p, rfl, hp, rowGrownByR hr hg hg0, ho, off _ _ _ hr hg0⟩
theorem rv_eta {x : RV} (h1 : x.h.ao = none) (h2 : x.h.len = 0) (h3 : x.h.cap = 0) : x = ⟨x.s, ⟨none, 0, 0, x.h.Z⟩, x.r⟩ := by
  obtain ⟨s, ⟨a, l, c, z⟩, r⟩ := x
  cases h1
  cases h2
  cases h3
  rfl
/-- What RowsOf tells. -/
def RowsP (X : Nat → RV) (s : Int) (n : Nat) (w : World) (e : Ending) (w' : World) : Prop := ∃ v l, e = .returned v ∧ RCp w.heap.size v (seenR X s n) l w' ∧ Kp w w'
/-- Between two rounds. -/
def RoI (w : World) (cs : Array Value) (X : Nat → RV) (s : Int) (k : Nat) (v : Value) (wr : World) : Prop := (∃ l, RCp (w.heap.size + 1) v (seenR X s k) l wr) ∧ Kp w wr ∧ Blk w.heap.size cs 25 wr

theorem roStep {w wr w7 w8 : World} {cs : Array Value} {X : Nat → RV} {s : Int} {k p : Nat} {v v' : Value} {l : List RV} {a : Option Addr} {y : RV} (hs : (X k).s = s) (hy : X k = y) (hL : RCp (w.heap.size + 1) v (seenR X s k) l wr) (hk : Kp w wr ∧ Blk w.heap.size cs 25 wr) (kk : Kp wr w7) (hr : y.h.len ≤ p ∧ Row w7 a y.h.len y.h.Z ∧ ∀ U, U < wr.heap.size + 1 → Off U y.h.len a)
    (hown : w8.ownsRow (w.heap.size + 1) 41 3 v' (l.length + 1) (flatR l ++ (cpRV y a p).cells.toList)) (hg : (w7.alloc (.cells (cpRV y a p).cells 41)).grownBy w8 v.ownBlock) (hw : v'.ownBlock = v.ownBlock ∨ ∃ g, v'.ownBlock = some g ∧ (w7.alloc (.cells (cpRV y a p).cells 41)).heap.size ≤ g) : RoI w cs X s (k + 1) v' w8 := by
  have ka : Kp w7 (w7.alloc (.cells (cpRV y a p).cells 41)) := (Kp.refl _).alloc _ _
  have hb := Blk.lt hk.2
  have es : seenR X s (k + 1) = seenR X s k ++ [y] := by
    show (if (X k).s = s then _ else _) = _
    rw [if_pos hs, hy]
  refine ⟨⟨_, by rw [es]; exact (hL.kp (kk.trans ka)).app hr.1 (hr.2.1.kp ka) (fun U hU => hr.2.2 U (by omega)) (fun g e => hr.2.2 g (by have := (hL.ownLt e).1; omega)) hown hg hw⟩, Kp.by ((hk.1.trans kk).trans ka) hg (fun j e => by have := (hL.ownLt e).2; omega), Blk.by (Blk.kp (Blk.kp hk.2 kk) ka) hg (fun e => by have := (hL.ownLt e.symm).2; omega)⟩

/-- The copy of a row's numbers: the box that is stored into. -/
theorem roCopy {wr W5 w6 : World} {s r : Int} {ad : Addr} {len cap : Nat} {Z : Nat → Int} {v6 : Value} {md : Value} (om : W5.ownsRow (wr.heap.size + 1) 3 1 md 0 []) (hown : w6.ownsRow (wr.heap.size + 1) 3 1 v6 (0 + len) ([] ++ (List.range len).map fun i => Value.int .i64 (Z i))) (hg : W5.grownBy w6 md.ownBlock) (bx : Blk wr.heap.size #[.int .i64 s, .slice (some ad) len cap, .int .i64 r] 41 W5) (ka : Kp wr W5) :
    ∃ a p, v6 = .slice a len p ∧ Blk wr.heap.size #[.int .i64 s, .slice (some ad) len cap, .int .i64 r] 41 w6 ∧ Kp wr (w6.setCell ⟨wr.heap.size, 1, none⟩ (.slice a len p)) ∧ Blk wr.heap.size #[.int .i64 s, .slice a len p, .int .i64 r] 41 (w6.setCell ⟨wr.heap.size, 1, none⟩ (.slice a len p)) ∧
      len ≤ p ∧ Row (w6.setCell ⟨wr.heap.size, 1, none⟩ (.slice a len p)) a len Z ∧ ∀ U, U < wr.heap.size + 1 → Off U len a := by
  rw [Nat.zero_add, List.nil_append] at hown
  obtain ⟨a, p, rfl, hp, hr, ho⟩ := owns_rowC hown
  have own : ∀ g, md.ownBlock = some g → wr.heap.size + 1 ≤ g := fun g e => (om.lt g e).1
  have b6 := Blk.by bx hg (fun e => by have := own _ e.symm; omega)
  have sm : Mod wr.heap.size w6 (w6.setCell ⟨wr.heap.size, 1, none⟩ (.slice a len p)) := (Mod.refl _ _).setCell _ _
  exact ⟨a, p, rfl, b6, (Kp.by ka hg (fun g e => by have := own g e; omega)).mod sm (Nat.le_refl _), Blk.set b6 1 _, hp, hr.mk (Mk.of sm) (ho _ (by omega)), ho⟩

set_option maxRecDepth 20000 in
set_option maxHeartbeats 8000000 in
theorem refRowsOf_c (N : Int) (aa qa ro : Option Addr) (al ac ql qc rl rc : Nat) (tick gate rmin s : Int) (X : Nat → RV) (hrl : rl ≤ 1000) (w : World) (hr : RVs w ro rl X) (hh : ∀ i, i < rl → Row w (X i).h.ao (X i).h.len (X i).h.Z) (hf : ∀ i, i < rl → (X i).h.len ≤ 100000 ∧ ((X i).h.ao = none → (X i).h.len = 0 ∧ (X i).h.cap = 0)) :
    Calls Try.prog 14 #[.agg #[.int .i64 N, .slice aa al ac, .slice qa ql qc, .int .i64 tick, .int .i64 gate, .int .i64 rmin, .slice ro rl rc], .int .i64 s] w fun e w' => RowsP X s rl w e w' := by
  have bl := Blk.new w #[.int .i64 N, .slice aa al ac, .slice qa ql qc, .int .i64 tick, .int .i64 gate, .int .i64 rmin, .slice ro rl rc] 25
  have S0 : Hid (RoI w #[.int .i64 N, .slice aa al ac, .slice qa ql qc, .int .i64 tick, .int .i64 gate, .int .i64 rmin, .slice ro rl rc] X s 0 (.slice none 0 0) (w.alloc (.cells #[.int .i64 N, .slice aa al ac, .slice qa ql qc, .int .i64 tick, .int .i64 gate, .int .i64 rmin, .slice ro rl rc] 25))) := ⟨⟨[], RCp.nil _ _⟩, (Kp.refl _).alloc _ _, bl⟩
  have HR := hide (And.intro hr (And.intro hh hf))
  clear bl hr hh hf
  obtain ⟨i0, hi, hz0, hz1, hz2⟩ := info_parts Try.infoInt
  go_enter Try.func14, Try.ntmps14
  go_wp2_with fail
  generalize w.alloc (.cells #[.int .i64 N, .slice aa al ac, .slice qa ql qc, .int .i64 tick, .int .i64 gate, .int .i64 rmin, .slice ro rl rc] 25) = w1 at *
  go_loopw [5, 6] (fun v i wr => ∃ k : Nat, k ≤ rl ∧ i = .int .i64 k ∧ Hid (RoI w #[.int .i64 N, .slice aa al ac, .slice qa ql qc, .int .i64 tick, .int .i64 gate, .int .i64 rmin, .slice ro rl rc] X s k v wr)) (fun _ i _ => rl - (intOf i).toNat)
  case atStart => exact ⟨0, Nat.zero_le _, rfl, S0⟩
  case round =>
    obtain ⟨k, hk, rfl, HI⟩ := hrel
    clear S0
    have y6 : wr.cell? ⟨w.heap.size, 6, none⟩ = some (.slice ro rl rc) := Blk.cell (unhide HI).2.2 6
    by_cases hlt : k < rl
    · obtain ⟨b, o, rfl, c0, c1, c2⟩ := ((unhide HR).1.kp (unhide HI).2.1).at hlt
      have j0 : (0 : Int) ≤ (k : Int) := Int.natCast_nonneg _
      have j1 : (k : Int) < (rl : Int) := Int.ofNat_lt.2 hlt
      have B1 : Hid (k + 1 ≤ rl) := hlt
      by_cases hs : (X k).s = s
      · have ds : ((X k).s == s) = true := by simpa using hs
        have HSK := hide hs
        have rh := (unhide HR).2.1 k hlt
        have hfk := (unhide HR).2.2 k hlt
        have lb := Blk.lt (unhide HI).2.2
        have bx0 : Blk wr.heap.size #[.int .i64 (X k).s, .slice (X k).h.ao (X k).h.len (X k).h.cap, .int .i64 (X k).r] 41 ((wr.alloc (.cells #[.int .i64 (X k).s, .slice (X k).h.ao (X k).h.len (X k).h.cap, .int .i64 (X k).r] 41)).alloc (.cells #[] 3)) := Blk.grown (Blk.new wr _ _) ((Grown.refl _).alloc _ _)
        have ka : Kp wr ((wr.alloc (.cells #[.int .i64 (X k).s, .slice (X k).h.ao (X k).h.len (X k).h.cap, .int .i64 (X k).r] 41)).alloc (.cells #[] 3)) := ((Kp.refl _).alloc _ _).alloc _ _
        have om := World.ownsRow_made (base := wr.heap.size + 1) (e := 3) (size := 1) (wr.alloc (.cells #[.int .i64 (X k).s, .slice (X k).h.ao (X k).h.len (X k).h.cap, .int .i64 (X k).r] 41)) #[] 0 (by simp) (by unfold maxLen; omega) (by simp)
        have sz : (wr.alloc (.cells #[.int .i64 (X k).s, .slice (X k).h.ao (X k).h.len (X k).h.cap, .int .i64 (X k).r] 41)).heap.size = wr.heap.size + 1 := by simp
        rw [sz] at om
        have szz : wr.heap.size + 1 ≤ ((wr.alloc (.cells #[.int .i64 (X k).s, .slice (X k).h.ao (X k).h.len (X k).h.cap, .int .i64 (X k).r] 41)).alloc (.cells #[] 3)).heap.size := by simp
        cases hao : (X k).h.ao with
        | none =>
          obtain ⟨hl0, hc0⟩ := hfk.2 hao
          rw [hao] at c1 bx0 ka om szz
          rw [hl0, hc0] at c1 bx0 ka om szz
          have RO6 : Hid (0 ≤ 0 ∧ Row ((wr.alloc (.cells #[.int .i64 (X k).s, .slice (some ⟨wr.heap.size + 1, 0, none⟩) 0 0, .int .i64 (X k).r] 41)).alloc (.cells #[] 3)) (some ⟨wr.heap.size + 1, 0, none⟩) 0 (X k).h.Z ∧ ∀ U, U < wr.heap.size + 1 → Off U 0 (some ⟨wr.heap.size + 1, 0, none⟩)) := ⟨by omega, Or.inl rfl, fun U _ h => by omega⟩
          have KK6 : Hid (Kp wr ((wr.alloc (.cells #[.int .i64 (X k).s, .slice (some ⟨wr.heap.size + 1, 0, none⟩) 0 0, .int .i64 (X k).r] 41)).alloc (.cells #[] 3))) := ((Kp.refl _).alloc _ _).alloc _ _
          have BX6 : Hid (Blk wr.heap.size #[.int .i64 (X k).s, .slice (some ⟨wr.heap.size + 1, 0, none⟩) 0 0, .int .i64 (X k).r] 41 ((wr.alloc (.cells #[.int .i64 (X k).s, .slice (some ⟨wr.heap.size + 1, 0, none⟩) 0 0, .int .i64 (X k).r] 41)).alloc (.cells #[] 3))) := Blk.grown (Blk.new wr _ _) ((Grown.refl _).alloc _ _)
          have OM := hide om
          have HXK : Hid (X k = ⟨(X k).s, ⟨none, 0, 0, (X k).h.Z⟩, (X k).r⟩) := by
            show X k = _
            exact rv_eta hao hl0 hc0
          clear bx0 ka om szz hfk rh lb hs hao hl0 hc0 sz
          go_upto_region 8 with (at_builtin; refine wpList_append_own_none rfl _ _ 22 rfl (wr.heap.size + 1) 3 i0 1 Try.underlying22 hi _ _ _ rfl (unhide OM) rfl ?_)
          clear OM c0 c1 c2 y6
          have BX7 : Hid (Blk wr.heap.size #[.int .i64 (X k).s, .slice (some ⟨wr.heap.size + 1, 0, none⟩) 0 0, .int .i64 (X k).r] 41 ((wr.alloc (.cells #[.int .i64 (X k).s, .slice (some ⟨wr.heap.size + 1, 0, none⟩) 0 0, .int .i64 (X k).r] 41)).alloc (.cells #[] 3))) := unhide BX6
          have KK7 : Hid (Kp wr ((wr.alloc (.cells #[.int .i64 (X k).s, .slice (some ⟨wr.heap.size + 1, 0, none⟩) 0 0, .int .i64 (X k).r] 41)).alloc (.cells #[] 3))) := unhide KK6
          have RO7 : Hid (0 ≤ 0 ∧ Row ((wr.alloc (.cells #[.int .i64 (X k).s, .slice (some ⟨wr.heap.size + 1, 0, none⟩) 0 0, .int .i64 (X k).r] 41)).alloc (.cells #[] 3)) (some ⟨wr.heap.size + 1, 0, none⟩) 0 (X k).h.Z ∧ ∀ U, U < wr.heap.size + 1 → Off U 0 (some ⟨wr.heap.size + 1, 0, none⟩)) := unhide RO6
          clear BX6 KK6 RO6
          generalize ((wr.alloc (.cells #[.int .i64 (X k).s, .slice (some ⟨wr.heap.size + 1, 0, none⟩) 0 0, .int .i64 (X k).r] 41)).alloc (.cells #[] 3)) = w7 at *
          have q0 : w7.cell? ⟨wr.heap.size, 0, none⟩ = some (.int .i64 (X k).s) := Blk.cell (unhide BX7) 0
          have q1 : w7.cell? ⟨wr.heap.size, 1, none⟩ = some (.slice (some ⟨wr.heap.size + 1, 0, none⟩) 0 0) := Blk.cell (unhide BX7) 1
          have q2 : w7.cell? ⟨wr.heap.size, 2, none⟩ = some (.int .i64 (X k).r) := Blk.cell (unhide BX7) 2
          obtain ⟨⟨l, hL⟩, hkp, hbl⟩ := unhide HI
          have hlen : l.length ≤ k := by rw [hL.2.1]; exact seenR_len X s k
          have HL := hide hL
          have HK := hide (And.intro hkp hbl)
          have OW : Hid ((w7.alloc (.cells (cpRV ⟨(X k).s, ⟨none, 0, 0, (X k).h.Z⟩, (X k).r⟩ (some ⟨wr.heap.size + 1, 0, none⟩) 0).cells 41)).ownsRow (w.heap.size + 1) 41 3 u5 l.length (flatR l)) := (hL.kp ((unhide KK7).trans ((Kp.refl w7).alloc (cpRV ⟨(X k).s, ⟨none, 0, 0, (X k).h.Z⟩, (X k).r⟩ (some ⟨wr.heap.size + 1, 0, none⟩) 0).cells 41))).1
          have NW := hide (news_rowS (w := w7.alloc (.cells (cpRV ⟨(X k).s, ⟨none, 0, 0, (X k).h.Z⟩, (X k).r⟩ (some ⟨wr.heap.size + 1, 0, none⟩) 0).cells 41)) (x := cpRV ⟨(X k).s, ⟨none, 0, 0, (X k).h.Z⟩, (X k).r⟩ (some ⟨wr.heap.size + 1, 0, none⟩) 0) (Blk.new w7 _ _))
          have B2 : Hid (l.length ≤ 1000000) := by show l.length ≤ 1000000; omega
          have B3 : Hid (w.heap.size + 1 ≤ (w7.alloc (.cells (cpRV ⟨(X k).s, ⟨none, 0, 0, (X k).h.Z⟩, (X k).r⟩ (some ⟨wr.heap.size + 1, 0, none⟩) 0).cells 41)).heap.size) := by
            have h1 := Blk.lt hbl
            have h2 := (unhide KK7).2.2.2
            show _ ≤ _
            simp
            omega
          clear hL hkp hbl hlen HI BX7
          go_wp2_with (at_builtin; refine wpList_append_atR rfl _ _ rfl (w.heap.size + 1) _ _ _ rfl (unhide OW) ⟨w7.heap.size, 0, none⟩ 1 1 (cpRV ⟨(X k).s, ⟨none, 0, 0, (X k).h.Z⟩, (X k).r⟩ (some ⟨wr.heap.size + 1, 0, none⟩) 0).cells.toList rfl rfl (unhide NW) (cells_oneRV _) ⟨by decide, by decide⟩ (unhide B2) (unhide B3) ?_; intro v' w8 hown hgrow hwh; have S8 : Hid (RoI w #[.int .i64 N, .slice aa al ac, .slice qa ql qc, .int .i64 tick, .int .i64 gate, .int .i64 rmin, .slice (some ⟨b, o, none⟩) rl rc] X s (k + 1) v' w8) := roStep (unhide HSK) (y := ⟨(X k).s, ⟨none, 0, 0, (X k).h.Z⟩, (X k).r⟩) (unhide HXK) (unhide HL) (unhide HK) (unhide KK7) (unhide RO7) hown hgrow hwh; clear hown hgrow hwh)
          go_roundw
          case rel => exact ⟨k + 1, unhide B1, by go_num, S8⟩
          case measure => have := unhide B1; simp [intOf]; omega
        | some ad =>
          have HXK : Hid (X k = X k) := rfl
          have NEW : Hid (∀ j u, ((List.range (X k).h.len).map fun i => Value.int .i64 ((X k).h.Z i))[j]? = some u → ((wr.alloc (.cells #[.int .i64 (X k).s, .slice (some ad) (X k).h.len (X k).h.cap, .int .i64 (X k).r] 41)).alloc (.cells #[] 3)).cell? (ad.add j) = some u) := fun j u hu => by
            rw [List.getElem?_map] at hu
            by_cases hj : j < (X k).h.len
            · rw [List.getElem?_range hj] at hu
              simp at hu
              subst hu
              obtain ⟨b', o', e, hc⟩ := (rh.kp (unhide HI).2.1).at hj
              rw [hao] at e
              cases e
              rw [Go.WideShapes.add_plain]
              rw [hao] at ka
              exact ka.cell hc
            · rw [List.getElem?_eq_none (by simpa using hj)] at hu
              simp at hu
          rw [hao] at c1 bx0 ka om szz
          have OM := hide om
          have ST0 := hide (And.intro bx0 (And.intro ka szz))
          have h1 : (X k).h.len ≤ 100000 := hfk.1
          clear bx0 ka om szz hfk rh lb hs hao sz
          go_upto_region 8 with (at_builtin; refine wpList_append_own _ rfl _ _ 22 rfl (wr.heap.size + 1) 3 i0 (.int .i64 0) 1 8 Try.underlying22 hi hz0 hz1 hz2 rfl (by decide) _ _ _ rfl (unhide OM) ad (X k).h.len (X k).h.cap ((List.range (X k).h.len).map fun i => Value.int .i64 ((X k).h.Z i)) rfl (by simp) (unhide NEW) (cells_one _ _) (by unfold maxLen; omega) (by omega) (unhide ST0).2.2 ?_; intro v6 w6 hown6 hgrow6 _; obtain ⟨a6, p6, rfl, S6⟩ := roCopy (unhide OM) hown6 hgrow6 (unhide ST0).1 (unhide ST0).2.1; have q1 : w6.cell? ⟨wr.heap.size, 1, none⟩ = some (.slice (some ad) (X k).h.len (X k).h.cap) := (Blk.cell S6.1 1); have q4 := Blk.free S6.1; have HS6 := hide S6; clear hown6 hgrow6 S6)
          have KK6 := hide (unhide HS6).2.1
          have BX6 := hide (unhide HS6).2.2.1
          have RO6 := hide (unhide HS6).2.2.2
          clear OM NEW ST0 HS6 q1 q4 c0 c1 c2 y6 h1
          have BX7 : Hid (Blk wr.heap.size #[.int .i64 (X k).s, .slice a6 (X k).h.len p6, .int .i64 (X k).r] 41 (w6.setCell ⟨wr.heap.size, 1, none⟩ (.slice a6 (X k).h.len p6))) := unhide BX6
          have KK7 : Hid (Kp wr (w6.setCell ⟨wr.heap.size, 1, none⟩ (.slice a6 (X k).h.len p6))) := unhide KK6
          have RO7 : Hid ((X k).h.len ≤ p6 ∧ Row (w6.setCell ⟨wr.heap.size, 1, none⟩ (.slice a6 (X k).h.len p6)) a6 (X k).h.len (X k).h.Z ∧ ∀ U, U < wr.heap.size + 1 → Off U (X k).h.len a6) := unhide RO6
          clear BX6 KK6 RO6
          generalize (w6.setCell ⟨wr.heap.size, 1, none⟩ (.slice a6 (X k).h.len p6)) = w7 at *
          have q0 : w7.cell? ⟨wr.heap.size, 0, none⟩ = some (.int .i64 (X k).s) := Blk.cell (unhide BX7) 0
          have q1 : w7.cell? ⟨wr.heap.size, 1, none⟩ = some (.slice a6 (X k).h.len p6) := Blk.cell (unhide BX7) 1
          have q2 : w7.cell? ⟨wr.heap.size, 2, none⟩ = some (.int .i64 (X k).r) := Blk.cell (unhide BX7) 2
          obtain ⟨⟨l, hL⟩, hkp, hbl⟩ := unhide HI
          have hlen : l.length ≤ k := by rw [hL.2.1]; exact seenR_len X s k
          have HL := hide hL
          have HK := hide (And.intro hkp hbl)
          have OW : Hid ((w7.alloc (.cells (cpRV (X k) a6 p6).cells 41)).ownsRow (w.heap.size + 1) 41 3 u5 l.length (flatR l)) := (hL.kp ((unhide KK7).trans ((Kp.refl w7).alloc (cpRV (X k) a6 p6).cells 41))).1
          have NW := hide (news_rowS (w := w7.alloc (.cells (cpRV (X k) a6 p6).cells 41)) (x := cpRV (X k) a6 p6) (Blk.new w7 _ _))
          have B2 : Hid (l.length ≤ 1000000) := by show l.length ≤ 1000000; omega
          have B3 : Hid (w.heap.size + 1 ≤ (w7.alloc (.cells (cpRV (X k) a6 p6).cells 41)).heap.size) := by
            have h1 := Blk.lt hbl
            have h2 := (unhide KK7).2.2.2
            show _ ≤ _
            simp
            omega
          clear hL hkp hbl hlen HI BX7
          go_wp2_with (at_builtin; refine wpList_append_atR rfl _ _ rfl (w.heap.size + 1) _ _ _ rfl (unhide OW) ⟨w7.heap.size, 0, none⟩ 1 1 (cpRV (X k) a6 p6).cells.toList rfl rfl (unhide NW) (cells_oneRV _) ⟨by decide, by decide⟩ (unhide B2) (unhide B3) ?_; intro v' w8 hown hgrow hwh; have S8 : Hid (RoI w #[.int .i64 N, .slice aa al ac, .slice qa ql qc, .int .i64 tick, .int .i64 gate, .int .i64 rmin, .slice (some ⟨b, o, none⟩) rl rc] X s (k + 1) v' w8) := roStep (unhide HSK) (y := (X k)) (unhide HXK) (unhide HL) (unhide HK) (unhide KK7) (unhide RO7) hown hgrow hwh; clear hown hgrow hwh)
          go_roundw
          case rel => exact ⟨k + 1, unhide B1, by go_num, S8⟩
          case measure => have := unhide B1; simp [intOf]; omega
      · have ds : ((X k).s == s) = false := by simpa using hs
        have S8 : Hid (RoI w #[.int .i64 N, .slice aa al ac, .slice qa ql qc, .int .i64 tick, .int .i64 gate, .int .i64 rmin, .slice (some ⟨b, o, none⟩) rl rc] X s (k + 1) u5 wr) := by
          have es : seenR X s (k + 1) = seenR X s k := by
            show (if (X k).s = s then _ else _) = _
            rw [if_neg hs]
          obtain ⟨⟨l, h1⟩, h2⟩ := unhide HI
          exact ⟨⟨l, by rw [es]; exact h1⟩, h2⟩
        clear hs HI
        go_wp2
        go_roundw
        case rel => exact ⟨k + 1, unhide B1, by go_num, S8⟩
        case measure => have := unhide B1; simp [intOf]; omega
    · obtain rfl : k = rl := by omega
      obtain ⟨⟨l, hL⟩, hkp, _⟩ := unhide HI
      have RR : Hid (RowsP X s k w (.returned u5) wr) := ⟨u5, l, rfl, hL.mono (by omega), hkp⟩
      clear hL hkp HI
      go_wp2
      go_ret
      exact unhide RR

end Go.Proofs.Ytpanfppnkgokdaa

/- The document's Fits. -/
namespace Go.Proofs.Ytpanfppnkgokdaa
open Go.RowKit Go.Shelf Go.Proofs.Wd
set_option linter.unusedVariables false
set_option linter.unusedSimpArgs false
set_option maxRecDepth 10000

def sizeC (n xl pl : Nat) : Prop := xl = n ∧ pl = n * n
def spanC (ti pass fail : Int) : Prop := (0 ≤ ti ∧ ti ≤ 1099511627776) ∧ (0 ≤ pass ∧ pass ≤ 1099511627776) ∧ (0 ≤ fail ∧ fail ≤ 1099511627776)
def formC (n : Nat) (X P : Nat → Int) : Prop := ∀ i, i < n → (-9223372036854775807 ≤ X i ∧ 0 ≤ P (i * n + i)) ∧ ∀ k, k < n → -9223372036854775807 ≤ P (i * n + k) ∧ P (i * n + k) = P (k * n + i)
open Classical in
noncomputable def fitC (n xl pl : Nat) (ti pass fail : Int) (X P : Nat → Int) : Int := if sizeC n xl pl then (if spanC ti pass fail then (if formC n X P then 0 else 5) else 4) else 3
theorem fitC_3 {n xl pl : Nat} {ti pass fail : Int} {X P : Nat → Int} (h : ¬ sizeC n xl pl) : fitC n xl pl ti pass fail X P = 3 := if_neg h
theorem fitC_4 {n xl pl : Nat} {ti pass fail : Int} {X P : Nat → Int} (h : sizeC n xl pl) (h2 : ¬ spanC ti pass fail) : fitC n xl pl ti pass fail X P = 4 := by unfold fitC; rw [if_pos h, if_neg h2]
theorem fitC_5 {n xl pl : Nat} {ti pass fail : Int} {X P : Nat → Int} (h : sizeC n xl pl) (h2 : spanC ti pass fail) (h3 : ¬ formC n X P) : fitC n xl pl ti pass fail X P = 5 := by unfold fitC; rw [if_pos h, if_pos h2, if_neg h3]
theorem fitC_0 {n xl pl : Nat} {ti pass fail : Int} {X P : Nat → Int} (h : sizeC n xl pl) (h2 : spanC ti pass fail) (h3 : formC n X P) : fitC n xl pl ti pass fail X P = 0 := by unfold fitC; rw [if_pos h, if_pos h2, if_pos h3]

set_option maxRecDepth 50000 in
set_option maxHeartbeats 16000000 in
theorem refFits_n (n : Nat) (hn : 1 ≤ n ∧ n ≤ 6) (aa qa ro xa pa : Option Addr) (al ac ql qc rl rc xl xc pl pc : Nat) (tick gate rmin ti pass fail : Int) (flag : Bool) (A Q XZ PZ : Nat → Int) (X : Nat → RV) (w : World) (ha0 : Row w aa al A) (hq0 : Row w qa ql Q) (hr : RVs w ro rl X) (hh : ∀ i, i < rl → Row w (X i).h.ao (X i).h.len (X i).h.Z) (hok : okC n al ql rl A Q tick gate rmin X) (rx : Row w xa xl XZ) (rp : Row w pa pl PZ) :
    Calls Try.prog 18 #[.agg #[.int .i64 n, .slice aa al ac, .slice qa ql qc, .int .i64 tick, .int .i64 gate, .int .i64 rmin, .slice ro rl rc], .agg #[.int .i64 ti, .slice xa xl xc, .slice pa pl pc, .bool flag, .int .i64 pass, .int .i64 fail]] w fun e w' => e = .returned (.int .i64 (fitC n xl pl ti pass fail XZ PZ)) ∧ Grown w w' := by
  have CK : Hid (∀ W, Grown w W → Calls Try.prog 16 #[.agg #[.int .i64 n, .slice aa al ac, .slice qa ql qc, .int .i64 tick, .int .i64 gate, .int .i64 rmin, .slice ro rl rc]] W fun e w' => e = .returned (.int .i64 0) ∧ Grown W w') := fun W g => by
    have := refCheck_n n hn aa qa ro al ac ql qc rl rc tick gate rmin A Q X W (ha0.grown g) (hq0.grown g) (hr.grown g) (fun i hi => (hh i hi).grown g)
    rwa [chkC_yes hok] at this
  have G1 : Hid (Grown w ((w.alloc (.cells #[.int .i64 n, .slice aa al ac, .slice qa ql qc, .int .i64 tick, .int .i64 gate, .int .i64 rmin, .slice ro rl rc] 25)).alloc (.cells #[.int .i64 ti, .slice xa xl xc, .slice pa pl pc, .bool flag, .int .i64 pass, .int .i64 fail] 27)) ∧ Blk w.heap.size #[.int .i64 n, .slice aa al ac, .slice qa ql qc, .int .i64 tick, .int .i64 gate, .int .i64 rmin, .slice ro rl rc] 25 ((w.alloc (.cells #[.int .i64 n, .slice aa al ac, .slice qa ql qc, .int .i64 tick, .int .i64 gate, .int .i64 rmin, .slice ro rl rc] 25)).alloc (.cells #[.int .i64 ti, .slice xa xl xc, .slice pa pl pc, .bool flag, .int .i64 pass, .int .i64 fail] 27)) ∧ Blk (w.heap.size + 1) #[.int .i64 ti, .slice xa xl xc, .slice pa pl pc, .bool flag, .int .i64 pass, .int .i64 fail] 27 ((w.alloc (.cells #[.int .i64 n, .slice aa al ac, .slice qa ql qc, .int .i64 tick, .int .i64 gate, .int .i64 rmin, .slice ro rl rc] 25)).alloc (.cells #[.int .i64 ti, .slice xa xl xc, .slice pa pl pc, .bool flag, .int .i64 pass, .int .i64 fail] 27))) := ⟨((Grown.refl _).alloc _ _).alloc _ _, Blk.grown (Blk.new w _ _) ((Grown.refl _).alloc _ _), blk_new2 w _ _ _⟩
  have y0 : ((w.alloc (.cells #[.int .i64 n, .slice aa al ac, .slice qa ql qc, .int .i64 tick, .int .i64 gate, .int .i64 rmin, .slice ro rl rc] 25)).alloc (.cells #[.int .i64 ti, .slice xa xl xc, .slice pa pl pc, .bool flag, .int .i64 pass, .int .i64 fail] 27)).cell? ⟨w.heap.size, 0, none⟩ = some (.int .i64 n) := Blk.cell (unhide G1).2.1 0
  have y1 : ((w.alloc (.cells #[.int .i64 n, .slice aa al ac, .slice qa ql qc, .int .i64 tick, .int .i64 gate, .int .i64 rmin, .slice ro rl rc] 25)).alloc (.cells #[.int .i64 ti, .slice xa xl xc, .slice pa pl pc, .bool flag, .int .i64 pass, .int .i64 fail] 27)).cell? ⟨w.heap.size, 1, none⟩ = some (.slice aa al ac) := Blk.cell (unhide G1).2.1 1
  have y2 : ((w.alloc (.cells #[.int .i64 n, .slice aa al ac, .slice qa ql qc, .int .i64 tick, .int .i64 gate, .int .i64 rmin, .slice ro rl rc] 25)).alloc (.cells #[.int .i64 ti, .slice xa xl xc, .slice pa pl pc, .bool flag, .int .i64 pass, .int .i64 fail] 27)).cell? ⟨w.heap.size, 2, none⟩ = some (.slice qa ql qc) := Blk.cell (unhide G1).2.1 2
  have y3 : ((w.alloc (.cells #[.int .i64 n, .slice aa al ac, .slice qa ql qc, .int .i64 tick, .int .i64 gate, .int .i64 rmin, .slice ro rl rc] 25)).alloc (.cells #[.int .i64 ti, .slice xa xl xc, .slice pa pl pc, .bool flag, .int .i64 pass, .int .i64 fail] 27)).cell? ⟨w.heap.size, 3, none⟩ = some (.int .i64 tick) := Blk.cell (unhide G1).2.1 3
  have y4 : ((w.alloc (.cells #[.int .i64 n, .slice aa al ac, .slice qa ql qc, .int .i64 tick, .int .i64 gate, .int .i64 rmin, .slice ro rl rc] 25)).alloc (.cells #[.int .i64 ti, .slice xa xl xc, .slice pa pl pc, .bool flag, .int .i64 pass, .int .i64 fail] 27)).cell? ⟨w.heap.size, 4, none⟩ = some (.int .i64 gate) := Blk.cell (unhide G1).2.1 4
  have y5 : ((w.alloc (.cells #[.int .i64 n, .slice aa al ac, .slice qa ql qc, .int .i64 tick, .int .i64 gate, .int .i64 rmin, .slice ro rl rc] 25)).alloc (.cells #[.int .i64 ti, .slice xa xl xc, .slice pa pl pc, .bool flag, .int .i64 pass, .int .i64 fail] 27)).cell? ⟨w.heap.size, 5, none⟩ = some (.int .i64 rmin) := Blk.cell (unhide G1).2.1 5
  have y6 : ((w.alloc (.cells #[.int .i64 n, .slice aa al ac, .slice qa ql qc, .int .i64 tick, .int .i64 gate, .int .i64 rmin, .slice ro rl rc] 25)).alloc (.cells #[.int .i64 ti, .slice xa xl xc, .slice pa pl pc, .bool flag, .int .i64 pass, .int .i64 fail] 27)).cell? ⟨w.heap.size, 6, none⟩ = some (.slice ro rl rc) := Blk.cell (unhide G1).2.1 6
  have RR := hide (And.intro rx (And.intro rp hn))
  obtain ⟨nn, hnn⟩ : ∃ nn, n * n = nn := ⟨_, rfl⟩
  have n36 : nn ≤ 36 := by rw [← hnn]; exact Nat.mul_le_mul hn.2 hn.2
  have wn : wrap64 ((n : Int) * (n : Int)) = (nn : Int) := wrapP n n nn hnn (by omega)
  have HN := hide (And.intro hn (And.intro hnn n36))
  clear hn ha0 hq0 hr hh hok rx rp hnn n36
  by_cases h1 : (xl : Int) ≠ (n : Int)
  · have dh1 : ((xl : Int) != (n : Int)) = true := by simpa using h1
    have GE : Hid (fitC n xl pl ti pass fail XZ PZ = 3) := fitC_3 (fun h => h1 (by rw [h.1]))
    clear h1
    go_enter Try.func18, Try.ntmps18
    go_wp2_with fail
    generalize ((w.alloc (.cells #[.int .i64 n, .slice aa al ac, .slice qa ql qc, .int .i64 tick, .int .i64 gate, .int .i64 rmin, .slice ro rl rc] 25)).alloc (.cells #[.int .i64 ti, .slice xa xl xc, .slice pa pl pc, .bool flag, .int .i64 pass, .int .i64 fail] 27)) = w1 at *
    refine (unhide CK _ (unhide G1).1).mono ?_
    rintro e w2 ⟨rfl, g2⟩
    have G2 := hide (And.intro (gtrans (unhide G1).1 g2) (And.intro (Blk.grown (unhide G1).2.1 g2) (Blk.grown (unhide G1).2.2 g2)))
    clear g2 G1 CK y0 y1 y2 y3 y4 y5 y6
    have y0 : w2.cell? ⟨w.heap.size, 0, none⟩ = some (.int .i64 n) := Blk.cell (unhide G2).2.1 0
    have z0 : w2.cell? ⟨w.heap.size + 1, 0, none⟩ = some (.int .i64 ti) := Blk.cell (unhide G2).2.2 0
    have z1 : w2.cell? ⟨w.heap.size + 1, 1, none⟩ = some (.slice xa xl xc) := Blk.cell (unhide G2).2.2 1
    have z2 : w2.cell? ⟨w.heap.size + 1, 2, none⟩ = some (.slice pa pl pc) := Blk.cell (unhide G2).2.2 2
    have z3 : w2.cell? ⟨w.heap.size + 1, 3, none⟩ = some (.bool flag) := Blk.cell (unhide G2).2.2 3
    have z4 : w2.cell? ⟨w.heap.size + 1, 4, none⟩ = some (.int .i64 pass) := Blk.cell (unhide G2).2.2 4
    have z5 : w2.cell? ⟨w.heap.size + 1, 5, none⟩ = some (.int .i64 fail) := Blk.cell (unhide G2).2.2 5
    go_wp2
    go_ret
    exact ⟨by rw [unhide GE]; rfl, (unhide G2).1⟩
  · have dh1 : ((xl : Int) != (n : Int)) = false := by simpa using h1
    by_cases h2 : (pl : Int) ≠ (nn : Int)
    · have dh2 : ((pl : Int) != (nn : Int)) = true := by simpa using h2
      have GE : Hid (fitC n xl pl ti pass fail XZ PZ = 3) := fitC_3 (fun h => h2 (by rw [h.2, (unhide HN).2.1]))
      clear h2
      go_enter Try.func18, Try.ntmps18
      go_wp2_with fail
      generalize ((w.alloc (.cells #[.int .i64 n, .slice aa al ac, .slice qa ql qc, .int .i64 tick, .int .i64 gate, .int .i64 rmin, .slice ro rl rc] 25)).alloc (.cells #[.int .i64 ti, .slice xa xl xc, .slice pa pl pc, .bool flag, .int .i64 pass, .int .i64 fail] 27)) = w1 at *
      refine (unhide CK _ (unhide G1).1).mono ?_
      rintro e w2 ⟨rfl, g2⟩
      have G2 := hide (And.intro (gtrans (unhide G1).1 g2) (And.intro (Blk.grown (unhide G1).2.1 g2) (Blk.grown (unhide G1).2.2 g2)))
      clear g2 G1 CK y0 y1 y2 y3 y4 y5 y6
      have y0 : w2.cell? ⟨w.heap.size, 0, none⟩ = some (.int .i64 n) := Blk.cell (unhide G2).2.1 0
      have z0 : w2.cell? ⟨w.heap.size + 1, 0, none⟩ = some (.int .i64 ti) := Blk.cell (unhide G2).2.2 0
      have z1 : w2.cell? ⟨w.heap.size + 1, 1, none⟩ = some (.slice xa xl xc) := Blk.cell (unhide G2).2.2 1
      have z2 : w2.cell? ⟨w.heap.size + 1, 2, none⟩ = some (.slice pa pl pc) := Blk.cell (unhide G2).2.2 2
      have z3 : w2.cell? ⟨w.heap.size + 1, 3, none⟩ = some (.bool flag) := Blk.cell (unhide G2).2.2 3
      have z4 : w2.cell? ⟨w.heap.size + 1, 4, none⟩ = some (.int .i64 pass) := Blk.cell (unhide G2).2.2 4
      have z5 : w2.cell? ⟨w.heap.size + 1, 5, none⟩ = some (.int .i64 fail) := Blk.cell (unhide G2).2.2 5
      go_wp2
      go_ret
      exact ⟨by rw [unhide GE]; rfl, (unhide G2).1⟩
    · have dh2 : ((pl : Int) != (nn : Int)) = false := by simpa using h2
      have SZ : Hid (sizeC n xl pl) := ⟨by omega, by have := (unhide HN).2.1; omega⟩
      clear h1 h2
      by_cases h3 : ti < 0
      · have dh3 : decide (ti < 0) = true := decide_eq_true h3
        have GE : Hid (fitC n xl pl ti pass fail XZ PZ = 4) := fitC_4 (unhide SZ) (fun h => by have := h.1.1; omega)
        clear h3
        go_enter Try.func18, Try.ntmps18
        go_wp2_with fail
        generalize ((w.alloc (.cells #[.int .i64 n, .slice aa al ac, .slice qa ql qc, .int .i64 tick, .int .i64 gate, .int .i64 rmin, .slice ro rl rc] 25)).alloc (.cells #[.int .i64 ti, .slice xa xl xc, .slice pa pl pc, .bool flag, .int .i64 pass, .int .i64 fail] 27)) = w1 at *
        refine (unhide CK _ (unhide G1).1).mono ?_
        rintro e w2 ⟨rfl, g2⟩
        have G2 := hide (And.intro (gtrans (unhide G1).1 g2) (And.intro (Blk.grown (unhide G1).2.1 g2) (Blk.grown (unhide G1).2.2 g2)))
        clear g2 G1 CK y0 y1 y2 y3 y4 y5 y6
        have y0 : w2.cell? ⟨w.heap.size, 0, none⟩ = some (.int .i64 n) := Blk.cell (unhide G2).2.1 0
        have z0 : w2.cell? ⟨w.heap.size + 1, 0, none⟩ = some (.int .i64 ti) := Blk.cell (unhide G2).2.2 0
        have z1 : w2.cell? ⟨w.heap.size + 1, 1, none⟩ = some (.slice xa xl xc) := Blk.cell (unhide G2).2.2 1
        have z2 : w2.cell? ⟨w.heap.size + 1, 2, none⟩ = some (.slice pa pl pc) := Blk.cell (unhide G2).2.2 2
        have z3 : w2.cell? ⟨w.heap.size + 1, 3, none⟩ = some (.bool flag) := Blk.cell (unhide G2).2.2 3
        have z4 : w2.cell? ⟨w.heap.size + 1, 4, none⟩ = some (.int .i64 pass) := Blk.cell (unhide G2).2.2 4
        have z5 : w2.cell? ⟨w.heap.size + 1, 5, none⟩ = some (.int .i64 fail) := Blk.cell (unhide G2).2.2 5
        go_wp2
        go_ret
        exact ⟨by rw [unhide GE]; rfl, (unhide G2).1⟩
      · have dh3 : decide (ti < 0) = false := decide_eq_false h3
        by_cases h4 : 1099511627776 < ti
        · have dh4 : decide (1099511627776 < ti) = true := decide_eq_true h4
          have GE : Hid (fitC n xl pl ti pass fail XZ PZ = 4) := fitC_4 (unhide SZ) (fun h => by have := h.1.2; omega)
          clear h4
          go_enter Try.func18, Try.ntmps18
          go_wp2_with fail
          generalize ((w.alloc (.cells #[.int .i64 n, .slice aa al ac, .slice qa ql qc, .int .i64 tick, .int .i64 gate, .int .i64 rmin, .slice ro rl rc] 25)).alloc (.cells #[.int .i64 ti, .slice xa xl xc, .slice pa pl pc, .bool flag, .int .i64 pass, .int .i64 fail] 27)) = w1 at *
          refine (unhide CK _ (unhide G1).1).mono ?_
          rintro e w2 ⟨rfl, g2⟩
          have G2 := hide (And.intro (gtrans (unhide G1).1 g2) (And.intro (Blk.grown (unhide G1).2.1 g2) (Blk.grown (unhide G1).2.2 g2)))
          clear g2 G1 CK y0 y1 y2 y3 y4 y5 y6
          have y0 : w2.cell? ⟨w.heap.size, 0, none⟩ = some (.int .i64 n) := Blk.cell (unhide G2).2.1 0
          have z0 : w2.cell? ⟨w.heap.size + 1, 0, none⟩ = some (.int .i64 ti) := Blk.cell (unhide G2).2.2 0
          have z1 : w2.cell? ⟨w.heap.size + 1, 1, none⟩ = some (.slice xa xl xc) := Blk.cell (unhide G2).2.2 1
          have z2 : w2.cell? ⟨w.heap.size + 1, 2, none⟩ = some (.slice pa pl pc) := Blk.cell (unhide G2).2.2 2
          have z3 : w2.cell? ⟨w.heap.size + 1, 3, none⟩ = some (.bool flag) := Blk.cell (unhide G2).2.2 3
          have z4 : w2.cell? ⟨w.heap.size + 1, 4, none⟩ = some (.int .i64 pass) := Blk.cell (unhide G2).2.2 4
          have z5 : w2.cell? ⟨w.heap.size + 1, 5, none⟩ = some (.int .i64 fail) := Blk.cell (unhide G2).2.2 5
          go_wp2
          go_ret
          exact ⟨by rw [unhide GE]; rfl, (unhide G2).1⟩
        · have dh4 : decide (1099511627776 < ti) = false := decide_eq_false h4
          by_cases h5 : pass < 0
          · have dh5 : decide (pass < 0) = true := decide_eq_true h5
            have GE : Hid (fitC n xl pl ti pass fail XZ PZ = 4) := fitC_4 (unhide SZ) (fun h => by have := h.2.1.1; omega)
            clear h5
            go_enter Try.func18, Try.ntmps18
            go_wp2_with fail
            generalize ((w.alloc (.cells #[.int .i64 n, .slice aa al ac, .slice qa ql qc, .int .i64 tick, .int .i64 gate, .int .i64 rmin, .slice ro rl rc] 25)).alloc (.cells #[.int .i64 ti, .slice xa xl xc, .slice pa pl pc, .bool flag, .int .i64 pass, .int .i64 fail] 27)) = w1 at *
            refine (unhide CK _ (unhide G1).1).mono ?_
            rintro e w2 ⟨rfl, g2⟩
            have G2 := hide (And.intro (gtrans (unhide G1).1 g2) (And.intro (Blk.grown (unhide G1).2.1 g2) (Blk.grown (unhide G1).2.2 g2)))
            clear g2 G1 CK y0 y1 y2 y3 y4 y5 y6
            have y0 : w2.cell? ⟨w.heap.size, 0, none⟩ = some (.int .i64 n) := Blk.cell (unhide G2).2.1 0
            have z0 : w2.cell? ⟨w.heap.size + 1, 0, none⟩ = some (.int .i64 ti) := Blk.cell (unhide G2).2.2 0
            have z1 : w2.cell? ⟨w.heap.size + 1, 1, none⟩ = some (.slice xa xl xc) := Blk.cell (unhide G2).2.2 1
            have z2 : w2.cell? ⟨w.heap.size + 1, 2, none⟩ = some (.slice pa pl pc) := Blk.cell (unhide G2).2.2 2
            have z3 : w2.cell? ⟨w.heap.size + 1, 3, none⟩ = some (.bool flag) := Blk.cell (unhide G2).2.2 3
            have z4 : w2.cell? ⟨w.heap.size + 1, 4, none⟩ = some (.int .i64 pass) := Blk.cell (unhide G2).2.2 4
            have z5 : w2.cell? ⟨w.heap.size + 1, 5, none⟩ = some (.int .i64 fail) := Blk.cell (unhide G2).2.2 5
            go_wp2
            go_ret
            exact ⟨by rw [unhide GE]; rfl, (unhide G2).1⟩
          · have dh5 : decide (pass < 0) = false := decide_eq_false h5
            by_cases h6 : 1099511627776 < pass
            · have dh6 : decide (1099511627776 < pass) = true := decide_eq_true h6
              have GE : Hid (fitC n xl pl ti pass fail XZ PZ = 4) := fitC_4 (unhide SZ) (fun h => by have := h.2.1.2; omega)
              clear h6
              go_enter Try.func18, Try.ntmps18
              go_wp2_with fail
              generalize ((w.alloc (.cells #[.int .i64 n, .slice aa al ac, .slice qa ql qc, .int .i64 tick, .int .i64 gate, .int .i64 rmin, .slice ro rl rc] 25)).alloc (.cells #[.int .i64 ti, .slice xa xl xc, .slice pa pl pc, .bool flag, .int .i64 pass, .int .i64 fail] 27)) = w1 at *
              refine (unhide CK _ (unhide G1).1).mono ?_
              rintro e w2 ⟨rfl, g2⟩
              have G2 := hide (And.intro (gtrans (unhide G1).1 g2) (And.intro (Blk.grown (unhide G1).2.1 g2) (Blk.grown (unhide G1).2.2 g2)))
              clear g2 G1 CK y0 y1 y2 y3 y4 y5 y6
              have y0 : w2.cell? ⟨w.heap.size, 0, none⟩ = some (.int .i64 n) := Blk.cell (unhide G2).2.1 0
              have z0 : w2.cell? ⟨w.heap.size + 1, 0, none⟩ = some (.int .i64 ti) := Blk.cell (unhide G2).2.2 0
              have z1 : w2.cell? ⟨w.heap.size + 1, 1, none⟩ = some (.slice xa xl xc) := Blk.cell (unhide G2).2.2 1
              have z2 : w2.cell? ⟨w.heap.size + 1, 2, none⟩ = some (.slice pa pl pc) := Blk.cell (unhide G2).2.2 2
              have z3 : w2.cell? ⟨w.heap.size + 1, 3, none⟩ = some (.bool flag) := Blk.cell (unhide G2).2.2 3
              have z4 : w2.cell? ⟨w.heap.size + 1, 4, none⟩ = some (.int .i64 pass) := Blk.cell (unhide G2).2.2 4
              have z5 : w2.cell? ⟨w.heap.size + 1, 5, none⟩ = some (.int .i64 fail) := Blk.cell (unhide G2).2.2 5
              go_wp2
              go_ret
              exact ⟨by rw [unhide GE]; rfl, (unhide G2).1⟩
            · have dh6 : decide (1099511627776 < pass) = false := decide_eq_false h6
              by_cases h7 : fail < 0
              · have dh7 : decide (fail < 0) = true := decide_eq_true h7
                have GE : Hid (fitC n xl pl ti pass fail XZ PZ = 4) := fitC_4 (unhide SZ) (fun h => by have := h.2.2.1; omega)
                clear h7
                go_enter Try.func18, Try.ntmps18
                go_wp2_with fail
                generalize ((w.alloc (.cells #[.int .i64 n, .slice aa al ac, .slice qa ql qc, .int .i64 tick, .int .i64 gate, .int .i64 rmin, .slice ro rl rc] 25)).alloc (.cells #[.int .i64 ti, .slice xa xl xc, .slice pa pl pc, .bool flag, .int .i64 pass, .int .i64 fail] 27)) = w1 at *
                refine (unhide CK _ (unhide G1).1).mono ?_
                rintro e w2 ⟨rfl, g2⟩
                have G2 := hide (And.intro (gtrans (unhide G1).1 g2) (And.intro (Blk.grown (unhide G1).2.1 g2) (Blk.grown (unhide G1).2.2 g2)))
                clear g2 G1 CK y0 y1 y2 y3 y4 y5 y6
                have y0 : w2.cell? ⟨w.heap.size, 0, none⟩ = some (.int .i64 n) := Blk.cell (unhide G2).2.1 0
                have z0 : w2.cell? ⟨w.heap.size + 1, 0, none⟩ = some (.int .i64 ti) := Blk.cell (unhide G2).2.2 0
                have z1 : w2.cell? ⟨w.heap.size + 1, 1, none⟩ = some (.slice xa xl xc) := Blk.cell (unhide G2).2.2 1
                have z2 : w2.cell? ⟨w.heap.size + 1, 2, none⟩ = some (.slice pa pl pc) := Blk.cell (unhide G2).2.2 2
                have z3 : w2.cell? ⟨w.heap.size + 1, 3, none⟩ = some (.bool flag) := Blk.cell (unhide G2).2.2 3
                have z4 : w2.cell? ⟨w.heap.size + 1, 4, none⟩ = some (.int .i64 pass) := Blk.cell (unhide G2).2.2 4
                have z5 : w2.cell? ⟨w.heap.size + 1, 5, none⟩ = some (.int .i64 fail) := Blk.cell (unhide G2).2.2 5
                go_wp2
                go_ret
                exact ⟨by rw [unhide GE]; rfl, (unhide G2).1⟩
              · have dh7 : decide (fail < 0) = false := decide_eq_false h7
                by_cases h8 : 1099511627776 < fail
                · have dh8 : decide (1099511627776 < fail) = true := decide_eq_true h8
                  have GE : Hid (fitC n xl pl ti pass fail XZ PZ = 4) := fitC_4 (unhide SZ) (fun h => by have := h.2.2.2; omega)
                  clear h8
                  go_enter Try.func18, Try.ntmps18
                  go_wp2_with fail
                  generalize ((w.alloc (.cells #[.int .i64 n, .slice aa al ac, .slice qa ql qc, .int .i64 tick, .int .i64 gate, .int .i64 rmin, .slice ro rl rc] 25)).alloc (.cells #[.int .i64 ti, .slice xa xl xc, .slice pa pl pc, .bool flag, .int .i64 pass, .int .i64 fail] 27)) = w1 at *
                  refine (unhide CK _ (unhide G1).1).mono ?_
                  rintro e w2 ⟨rfl, g2⟩
                  have G2 := hide (And.intro (gtrans (unhide G1).1 g2) (And.intro (Blk.grown (unhide G1).2.1 g2) (Blk.grown (unhide G1).2.2 g2)))
                  clear g2 G1 CK y0 y1 y2 y3 y4 y5 y6
                  have y0 : w2.cell? ⟨w.heap.size, 0, none⟩ = some (.int .i64 n) := Blk.cell (unhide G2).2.1 0
                  have z0 : w2.cell? ⟨w.heap.size + 1, 0, none⟩ = some (.int .i64 ti) := Blk.cell (unhide G2).2.2 0
                  have z1 : w2.cell? ⟨w.heap.size + 1, 1, none⟩ = some (.slice xa xl xc) := Blk.cell (unhide G2).2.2 1
                  have z2 : w2.cell? ⟨w.heap.size + 1, 2, none⟩ = some (.slice pa pl pc) := Blk.cell (unhide G2).2.2 2
                  have z3 : w2.cell? ⟨w.heap.size + 1, 3, none⟩ = some (.bool flag) := Blk.cell (unhide G2).2.2 3
                  have z4 : w2.cell? ⟨w.heap.size + 1, 4, none⟩ = some (.int .i64 pass) := Blk.cell (unhide G2).2.2 4
                  have z5 : w2.cell? ⟨w.heap.size + 1, 5, none⟩ = some (.int .i64 fail) := Blk.cell (unhide G2).2.2 5
                  go_wp2
                  go_ret
                  exact ⟨by rw [unhide GE]; rfl, (unhide G2).1⟩
                · have dh8 : decide (1099511627776 < fail) = false := decide_eq_false h8
                  have SPN : Hid (spanC ti pass fail) := ⟨⟨by omega, by omega⟩, ⟨by omega, by omega⟩, by omega, by omega⟩
                  clear h3 h4 h5 h6 h7 h8
                  go_enter Try.func18, Try.ntmps18
                  go_wp2_with fail
                  generalize ((w.alloc (.cells #[.int .i64 n, .slice aa al ac, .slice qa ql qc, .int .i64 tick, .int .i64 gate, .int .i64 rmin, .slice ro rl rc] 25)).alloc (.cells #[.int .i64 ti, .slice xa xl xc, .slice pa pl pc, .bool flag, .int .i64 pass, .int .i64 fail] 27)) = w1 at *
                  refine (unhide CK _ (unhide G1).1).mono ?_
                  rintro e w2 ⟨rfl, g2⟩
                  have G2 := hide (And.intro (gtrans (unhide G1).1 g2) (And.intro (Blk.grown (unhide G1).2.1 g2) (Blk.grown (unhide G1).2.2 g2)))
                  clear g2 G1 CK y0 y1 y2 y3 y4 y5 y6
                  have y0 : w2.cell? ⟨w.heap.size, 0, none⟩ = some (.int .i64 n) := Blk.cell (unhide G2).2.1 0
                  have z0 : w2.cell? ⟨w.heap.size + 1, 0, none⟩ = some (.int .i64 ti) := Blk.cell (unhide G2).2.2 0
                  have z1 : w2.cell? ⟨w.heap.size + 1, 1, none⟩ = some (.slice xa xl xc) := Blk.cell (unhide G2).2.2 1
                  have z2 : w2.cell? ⟨w.heap.size + 1, 2, none⟩ = some (.slice pa pl pc) := Blk.cell (unhide G2).2.2 2
                  have z3 : w2.cell? ⟨w.heap.size + 1, 3, none⟩ = some (.bool flag) := Blk.cell (unhide G2).2.2 3
                  have z4 : w2.cell? ⟨w.heap.size + 1, 4, none⟩ = some (.int .i64 pass) := Blk.cell (unhide G2).2.2 4
                  have z5 : w2.cell? ⟨w.heap.size + 1, 5, none⟩ = some (.int .i64 fail) := Blk.cell (unhide G2).2.2 5
                  go_wp2_with fail
                  clear dh1 dh2 dh3 dh4 dh5 dh6 dh7 dh8 z0 z1 z2 z3 z4 z5 y0
                  have GS := G2
                  clear G2
                  go_loopw [5] (fun i wr => ∃ k : Nat, k ≤ n ∧ i = .int .i64 k ∧ Hid (∀ j, j < k → (-9223372036854775807 ≤ XZ j ∧ 0 ≤ PZ (j * n + j)) ∧ ∀ q, q < n → -9223372036854775807 ≤ PZ (j * n + q) ∧ PZ (j * n + q) = PZ (q * n + j)) ∧ Hid (Grown w wr ∧ Blk w.heap.size #[.int .i64 n, .slice aa al ac, .slice qa ql qc, .int .i64 tick, .int .i64 gate, .int .i64 rmin, .slice ro rl rc] 25 wr ∧ Blk (w.heap.size + 1) #[.int .i64 ti, .slice xa xl xc, .slice pa pl pc, .bool flag, .int .i64 pass, .int .i64 fail] 27 wr)) (fun i _ => n - (intOf i).toNat)
                  case atStart => exact ⟨0, Nat.zero_le _, rfl, fun j hj => absurd hj (Nat.not_lt_zero _), unhide GS⟩
                  case round =>
                    obtain ⟨i, hi, rfl, HI, G2⟩ := hrel
                    clear GS
                    have y0 : wr.cell? ⟨w.heap.size, 0, none⟩ = some (.int .i64 n) := Blk.cell (unhide G2).2.1 0
                    have z1 : wr.cell? ⟨w.heap.size + 1, 1, none⟩ = some (.slice xa xl xc) := Blk.cell (unhide G2).2.2 1
                    have z2 : wr.cell? ⟨w.heap.size + 1, 2, none⟩ = some (.slice pa pl pc) := Blk.cell (unhide G2).2.2 2
                    have n6 := (unhide HN).1.2
                    by_cases hlt : i < n
                    · obtain ⟨bx, ox, rfl, cx⟩ := (((unhide RR).1.grown (unhide G2).1)).at (show i < xl by have := (unhide SZ).1; omega)
                      have i0 : (0 : Int) ≤ (i : Int) := Int.natCast_nonneg _
                      have i1 : (i : Int) < (xl : Int) := by have := (unhide SZ).1; omega
                      obtain ⟨p, hpe⟩ : ∃ p, i * n + i = p := ⟨_, rfl⟩
                      obtain ⟨qq, hqq⟩ : ∃ z, i * n = z := ⟨_, rfl⟩
                      have hp : p < pl := by have h3 := place_in i i n n hlt hlt; have := (unhide SZ).2; omega
                      obtain ⟨bp, op, rfl, cp⟩ := (((unhide RR).2.1.grown (unhide G2).1)).at hp
                      have EP : Hid (i * n + i = p) := hpe
                      have EQ : Hid (i * n = qq) := hqq
                      rw [hqq] at hpe
                      have n36 := (unhide HN).2.2
                      have hpp : p < nn := by have := (unhide SZ).2; have := (unhide HN).2.1; omega
                      have wa : wrap64 ((i : Int) * (n : Int)) = (qq : Int) := wrapP i n qq hqq (by omega)
                      have wb : wrap64 ((qq : Int) + (i : Int)) = (p : Int) := wrapA qq i p hpe (by omega)
                      have p0 : (0 : Int) ≤ (p : Int) := Int.natCast_nonneg _
                      have p1 : (p : Int) < (pl : Int) := Int.ofNat_lt.2 hp
                      obtain ⟨x, hxe⟩ : ∃ a, XZ i = a := ⟨_, rfl⟩
                      rw [hxe] at cx
                      obtain ⟨d, hde⟩ : ∃ a, PZ p = a := ⟨_, rfl⟩
                      rw [hde] at cp
                      have EX : Hid (XZ i = x ∧ PZ (i * n + i) = d) := ⟨hxe, by rw [unhide EP, hde]⟩
                      clear hpe hqq hp hpp hxe hde n36
                      by_cases hx : x < -9223372036854775807
                      · have dx : decide (x < -9223372036854775807) = true := decide_eq_true hx
                        have GE : Hid (fitC n xl pl ti pass fail XZ PZ = 5) := fitC_5 (unhide SZ) (unhide SPN) (fun h => by have h1 := (h i hlt).1.1; rw [(unhide EX).1] at h1; omega)
                        clear hx HI
                        go_wp2
                        go_ret
                        exact ⟨by rw [unhide GE]; rfl, (unhide G2).1⟩
                      · have dx : decide (x < -9223372036854775807) = false := decide_eq_false hx
                        by_cases hd : d < 0
                        · have dd : decide (d < 0) = true := decide_eq_true hd
                          have GE : Hid (fitC n xl pl ti pass fail XZ PZ = 5) := fitC_5 (unhide SZ) (unhide SPN) (fun h => by have h1 := (h i hlt).1.2; rw [(unhide EX).2] at h1; omega)
                          clear hx hd HI
                          go_wp2
                          go_ret
                          exact ⟨by rw [unhide GE]; rfl, (unhide G2).1⟩
                        · have dd : decide (d < 0) = false := decide_eq_false hd
                          have HXD : Hid (-9223372036854775807 ≤ XZ i ∧ 0 ≤ PZ (i * n + i)) := ⟨by rw [(unhide EX).1]; omega, by rw [(unhide EX).2]; omega⟩
                          clear hx hd EX
                          go_wp2_with fail
                          clear dx dd cx cp wa wb p0 p1 y0 z1 z2
                          have GS := G2
                          clear G2
                          go_loopw [6] (fun k wr => ∃ j : Nat, j ≤ n ∧ k = .int .i64 j ∧ Hid (∀ q, q < j → -9223372036854775807 ≤ PZ (i * n + q) ∧ PZ (i * n + q) = PZ (q * n + i)) ∧ Hid (Grown w wr ∧ Blk w.heap.size #[.int .i64 n, .slice aa al ac, .slice qa ql qc, .int .i64 tick, .int .i64 gate, .int .i64 rmin, .slice ro rl rc] 25 wr ∧ Blk (w.heap.size + 1) #[.int .i64 ti, .slice (some ⟨bx, ox, none⟩) xl xc, .slice (some ⟨bp, op, none⟩) pl pc, .bool flag, .int .i64 pass, .int .i64 fail] 27 wr)) (fun k _ => n - (intOf k).toNat)
                          case atStart => exact ⟨0, Nat.zero_le _, rfl, fun j hj => absurd hj (Nat.not_lt_zero _), unhide GS⟩
                          case round =>
                            obtain ⟨k, hk, rfl, HK, G2⟩ := hrel
                            clear GS
                            have y0 : wr.cell? ⟨w.heap.size, 0, none⟩ = some (.int .i64 n) := Blk.cell (unhide G2).2.1 0
                            have z1 : wr.cell? ⟨w.heap.size + 1, 1, none⟩ = some (.slice (some ⟨bx, ox, none⟩) xl xc) := Blk.cell (unhide G2).2.2 1
                            have z2 : wr.cell? ⟨w.heap.size + 1, 2, none⟩ = some (.slice (some ⟨bp, op, none⟩) pl pc) := Blk.cell (unhide G2).2.2 2
                            by_cases hkt : k < n
                            · obtain ⟨p1, hp1⟩ : ∃ p, i * n + k = p := ⟨_, rfl⟩
                              obtain ⟨p2, hp2⟩ : ∃ p, k * n + i = p := ⟨_, rfl⟩
                              obtain ⟨q2, hq2⟩ : ∃ z, k * n = z := ⟨_, rfl⟩
                              have lt1 : p1 < nn := by have h3 := place_in i k n n hlt hkt; have := (unhide HN).2.1; omega
                              have lt2 : p2 < nn := by have h3 := place_in k i n n hkt hlt; have := (unhide HN).2.1; omega
                              have hsz := (unhide SZ).2
                              have hnn := (unhide HN).2.1
                              have a1 := (((unhide RR).2.1.grown (unhide G2).1)).at (show p1 < pl by omega)
                              have a2 := (((unhide RR).2.1.grown (unhide G2).1)).at (show p2 < pl by omega)
                              obtain ⟨b1, o1, e1, c1⟩ := a1
                              cases e1
                              obtain ⟨b2, o2, e2, c2⟩ := a2
                              cases e2
                              have E12 : Hid (i * n + k = p1 ∧ k * n + i = p2) := ⟨hp1, hp2⟩
                              have n36 := (unhide HN).2.2
                              have hqq := unhide EQ
                              rw [hqq] at hp1
                              rw [hq2] at hp2
                              have wa : IntKind.i64.wrap ((i : Int) * (n : Int)) = (qq : Int) := wrapPi i n qq hqq (by omega)
                              have wb : IntKind.i64.wrap ((qq : Int) + (k : Int)) = (p1 : Int) := wrapAi qq k p1 hp1 (by omega)
                              have wc : IntKind.i64.wrap ((k : Int) * (n : Int)) = (q2 : Int) := wrapPi k n q2 hq2 (by omega)
                              have wd : IntKind.i64.wrap ((q2 : Int) + (i : Int)) = (p2 : Int) := wrapAi q2 i p2 hp2 (by omega)
                              have r0 : (0 : Int) ≤ (p1 : Int) := Int.natCast_nonneg _
                              have r1 : (p1 : Int) < (pl : Int) := by omega
                              have r2 : (0 : Int) ≤ (p2 : Int) := Int.natCast_nonneg _
                              have r3 : (p2 : Int) < (pl : Int) := by omega
                              obtain ⟨a, hae⟩ : ∃ a, PZ p1 = a := ⟨_, rfl⟩
                              obtain ⟨c, hce⟩ : ∃ a, PZ p2 = a := ⟨_, rfl⟩
                              rw [hae] at c1
                              rw [hce] at c2
                              have EA : Hid (PZ (i * n + k) = a ∧ PZ (k * n + i) = c) := ⟨by rw [(unhide E12).1, hae], by rw [(unhide E12).2, hce]⟩
                              have K6 : Hid (k + 1 ≤ n) := hkt
                              clear hp1 hp2 hq2 hqq lt1 lt2 hsz hnn n36 hae hce E12
                              by_cases ha : a < -9223372036854775807
                              · have da : decide (a < -9223372036854775807) = true := decide_eq_true ha
                                have GE : Hid (fitC n xl pl ti pass fail XZ PZ = 5) := fitC_5 (unhide SZ) (unhide SPN) (fun h => by have h1 := ((h i hlt).2 k hkt).1; rw [(unhide EA).1] at h1; omega)
                                clear ha HK EA HI
                                go_wp2_with fail
                                go_quiet (fail)
                                go_wp2
                                go_ret
                                exact ⟨by rw [unhide GE]; rfl, (unhide G2).1⟩
                              · have da : decide (a < -9223372036854775807) = false := decide_eq_false ha
                                by_cases hac : a = c
                                · have dc : (a != c) = false := by simpa using hac
                                  have HK2 : Hid (∀ q, q < k + 1 → -9223372036854775807 ≤ PZ (i * n + q) ∧ PZ (i * n + q) = PZ (q * n + i)) := fun q hq => by
                                    by_cases e : q = k
                                    · subst e
                                      rw [(unhide EA).1, (unhide EA).2]
                                      exact ⟨by omega, hac⟩
                                    · exact unhide HK q (by omega)
                                  clear ha hac HK EA
                                  go_wp2_with fail
                                  go_quiet (fail)
                                  go_wp2
                                  go_roundw
                                  case rel => exact ⟨k + 1, unhide K6, by go_num, HK2, unhide G2⟩
                                  case measure => have := unhide K6; simp [intOf]; omega
                                · have dc : (a != c) = true := by simpa using hac
                                  have GE : Hid (fitC n xl pl ti pass fail XZ PZ = 5) := fitC_5 (unhide SZ) (unhide SPN) (fun h => hac (by have h1 := ((h i hlt).2 k hkt).2; rw [(unhide EA).1, (unhide EA).2] at h1; exact h1))
                                  clear ha hac HK EA HI
                                  go_wp2_with fail
                                  go_quiet (fail)
                                  go_wp2
                                  go_ret
                                  exact ⟨by rw [unhide GE]; rfl, (unhide G2).1⟩
                            · obtain rfl : k = n := by omega
                              have HI2 : Hid (∀ j, j < i + 1 → (-9223372036854775807 ≤ XZ j ∧ 0 ≤ PZ (j * k + j)) ∧ ∀ q, q < k → -9223372036854775807 ≤ PZ (j * k + q) ∧ PZ (j * k + q) = PZ (q * k + j)) := fun j hj => by
                                by_cases e : j = i
                                · subst e
                                  exact ⟨unhide HXD, unhide HK⟩
                                · exact unhide HI j (by omega)
                              clear HI HK HXD
                              go_wp2
                              go_roundw
                              case rel => exact ⟨i + 1, hlt, by go_num, HI2, unhide G2⟩
                              case measure => simp [intOf]; omega
                    · obtain rfl : i = n := by omega
                      have GE : Hid (fitC i xl pl ti pass fail XZ PZ = 0) := fitC_0 (unhide SZ) (unhide SPN) (unhide HI)
                      clear HI
                      go_wp2
                      go_ret
                      exact ⟨by rw [unhide GE]; rfl, (unhide G2).1⟩

set_option maxRecDepth 20000 in
set_option maxHeartbeats 4000000 in
theorem refFits_no (N : Int) (aa qa ro xa pa : Option Addr) (al ac ql qc rl rc xl xc pl pc : Nat) (tick gate rmin ti pass fail : Int) (flag : Bool) (c : Int) (hc : c ≠ 0) (w : World) (hk : ∀ W, Grown w W → Calls Try.prog 16 #[.agg #[.int .i64 N, .slice aa al ac, .slice qa ql qc, .int .i64 tick, .int .i64 gate, .int .i64 rmin, .slice ro rl rc]] W fun e w' => e = .returned (.int .i64 c) ∧ Grown W w') :
    Calls Try.prog 18 #[.agg #[.int .i64 N, .slice aa al ac, .slice qa ql qc, .int .i64 tick, .int .i64 gate, .int .i64 rmin, .slice ro rl rc], .agg #[.int .i64 ti, .slice xa xl xc, .slice pa pl pc, .bool flag, .int .i64 pass, .int .i64 fail]] w fun e w' => e = .returned (.int .i64 2) ∧ Grown w w' := by
  have CK := hide hk
  have dc : (c != 0) = true := by simpa using hc
  have G1 : Hid (Grown w ((w.alloc (.cells #[.int .i64 N, .slice aa al ac, .slice qa ql qc, .int .i64 tick, .int .i64 gate, .int .i64 rmin, .slice ro rl rc] 25)).alloc (.cells #[.int .i64 ti, .slice xa xl xc, .slice pa pl pc, .bool flag, .int .i64 pass, .int .i64 fail] 27)) ∧ Blk w.heap.size #[.int .i64 N, .slice aa al ac, .slice qa ql qc, .int .i64 tick, .int .i64 gate, .int .i64 rmin, .slice ro rl rc] 25 ((w.alloc (.cells #[.int .i64 N, .slice aa al ac, .slice qa ql qc, .int .i64 tick, .int .i64 gate, .int .i64 rmin, .slice ro rl rc] 25)).alloc (.cells #[.int .i64 ti, .slice xa xl xc, .slice pa pl pc, .bool flag, .int .i64 pass, .int .i64 fail] 27))) := ⟨((Grown.refl _).alloc _ _).alloc _ _, Blk.grown (Blk.new w _ _) ((Grown.refl _).alloc _ _)⟩
  have y0 : ((w.alloc (.cells #[.int .i64 N, .slice aa al ac, .slice qa ql qc, .int .i64 tick, .int .i64 gate, .int .i64 rmin, .slice ro rl rc] 25)).alloc (.cells #[.int .i64 ti, .slice xa xl xc, .slice pa pl pc, .bool flag, .int .i64 pass, .int .i64 fail] 27)).cell? ⟨w.heap.size, 0, none⟩ = some (.int .i64 N) := Blk.cell (unhide G1).2 0
  have y1 : ((w.alloc (.cells #[.int .i64 N, .slice aa al ac, .slice qa ql qc, .int .i64 tick, .int .i64 gate, .int .i64 rmin, .slice ro rl rc] 25)).alloc (.cells #[.int .i64 ti, .slice xa xl xc, .slice pa pl pc, .bool flag, .int .i64 pass, .int .i64 fail] 27)).cell? ⟨w.heap.size, 1, none⟩ = some (.slice aa al ac) := Blk.cell (unhide G1).2 1
  have y2 : ((w.alloc (.cells #[.int .i64 N, .slice aa al ac, .slice qa ql qc, .int .i64 tick, .int .i64 gate, .int .i64 rmin, .slice ro rl rc] 25)).alloc (.cells #[.int .i64 ti, .slice xa xl xc, .slice pa pl pc, .bool flag, .int .i64 pass, .int .i64 fail] 27)).cell? ⟨w.heap.size, 2, none⟩ = some (.slice qa ql qc) := Blk.cell (unhide G1).2 2
  have y3 : ((w.alloc (.cells #[.int .i64 N, .slice aa al ac, .slice qa ql qc, .int .i64 tick, .int .i64 gate, .int .i64 rmin, .slice ro rl rc] 25)).alloc (.cells #[.int .i64 ti, .slice xa xl xc, .slice pa pl pc, .bool flag, .int .i64 pass, .int .i64 fail] 27)).cell? ⟨w.heap.size, 3, none⟩ = some (.int .i64 tick) := Blk.cell (unhide G1).2 3
  have y4 : ((w.alloc (.cells #[.int .i64 N, .slice aa al ac, .slice qa ql qc, .int .i64 tick, .int .i64 gate, .int .i64 rmin, .slice ro rl rc] 25)).alloc (.cells #[.int .i64 ti, .slice xa xl xc, .slice pa pl pc, .bool flag, .int .i64 pass, .int .i64 fail] 27)).cell? ⟨w.heap.size, 4, none⟩ = some (.int .i64 gate) := Blk.cell (unhide G1).2 4
  have y5 : ((w.alloc (.cells #[.int .i64 N, .slice aa al ac, .slice qa ql qc, .int .i64 tick, .int .i64 gate, .int .i64 rmin, .slice ro rl rc] 25)).alloc (.cells #[.int .i64 ti, .slice xa xl xc, .slice pa pl pc, .bool flag, .int .i64 pass, .int .i64 fail] 27)).cell? ⟨w.heap.size, 5, none⟩ = some (.int .i64 rmin) := Blk.cell (unhide G1).2 5
  have y6 : ((w.alloc (.cells #[.int .i64 N, .slice aa al ac, .slice qa ql qc, .int .i64 tick, .int .i64 gate, .int .i64 rmin, .slice ro rl rc] 25)).alloc (.cells #[.int .i64 ti, .slice xa xl xc, .slice pa pl pc, .bool flag, .int .i64 pass, .int .i64 fail] 27)).cell? ⟨w.heap.size, 6, none⟩ = some (.slice ro rl rc) := Blk.cell (unhide G1).2 6
  clear hk hc
  go_enter Try.func18, Try.ntmps18
  go_wp2_with fail
  generalize ((w.alloc (.cells #[.int .i64 N, .slice aa al ac, .slice qa ql qc, .int .i64 tick, .int .i64 gate, .int .i64 rmin, .slice ro rl rc] 25)).alloc (.cells #[.int .i64 ti, .slice xa xl xc, .slice pa pl pc, .bool flag, .int .i64 pass, .int .i64 fail] 27)) = w1 at *
  refine (unhide CK _ (unhide G1).1).mono ?_
  rintro e w2 ⟨rfl, g2⟩
  have G2 := hide (gtrans (unhide G1).1 g2)
  clear g2 G1 CK y0 y1 y2 y3 y4 y5 y6
  go_wp2
  go_ret
  exact ⟨rfl, unhide G2⟩
theorem refFits (m : DV) (b : BV) (w : World) (h : m.rows w) (hb : b.rows w) : Calls Try.prog 18 #[.agg m.cells, .agg b.cells] w fun e w' => e = .returned (.int .i64 (fitD m b)) ∧ Grown w w' := by
  by_cases hd : okD m
  · have hN := hd.1
    obtain ⟨n, hn⟩ : ∃ n : Nat, m.N = n := ⟨m.N.toNat, by omega⟩
    have hok : okC n m.A.len m.Q.len m.rl m.A.Z m.Q.Z m.tick m.gate m.rmin m.X := by rw [← hn]; exact hd
    have := refFits_n n (by omega) m.A.ao m.Q.ao m.ro b.x.ao b.p.ao m.A.len m.A.cap m.Q.len m.Q.cap m.rl m.rc b.x.len b.x.cap b.p.len b.p.cap m.tick m.gate m.rmin b.at' b.pass b.fail b.flag m.A.Z m.Q.Z b.x.Z b.p.Z m.X w h.1 h.2.1 h.2.2.1 h.2.2.2 hok hb.1 hb.2
    have e : fitC n b.x.len b.p.len b.at' b.pass b.fail b.x.Z b.p.Z = fitD m b := by
      unfold fitD fitC
      rw [if_pos hd]
      have e1 : sizeC n b.x.len b.p.len ↔ sizeB m b := by
        unfold sizeC sizeB
        rw [hn, ← Int.natCast_mul]
        omega
      have e2 : spanC b.at' b.pass b.fail ↔ spanB b := Iff.rfl
      have e3 : formC n b.x.Z b.p.Z ↔ formB m.N.toNat b.x.Z b.p.Z := by
        have : m.N.toNat = n := by omega
        rw [this]
        unfold formC formB
        refine ⟨fun h i hi => ⟨(h i hi).1.1, (h i hi).1.2, (h i hi).2⟩, fun h i hi => ⟨⟨(h i hi).1, (h i hi).2.1⟩, (h i hi).2.2⟩⟩
      by_cases s1 : sizeB m b
      · rw [if_pos s1, if_pos (e1.2 s1)]
        by_cases s2 : spanB b
        · rw [if_pos s2, if_pos (e2.2 s2)]
          by_cases s3 : formB m.N.toNat b.x.Z b.p.Z
          · rw [if_pos s3, if_pos (e3.2 s3)]
          · rw [if_neg s3, if_neg (fun k => s3 (e3.1 k))]
        · rw [if_neg s2, if_neg (fun k => s2 (e2.1 k))]
      · rw [if_neg s1, if_neg (fun k => s1 (e1.1 k))]
    rw [e, ← hn] at this
    exact this
  · have hc : chkD m = 2 := if_neg hd
    have e : fitD m b = 2 := if_neg hd
    rw [e]
    exact refFits_no m.N m.A.ao m.Q.ao m.ro b.x.ao b.p.ao m.A.len m.A.cap m.Q.len m.Q.cap m.rl m.rc b.x.len b.x.cap b.p.len b.p.cap m.tick m.gate m.rmin b.at' b.pass b.fail b.flag 2 (by decide) w (fun W g => by
      have := refCheck m W (h.kp (Kp.of g))
      rw [hc] at this
      exact this)

end Go.Proofs.Ytpanfppnkgokdaa

/- Lists as they are handed on: what the program may rely on. -/
namespace Go.Proofs.Ytpanfppnkgokdaa
open Go.RowKit Go.Shelf Go.Proofs.Wd
set_option linter.unusedVariables false
set_option linter.unusedSimpArgs false
set_option maxRecDepth 10000

def FitL (ao : Option Addr) (len cap : Nat) : Prop := len ≤ cap ∧ (ao = none → len = 0 ∧ cap = 0)
theorem owns_fit {w : World} {base n size : Nat} {t : TypeId} {ao : Option Addr} {m cap : Nat} {xs : List Value} (h : w.ownsRow base t size (.slice ao m cap) n xs) (hc : m ≤ cap) : FitL ao m cap := ⟨hc, fun e => by
  rcases h.2 with ⟨e2, _⟩ | ⟨g, cap', cur, e2, _⟩
  · injection e2 with e3 e4 e5
    exact ⟨e4, e5⟩
  · injection e2 with e3 e4 e5
    rw [e] at e3
    cases e3⟩
/-- A copy of a list of numbers. -/
def CopyN (n : Nat) (Z : Nat → Int) (w : World) (e : Ending) (w' : World) : Prop := ∃ ao cap, e = .returned (.slice ao n cap) ∧ FitL ao n cap ∧ Row w' ao n Z ∧ (∀ U, U < w.heap.size → Off U n ao) ∧ Kp w w'
set_option maxHeartbeats 1000000 in
theorem kitCopyN (ao : Option Addr) (n cap : Nat) (Z : Nat → Int) (hn : n ≤ 1000000) (h0 : ao = none → n = 0 ∧ cap = 0) (w : World) (hr : Row w ao n Z) :
    Calls Try.prog 27 #[.slice ao n cap] w fun e w' => CopyN n Z w e w' := by
  have HR := hide hr
  clear hr
  obtain ⟨i0, hi, hz0, hz1, hz2⟩ := info_parts Try.infoInt
  have OM := hide (World.ownsRow_made (base := w.heap.size) (e := 3) (size := 1) w #[] 0 (Nat.le_refl _) (by unfold maxLen; omega) (by simp))
  cases ao with
  | none =>
    obtain ⟨rfl, rfl⟩ := h0 rfl
    clear h0
    go_enter Try.func27, Try.ntmps27
    go_wp2_with (at_builtin; refine wpList_append_own_none rfl _ _ 22 rfl w.heap.size 3 i0 1 Try.underlying22 hi _ _ _ rfl (unhide OM) rfl ?_)
    go_ret
    exact (show CopyN _ _ _ _ _ from ⟨_, _, rfl, ⟨Nat.zero_le _, fun e => by cases e⟩, Or.inl rfl, fun U hU h => absurd h (Nat.lt_irrefl _), (Kp.refl _).alloc _ _⟩)
  | some a =>
    clear h0
    have NEW : ∀ j u, ((List.range n).map fun i => Value.int .i64 (Z i))[j]? = some u → (w.alloc (.cells #[] 3)).cell? (a.add j) = some u := by
      intro j u hu
      rw [List.getElem?_map] at hu
      by_cases hj : j < n
      · rw [List.getElem?_range hj] at hu
        simp at hu
        subst hu
        obtain ⟨b, o, e, hc⟩ := (unhide HR).at hj
        cases e
        rw [Go.WideShapes.add_plain]
        exact gat ((Grown.refl _).alloc _ _) hc
      · rw [List.getElem?_eq_none (by simpa using hj)] at hu
        simp at hu
    have NEWH := hide NEW
    clear NEW
    go_enter Try.func27, Try.ntmps27
    go_wp2_with (at_builtin; refine wpList_append_own _ rfl _ _ 22 rfl w.heap.size 3 i0 (.int .i64 0) 1 8 Try.underlying22 hi hz0 hz1 hz2 rfl (by decide) _ _ _ rfl (unhide OM) a n cap ((List.range n).map fun i => Value.int .i64 (Z i)) rfl (by simp) (unhide NEWH) (cells_one _ _) (by unfold maxLen; omega) (by omega) (by simp) ?_; intro v' w1 hown' hgrow _)
    rw [Nat.zero_add, List.nil_append] at hown'
    have ho2 := hown'
    obtain ⟨ao2, cap2, rfl, hc2, row2, off2⟩ := owns_rowC hown'
    have K1 : Hid (Kp w w1) := Kp.by ((Kp.refl _).alloc _ _) hgrow (fun k e => by have := ((unhide OM).lt k e).1; omega)
    have R1 := hide (And.intro (owns_fit ho2 hc2) (And.intro row2 off2))
    clear hown' hgrow row2 off2 hc2 ho2
    go_wp2
    go_ret
    exact (show CopyN _ _ _ _ _ from ⟨_, _, rfl, (unhide R1).1, (unhide R1).2.1, (unhide R1).2.2, unhide K1⟩)

/-- A list that is handed on. -/
def LV.good (x : LV) (W : World) : Prop := x.ok W ∧ FitL x.ao x.len x.cap ∧ ∀ i, i < x.len → I64 (x.Z i)
/-- A model that is handed on: as LongModel has it. -/
def DV.good (m : DV) (W : World) : Prop := m.A.good W ∧ m.Q.good W ∧ RVs W m.ro m.rl m.X ∧ (∀ i, i < m.rl → (m.X i).h.good W ∧ I64 (m.X i).s ∧ I64 (m.X i).r) ∧ FitL m.ro m.rl m.rc ∧ (I64 m.N ∧ I64 m.tick ∧ I64 m.gate ∧ I64 m.rmin) ∧ m.A.len ≤ 40 ∧ m.Q.len ≤ 12 ∧ m.rl ≤ 30 ∧ ∀ i, i < m.rl → (m.X i).h.len ≤ 12
def BV.good (b : BV) (W : World) : Prop := b.x.good W ∧ b.p.good W ∧ (I64 b.at' ∧ I64 b.pass ∧ I64 b.fail) ∧ b.x.len ≤ 13 ∧ b.p.len ≤ 40
theorem LV.good.kp {x : LV} {W W' : World} (h : x.good W) (k : Kp W W') : x.good W' := ⟨Row.kp h.1 k, h.2⟩
theorem DV.good.kp {m : DV} {W W' : World} (h : m.good W) (k : Kp W W') : m.good W' := ⟨h.1.kp k, h.2.1.kp k, h.2.2.1.kp k, fun i hi => ⟨(h.2.2.2.1 i hi).1.kp k, (h.2.2.2.1 i hi).2⟩, h.2.2.2.2⟩
theorem BV.good.kp {b : BV} {W W' : World} (h : b.good W) (k : Kp W W') : b.good W' := ⟨h.1.kp k, h.2.1.kp k, h.2.2⟩
theorem DV.good.rows {m : DV} {W : World} (h : m.good W) : m.rows W := ⟨h.1.1, h.2.1.1, h.2.2.1, fun i hi => (h.2.2.2.1 i hi).1.1⟩
theorem BV.good.rows {b : BV} {W : World} (h : b.good W) : b.rows W := ⟨h.1.1, h.2.1.1⟩

end Go.Proofs.Ytpanfppnkgokdaa

/- The law's helpers two and belief. -/
namespace Go.Proofs.Ytpanfppnkgokdaa
open Go.RowKit Go.Shelf Go.Proofs.Wd
set_option linter.unusedVariables false
set_option linter.unusedSimpArgs false
set_option maxRecDepth 10000

/-- A list that is written out. -/
def nth (l : List Int) (i : Nat) : Int := (l[i]?).getD 0
theorem row_of {w : World} {b : Nat} {l : List Int} {n : Nat} (h : Blk b (l.map (Value.int .i64)).toArray 3 w) (hn : l.length = n) : Row w (some ⟨b, 0, none⟩) n (nth l) := Or.inr ⟨b, 0, rfl, fun i hi => by
  rw [Nat.zero_add, Blk.cell h]
  have : l[i]? = some l[i] := List.getElem?_eq_getElem (by omega)
  simp [this, nth]⟩
/-- The chapter's model, wherever its lists lie; which numbers its rows have. -/
def twoX (h0 h1 h2 : LV) (i : Nat) : RV := if i = 0 then ⟨3, h0, 5⟩ else if i = 1 then ⟨3, h1, 5⟩ else ⟨7, h2, 1⟩
def lv (b n c : Nat) (l : List Int) : LV := ⟨some ⟨b, 0, none⟩, n, c, nth l⟩
def twoV (ba bq br b0 b1 b2 : Nat) : DV := ⟨2, lv ba 4 4 [0, 4294967296, 0, 0], lv bq 2 2 [0, 1], 4294967296, 38654705664, 1, some ⟨br, 0, none⟩, 3, 3, twoX (lv b0 2 2 [4294967296, 0]) (lv b1 2 2 [0, 4294967296]) (lv b2 2 2 [4294967296, 4294967296])⟩
def belV (bx bp : Nat) (p : Int) : BV := ⟨4, lv bx 2 2 [1, 2], lv bp 4 4 [3, 1, p, 3], false, 0, 0⟩
/-- What two tells: new memory, each list in a block of its own. -/
def TwoP (w : World) (e : Ending) (w' : World) : Prop := ∃ ba bq br b0 b1 b2, e = .returned (.agg (twoV ba bq br b0 b1 b2).cells) ∧ (twoV ba bq br b0 b1 b2).good w' ∧ (w.heap.size ≤ ba ∧ w.heap.size ≤ bq ∧ w.heap.size ≤ br ∧ w.heap.size ≤ b0 ∧ w.heap.size ≤ b1 ∧ w.heap.size ≤ b2) ∧ (Blk ba #[.int .i64 0, .int .i64 4294967296, .int .i64 0, .int .i64 0] 3 w' ∧ (Blk bq #[.int .i64 0, .int .i64 1] 3 w' ∧ Blk b0 #[.int .i64 4294967296, .int .i64 0] 3 w' ∧ Blk b1 #[.int .i64 0, .int .i64 4294967296] 3 w' ∧ Blk b2 #[.int .i64 4294967296, .int .i64 4294967296] 3 w') ∧ Blk br #[.int .i64 3, .slice (some ⟨b0, 0, none⟩) 2 2, .int .i64 5, .int .i64 3, .slice (some ⟨b1, 0, none⟩) 2 2, .int .i64 5, .int .i64 7, .slice (some ⟨b2, 0, none⟩) 2 2, .int .i64 1] 41 w') ∧ Kp w w'
def BelP (p : Int) (w : World) (e : Ending) (w' : World) : Prop := ∃ bx bp, e = .returned (.agg (belV bx bp p).cells) ∧ (belV bx bp p).good w' ∧ (w.heap.size ≤ bx ∧ w.heap.size ≤ bp) ∧ Kp w w'
theorem lv_good {w : World} {b n : Nat} {l : List Int} (h : Blk b (l.map (Value.int .i64)).toArray 3 w) (hn : l.length = n) (hi : ∀ x ∈ l, I64 x) : (lv b n n l).good w := ⟨row_of h hn, ⟨Nat.le_refl _, fun e => by cases e⟩, fun i hi' => by
  have hi' : i < l.length := by rw [hn]; exact hi'
  have h2 : l[i]? = some l[i] := List.getElem?_eq_getElem hi'
  show I64 ((l[i]?).getD 0)
  rw [h2]
  exact hi _ (List.getElem_mem _)⟩
theorem twoV_good {w : World} {ba bq br b0 b1 b2 : Nat} (ha : Blk ba #[.int .i64 0, .int .i64 4294967296, .int .i64 0, .int .i64 0] 3 w) (hq : Blk bq #[.int .i64 0, .int .i64 1] 3 w) (h0 : Blk b0 #[.int .i64 4294967296, .int .i64 0] 3 w) (h1 : Blk b1 #[.int .i64 0, .int .i64 4294967296] 3 w) (h2 : Blk b2 #[.int .i64 4294967296, .int .i64 4294967296] 3 w)
    (hr : Blk br #[.int .i64 3, .slice (some ⟨b0, 0, none⟩) 2 2, .int .i64 5, .int .i64 3, .slice (some ⟨b1, 0, none⟩) 2 2, .int .i64 5, .int .i64 7, .slice (some ⟨b2, 0, none⟩) 2 2, .int .i64 1] 41 w) : (twoV ba bq br b0 b1 b2).good w := by
  have i : ∀ {x : Int}, x = 0 ∨ x = 1 ∨ x = 4294967296 → I64 x := fun h => by unfold I64; omega
  refine ⟨lv_good (l := [0, 4294967296, 0, 0]) ha rfl (fun x hx => i (by simp at hx; omega)), lv_good (l := [0, 1]) hq rfl (fun x hx => i (by simp at hx; omega)), Or.inr ⟨br, 0, rfl, fun k hk j hj => ?_⟩, fun k hk => ?_, ⟨Nat.le_refl _, fun e => by cases e⟩, ⟨by show I64 2; unfold I64; omega, by show I64 4294967296; unfold I64; omega, by show I64 38654705664; unfold I64; omega, by show I64 1; unfold I64; omega⟩, by show 4 ≤ 40; omega, by show 2 ≤ 12; omega, by show 3 ≤ 30; omega, fun k hk => ?_⟩
  · rw [Nat.zero_add, Blk.cell hr]
    have hk : k < 3 := hk
    have : k = 0 ∨ k = 1 ∨ k = 2 := by omega
    have hj' : j = 0 ∨ j = 1 ∨ j = 2 := by omega
    rcases this with rfl | rfl | rfl <;> rcases hj' with rfl | rfl | rfl <;> rfl
  · have hk : k < 3 := hk
    have : k = 0 ∨ k = 1 ∨ k = 2 := by omega
    rcases this with rfl | rfl | rfl
    · exact ⟨lv_good (l := [4294967296, 0]) h0 rfl (fun x hx => i (by simp at hx; omega)), by show I64 3; unfold I64; omega, by show I64 5; unfold I64; omega⟩
    · exact ⟨lv_good (l := [0, 4294967296]) h1 rfl (fun x hx => i (by simp at hx; omega)), by show I64 3; unfold I64; omega, by show I64 5; unfold I64; omega⟩
    · exact ⟨lv_good (l := [4294967296, 4294967296]) h2 rfl (fun x hx => i (by simp at hx; omega)), by show I64 7; unfold I64; omega, by show I64 1; unfold I64; omega⟩
  · have hk : k < 3 := hk
    have : k = 0 ∨ k = 1 ∨ k = 2 := by omega
    rcases this with rfl | rfl | rfl <;> (show 2 ≤ 12; omega)
/-- It may be. -/
theorem twoMoves : okMoves 2 4 2 (nth [0, 4294967296, 0, 0]) (nth [0, 1]) := by
  refine ⟨rfl, rfl, fun i hi => ?_⟩
  have : i = 0 ∨ i = 1 := by omega
  rcases this with rfl | rfl
  · refine ⟨by decide, fun k hk => ?_⟩
    have : k = 0 ∨ k = 1 := by omega
    rcases this with rfl | rfl
    · exact ⟨by unfold farP; decide, fun _ => rfl⟩
    · exact ⟨by unfold farP; decide, fun h => absurd h (by decide)⟩
  · refine ⟨by decide, fun k hk => ?_⟩
    have : k = 0 ∨ k = 1 := by omega
    rcases this with rfl | rfl
    · exact ⟨by unfold farP; decide, fun _ => rfl⟩
    · exact ⟨by unfold farP; decide, fun _ => rfl⟩
theorem twoFar {x y : Int} (hx : farP x) (hy : farP y) : ∀ j, j < 2 → farP (nth [x, y] j) := fun j hj => by
  have : j = 0 ∨ j = 1 := by omega
  rcases this with rfl | rfl
  · exact hx
  · exact hy
theorem farOne : farP 4294967296 := by unfold farP; decide
theorem farNull : farP 0 := by unfold farP; decide
theorem twoV_okD (ba bq br b0 b1 b2 : Nat) : okD (twoV ba bq br b0 b1 b2) := by
  refine ⟨⟨by show (1 : Int) ≤ 2; omega, by show (2 : Int) ≤ 6; omega⟩, twoMoves, ⟨by show (1 : Int) ≤ 4294967296; omega, by show (4294967296 : Int) ≤ 4294967296; omega⟩, by show (1 : Int) ≤ 38654705664; omega, by show (1 : Int) ≤ 1; omega, by show 3 ≤ 24; omega, fun i hi => ?_⟩
  have hi : i < 3 := hi
  have : i = 0 ∨ i = 1 ∨ i = 2 := by omega
  rcases this with rfl | rfl | rfl
  · exact ⟨⟨by show (1 : Int) ≤ 3; omega, by show (3 : Int) ≤ 16; omega, by show (1 : Int) ≤ 3; omega⟩, rfl, by show (1 : Int) ≤ 5; omega, twoFar farOne farNull⟩
  · exact ⟨⟨by show (1 : Int) ≤ 3; omega, by show (3 : Int) ≤ 16; omega, by show (3 : Int) ≤ 3; omega⟩, rfl, by show (1 : Int) ≤ 5; omega, twoFar farNull farOne⟩
  · exact ⟨⟨by show (1 : Int) ≤ 7; omega, by show (7 : Int) ≤ 16; omega, by show (3 : Int) ≤ 7; omega⟩, rfl, by show (1 : Int) ≤ 1; omega, twoFar farOne farOne⟩
theorem twoV_ok (ba bq br b0 b1 b2 : Nat) : chkD (twoV ba bq br b0 b1 b2) = 0 := if_pos (twoV_okD ba bq br b0 b1 b2)
set_option maxRecDepth 20000 in
set_option maxHeartbeats 4000000 in
theorem lawTwo10 (w : World) : Calls Try.prog 24 #[] w fun e w' => TwoP w e w' := by
  have b0 := Blk.new w #[.int .i64 0, .slice none 0 0, .slice none 0 0, .int .i64 0, .int .i64 0, .int .i64 0, .slice none 0 0] 25
  have k0 : Kp w (w.alloc (.cells #[.int .i64 0, .slice none 0 0, .slice none 0 0, .int .i64 0, .int .i64 0, .int .i64 0, .slice none 0 0] 25)) := (Kp.refl _).alloc _ _
  have s0 : (w.alloc (.cells #[.int .i64 0, .slice none 0 0, .slice none 0 0, .int .i64 0, .int .i64 0, .int .i64 0, .slice none 0 0] 25)).heap.size = w.heap.size + 1 := by simp
  go_enter Try.func24, Try.ntmps24
  go_upto_region 1 with fail
  generalize w.alloc (.cells #[.int .i64 0, .slice none 0 0, .slice none 0 0, .int .i64 0, .int .i64 0, .int .i64 0, .slice none 0 0] 25) = w1 at *
  have H1 := hide (And.intro k0 (And.intro b0 s0))
  clear k0 b0 s0
  go_upto_region 2 with fail
  have e2 : ((w1.alloc (.cells #[.int .i64 4294967296, .int .i64 0] 3)).alloc (.cells #[.int .i64 0, .int .i64 4294967296] 3)).heap.size = w1.heap.size + 1 + 1 := by simp
  have e3 : (((w1.alloc (.cells #[.int .i64 4294967296, .int .i64 0] 3)).alloc (.cells #[.int .i64 0, .int .i64 4294967296] 3)).alloc (.cells #[.int .i64 4294967296, .int .i64 4294967296] 3)).heap.size = w1.heap.size + 1 + 1 + 1 := by simp
  have e4 : ((((w1.alloc (.cells #[.int .i64 4294967296, .int .i64 0] 3)).alloc (.cells #[.int .i64 0, .int .i64 4294967296] 3)).alloc (.cells #[.int .i64 4294967296, .int .i64 4294967296] 3)).alloc (.cells #[.int .i64 3, .slice (some ⟨w1.heap.size, 0, none⟩) 2 2, .int .i64 5, .int .i64 3, .slice (some ⟨w1.heap.size + 1, 0, none⟩) 2 2, .int .i64 5, .int .i64 7, .slice (some ⟨w1.heap.size + 1 + 1, 0, none⟩) 2 2, .int .i64 1] 41)).heap.size = w1.heap.size + 1 + 1 + 1 + 1 := by simp
  have x2 := Blk.new ((w1.alloc (.cells #[.int .i64 4294967296, .int .i64 0] 3)).alloc (.cells #[.int .i64 0, .int .i64 4294967296] 3)) #[.int .i64 4294967296, .int .i64 4294967296] 3
  have x3 := Blk.new (((w1.alloc (.cells #[.int .i64 4294967296, .int .i64 0] 3)).alloc (.cells #[.int .i64 0, .int .i64 4294967296] 3)).alloc (.cells #[.int .i64 4294967296, .int .i64 4294967296] 3)) #[.int .i64 3, .slice (some ⟨w1.heap.size, 0, none⟩) 2 2, .int .i64 5, .int .i64 3, .slice (some ⟨w1.heap.size + 1, 0, none⟩) 2 2, .int .i64 5, .int .i64 7, .slice (some ⟨w1.heap.size + 1 + 1, 0, none⟩) 2 2, .int .i64 1] 41
  rw [e2] at x2
  rw [e3] at x3
  have S4 : Hid (Kp w ((((w1.alloc (.cells #[.int .i64 4294967296, .int .i64 0] 3)).alloc (.cells #[.int .i64 0, .int .i64 4294967296] 3)).alloc (.cells #[.int .i64 4294967296, .int .i64 4294967296] 3)).alloc (.cells #[.int .i64 3, .slice (some ⟨w1.heap.size, 0, none⟩) 2 2, .int .i64 5, .int .i64 3, .slice (some ⟨w1.heap.size + 1, 0, none⟩) 2 2, .int .i64 5, .int .i64 7, .slice (some ⟨w1.heap.size + 1 + 1, 0, none⟩) 2 2, .int .i64 1] 41)) ∧ Blk w.heap.size #[.int .i64 0, .slice none 0 0, .slice none 0 0, .int .i64 0, .int .i64 0, .int .i64 0, .slice none 0 0] 25 ((((w1.alloc (.cells #[.int .i64 4294967296, .int .i64 0] 3)).alloc (.cells #[.int .i64 0, .int .i64 4294967296] 3)).alloc (.cells #[.int .i64 4294967296, .int .i64 4294967296] 3)).alloc (.cells #[.int .i64 3, .slice (some ⟨w1.heap.size, 0, none⟩) 2 2, .int .i64 5, .int .i64 3, .slice (some ⟨w1.heap.size + 1, 0, none⟩) 2 2, .int .i64 5, .int .i64 7, .slice (some ⟨w1.heap.size + 1 + 1, 0, none⟩) 2 2, .int .i64 1] 41)) ∧ Blk w1.heap.size #[.int .i64 4294967296, .int .i64 0] 3 ((((w1.alloc (.cells #[.int .i64 4294967296, .int .i64 0] 3)).alloc (.cells #[.int .i64 0, .int .i64 4294967296] 3)).alloc (.cells #[.int .i64 4294967296, .int .i64 4294967296] 3)).alloc (.cells #[.int .i64 3, .slice (some ⟨w1.heap.size, 0, none⟩) 2 2, .int .i64 5, .int .i64 3, .slice (some ⟨w1.heap.size + 1, 0, none⟩) 2 2, .int .i64 5, .int .i64 7, .slice (some ⟨w1.heap.size + 1 + 1, 0, none⟩) 2 2, .int .i64 1] 41)) ∧ Blk (w1.heap.size + 1) #[.int .i64 0, .int .i64 4294967296] 3 ((((w1.alloc (.cells #[.int .i64 4294967296, .int .i64 0] 3)).alloc (.cells #[.int .i64 0, .int .i64 4294967296] 3)).alloc (.cells #[.int .i64 4294967296, .int .i64 4294967296] 3)).alloc (.cells #[.int .i64 3, .slice (some ⟨w1.heap.size, 0, none⟩) 2 2, .int .i64 5, .int .i64 3, .slice (some ⟨w1.heap.size + 1, 0, none⟩) 2 2, .int .i64 5, .int .i64 7, .slice (some ⟨w1.heap.size + 1 + 1, 0, none⟩) 2 2, .int .i64 1] 41)) ∧ Blk (w1.heap.size + 1 + 1) #[.int .i64 4294967296, .int .i64 4294967296] 3 ((((w1.alloc (.cells #[.int .i64 4294967296, .int .i64 0] 3)).alloc (.cells #[.int .i64 0, .int .i64 4294967296] 3)).alloc (.cells #[.int .i64 4294967296, .int .i64 4294967296] 3)).alloc (.cells #[.int .i64 3, .slice (some ⟨w1.heap.size, 0, none⟩) 2 2, .int .i64 5, .int .i64 3, .slice (some ⟨w1.heap.size + 1, 0, none⟩) 2 2, .int .i64 5, .int .i64 7, .slice (some ⟨w1.heap.size + 1 + 1, 0, none⟩) 2 2, .int .i64 1] 41)) ∧ Blk (w1.heap.size + 1 + 1 + 1) #[.int .i64 3, .slice (some ⟨w1.heap.size, 0, none⟩) 2 2, .int .i64 5, .int .i64 3, .slice (some ⟨w1.heap.size + 1, 0, none⟩) 2 2, .int .i64 5, .int .i64 7, .slice (some ⟨w1.heap.size + 1 + 1, 0, none⟩) 2 2, .int .i64 1] 41 ((((w1.alloc (.cells #[.int .i64 4294967296, .int .i64 0] 3)).alloc (.cells #[.int .i64 0, .int .i64 4294967296] 3)).alloc (.cells #[.int .i64 4294967296, .int .i64 4294967296] 3)).alloc (.cells #[.int .i64 3, .slice (some ⟨w1.heap.size, 0, none⟩) 2 2, .int .i64 5, .int .i64 3, .slice (some ⟨w1.heap.size + 1, 0, none⟩) 2 2, .int .i64 5, .int .i64 7, .slice (some ⟨w1.heap.size + 1 + 1, 0, none⟩) 2 2, .int .i64 1] 41)) ∧ w1.heap.size = w.heap.size + 1 ∧ ((((w1.alloc (.cells #[.int .i64 4294967296, .int .i64 0] 3)).alloc (.cells #[.int .i64 0, .int .i64 4294967296] 3)).alloc (.cells #[.int .i64 4294967296, .int .i64 4294967296] 3)).alloc (.cells #[.int .i64 3, .slice (some ⟨w1.heap.size, 0, none⟩) 2 2, .int .i64 5, .int .i64 3, .slice (some ⟨w1.heap.size + 1, 0, none⟩) 2 2, .int .i64 5, .int .i64 7, .slice (some ⟨w1.heap.size + 1 + 1, 0, none⟩) 2 2, .int .i64 1] 41)).heap.size = w1.heap.size + 1 + 1 + 1 + 1) := ⟨((((unhide H1).1.alloc _ _).alloc _ _).alloc _ _).alloc _ _, Blk.grown (unhide H1).2.1 (((((Grown.refl _).alloc _ _).alloc _ _).alloc _ _).alloc _ _), Blk.grown (Blk.new w1 _ _) ((((Grown.refl _).alloc _ _).alloc _ _).alloc _ _), Blk.grown (blk_new2 w1 _ _ _) (((Grown.refl _).alloc _ _).alloc _ _), Blk.grown x2 ((Grown.refl _).alloc _ _), x3, (unhide H1).2.2, e4⟩
  clear e2 e3 e4 x2 x3 H1
  generalize hb3 : w1.heap.size + 1 + 1 + 1 = b3 at *
  generalize ((((w1.alloc (.cells #[.int .i64 4294967296, .int .i64 0] 3)).alloc (.cells #[.int .i64 0, .int .i64 4294967296] 3)).alloc (.cells #[.int .i64 4294967296, .int .i64 4294967296] 3)).alloc (.cells #[.int .i64 3, .slice (some ⟨w1.heap.size, 0, none⟩) 2 2, .int .i64 5, .int .i64 3, .slice (some ⟨w1.heap.size + 1, 0, none⟩) 2 2, .int .i64 5, .int .i64 7, .slice (some ⟨w1.heap.size + 1 + 1, 0, none⟩) 2 2, .int .i64 1] 41)) = w4 at *
  have HB3 := hide hb3
  clear hb3
  have y0 : w4.cell? ⟨w.heap.size, 0, none⟩ = some (.int .i64 0) := Blk.cell (unhide S4).2.1 0
  have y1 : w4.cell? ⟨w.heap.size, 1, none⟩ = some (.slice none 0 0) := Blk.cell (unhide S4).2.1 1
  have y2 : w4.cell? ⟨w.heap.size, 2, none⟩ = some (.slice none 0 0) := Blk.cell (unhide S4).2.1 2
  have y3 : w4.cell? ⟨w.heap.size, 3, none⟩ = some (.int .i64 0) := Blk.cell (unhide S4).2.1 3
  have y4 : w4.cell? ⟨w.heap.size, 4, none⟩ = some (.int .i64 0) := Blk.cell (unhide S4).2.1 4
  have y5 : w4.cell? ⟨w.heap.size, 5, none⟩ = some (.int .i64 0) := Blk.cell (unhide S4).2.1 5
  have y6 : w4.cell? ⟨w.heap.size, 6, none⟩ = some (.slice none 0 0) := Blk.cell (unhide S4).2.1 6
  have gy := heap_gt y0
  have f := Blk.free (unhide S4).2.1
  go_wp2
  obtain ⟨k4, bm, c0, c1, c2, c3, e5, e6⟩ := unhide S4
  have hb3 := unhide HB3
  have P0 : Blk w.heap.size #[.int .i64 2, .slice (some ⟨w4.heap.size, 0, none⟩) 4 4, .slice (some ⟨w4.heap.size + 1, 0, none⟩) 2 2, .int .i64 4294967296, .int .i64 38654705664, .int .i64 1, .slice (some ⟨b3, 0, none⟩) 3 3] 25 (((((((w4.setCell ⟨w.heap.size, 0, none⟩ (.int .i64 2)).setCell ⟨w.heap.size, 1, none⟩ (.slice (some ⟨w4.heap.size, 0, none⟩) 4 4)).setCell ⟨w.heap.size, 2, none⟩ (.slice (some ⟨w4.heap.size + 1, 0, none⟩) 2 2)).setCell ⟨w.heap.size, 3, none⟩ (.int .i64 4294967296)).setCell ⟨w.heap.size, 4, none⟩ (.int .i64 38654705664)).setCell ⟨w.heap.size, 5, none⟩ (.int .i64 1)).setCell ⟨w.heap.size, 6, none⟩ (.slice (some ⟨b3, 0, none⟩) 3 3)) := Blk.set (Blk.set (Blk.set (Blk.set (Blk.set (Blk.set (Blk.set bm 0 _) 1 _) 2 _) 3 _) 4 _) 5 _) 6 _
  have sm : Mod w.heap.size w4 (((((((w4.setCell ⟨w.heap.size, 0, none⟩ (.int .i64 2)).setCell ⟨w.heap.size, 1, none⟩ (.slice (some ⟨w4.heap.size, 0, none⟩) 4 4)).setCell ⟨w.heap.size, 2, none⟩ (.slice (some ⟨w4.heap.size + 1, 0, none⟩) 2 2)).setCell ⟨w.heap.size, 3, none⟩ (.int .i64 4294967296)).setCell ⟨w.heap.size, 4, none⟩ (.int .i64 38654705664)).setCell ⟨w.heap.size, 5, none⟩ (.int .i64 1)).setCell ⟨w.heap.size, 6, none⟩ (.slice (some ⟨b3, 0, none⟩) 3 3)) := (((((((Mod.refl _ _).setCell _ _).setCell _ _).setCell _ _).setCell _ _).setCell _ _).setCell _ _).setCell _ _
  have hsz : (((((((w4.setCell ⟨w.heap.size, 0, none⟩ (.int .i64 2)).setCell ⟨w.heap.size, 1, none⟩ (.slice (some ⟨w4.heap.size, 0, none⟩) 4 4)).setCell ⟨w.heap.size, 2, none⟩ (.slice (some ⟨w4.heap.size + 1, 0, none⟩) 2 2)).setCell ⟨w.heap.size, 3, none⟩ (.int .i64 4294967296)).setCell ⟨w.heap.size, 4, none⟩ (.int .i64 38654705664)).setCell ⟨w.heap.size, 5, none⟩ (.int .i64 1)).setCell ⟨w.heap.size, 6, none⟩ (.slice (some ⟨b3, 0, none⟩) 3 3)).heap.size = w4.heap.size := by simp [World.setCell]
  generalize (((((((w4.setCell ⟨w.heap.size, 0, none⟩ (.int .i64 2)).setCell ⟨w.heap.size, 1, none⟩ (.slice (some ⟨w4.heap.size, 0, none⟩) 4 4)).setCell ⟨w.heap.size, 2, none⟩ (.slice (some ⟨w4.heap.size + 1, 0, none⟩) 2 2)).setCell ⟨w.heap.size, 3, none⟩ (.int .i64 4294967296)).setCell ⟨w.heap.size, 4, none⟩ (.int .i64 38654705664)).setCell ⟨w.heap.size, 5, none⟩ (.int .i64 1)).setCell ⟨w.heap.size, 6, none⟩ (.slice (some ⟨b3, 0, none⟩) 3 3)) = ws at *
  clear y0 y1 y2 y3 y4 y5 y6 f S4 HB3 bm
  have gg : Grown ws ((ws.alloc (.cells #[.int .i64 0, .int .i64 4294967296, .int .i64 0, .int .i64 0] 3)).alloc (.cells #[.int .i64 0, .int .i64 1] 3)) := ((Grown.refl _).alloc _ _).alloc _ _
  have da := Blk.grown (Blk.new ws #[.int .i64 0, .int .i64 4294967296, .int .i64 0, .int .i64 0] 3) ((Grown.refl _).alloc #[.int .i64 0, .int .i64 1] 3)
  have dq := blk_new2 ws (.cells #[.int .i64 0, .int .i64 4294967296, .int .i64 0, .int .i64 0] 3) #[.int .i64 0, .int .i64 1] 3
  have P := Blk.grown P0 gg
  have n0 : w1.heap.size ≠ w.heap.size := by omega
  have n1 : w1.heap.size + 1 ≠ w.heap.size := by omega
  have n2 : w1.heap.size + 1 + 1 ≠ w.heap.size := by omega
  have n3 : b3 ≠ w.heap.size := by omega
  have d0 := Blk.grown (Blk.keep c0 sm n0) gg
  have d1 := Blk.grown (Blk.keep c1 sm n1) gg
  have d2 := Blk.grown (Blk.keep c2 sm n2) gg
  have d3 := Blk.grown (Blk.keep c3 sm n3) gg
  have kE := ((k4.mod sm (Nat.le_refl _)).alloc #[.int .i64 0, .int .i64 4294967296, .int .i64 0, .int .i64 0] 3).alloc #[.int .i64 0, .int .i64 1] 3
  rw [hsz] at da dq
  clear gg P0 sm
  generalize ((ws.alloc (.cells #[.int .i64 0, .int .i64 4294967296, .int .i64 0, .int .i64 0] 3)).alloc (.cells #[.int .i64 0, .int .i64 1] 3)) = wE at *
  have c0' : wE.cell? ⟨w.heap.size, 0, none⟩ = some (.int .i64 2) := Blk.cell P 0
  have c1' : wE.cell? ⟨w.heap.size, 1, none⟩ = some (.slice (some ⟨w4.heap.size, 0, none⟩) 4 4) := Blk.cell P 1
  have c2' : wE.cell? ⟨w.heap.size, 2, none⟩ = some (.slice (some ⟨w4.heap.size + 1, 0, none⟩) 2 2) := Blk.cell P 2
  have c3' : wE.cell? ⟨w.heap.size, 3, none⟩ = some (.int .i64 4294967296) := Blk.cell P 3
  have c4' : wE.cell? ⟨w.heap.size, 4, none⟩ = some (.int .i64 38654705664) := Blk.cell P 4
  have c5' : wE.cell? ⟨w.heap.size, 5, none⟩ = some (.int .i64 1) := Blk.cell P 5
  have c6' : wE.cell? ⟨w.heap.size, 6, none⟩ = some (.slice (some ⟨b3, 0, none⟩) 3 3) := Blk.cell P 6
  refine bodyPost_ret (v := .agg #[.int .i64 2, .slice (some ⟨w4.heap.size, 0, none⟩) 4 4, .slice (some ⟨w4.heap.size + 1, 0, none⟩) 2 2, .int .i64 4294967296, .int .i64 38654705664, .int .i64 1, .slice (some ⟨b3, 0, none⟩) 3 3]) (by simp [results, Try.results24, go_sem, c0', c1', c2', c3', c4', c5', c6']) rfl ?_
  have lows : w.heap.size ≤ w4.heap.size ∧ w.heap.size ≤ w4.heap.size + 1 ∧ w.heap.size ≤ b3 ∧ w.heap.size ≤ w1.heap.size ∧ w.heap.size ≤ w1.heap.size + 1 ∧ w.heap.size ≤ w1.heap.size + 1 + 1 := ⟨by omega, by omega, by omega, by omega, by omega, by omega⟩
  exact ⟨w4.heap.size, w4.heap.size + 1, b3, w1.heap.size, w1.heap.size + 1, w1.heap.size + 1 + 1, rfl, twoV_good da dq d0 d1 d2 d3, lows, ⟨da, ⟨dq, d0, d1, d2⟩, d3⟩, kE⟩
theorem belV_good {w : World} {bx bp : Nat} {p : Int} (hp : I64 p) (hx : Blk bx #[.int .i64 1, .int .i64 2] 3 w) (hq : Blk bp #[.int .i64 3, .int .i64 1, .int .i64 p, .int .i64 3] 3 w) : (belV bx bp p).good w :=
  ⟨lv_good (l := [1, 2]) hx rfl (fun x hx => by simp at hx; unfold I64; omega), lv_good (l := [3, 1, p, 3]) hq rfl (fun x hx => by simp at hx; unfold I64 at *; omega), ⟨by show I64 4; unfold I64; omega, by show I64 0; unfold I64; omega, by show I64 0; unfold I64; omega⟩, by show 2 ≤ 13; omega, by show 4 ≤ 40; omega⟩
set_option maxRecDepth 20000 in
set_option maxHeartbeats 4000000 in
theorem lawBelief (p : Int) (hp : I64 p) (w : World) : Calls Try.prog 25 #[.int .i64 p] w fun e w' => BelP p w e w' := by
  have b0 := Blk.new w #[.int .i64 0, .slice none 0 0, .slice none 0 0, .bool false, .int .i64 0, .int .i64 0] 27
  have k0 : Kp w (w.alloc (.cells #[.int .i64 0, .slice none 0 0, .slice none 0 0, .bool false, .int .i64 0, .int .i64 0] 27)) := (Kp.refl _).alloc _ _
  have s0 : (w.alloc (.cells #[.int .i64 0, .slice none 0 0, .slice none 0 0, .bool false, .int .i64 0, .int .i64 0] 27)).heap.size = w.heap.size + 1 := by simp
  have HP := hide hp
  clear hp
  go_enter Try.func25, Try.ntmps25
  go_upto_region 1 with fail
  generalize (w.alloc (.cells #[.int .i64 0, .slice none 0 0, .slice none 0 0, .bool false, .int .i64 0, .int .i64 0] 27)) = w1 at *
  have H1 := hide (And.intro k0 (And.intro b0 s0))
  clear k0 b0 s0
  have y0 : w1.cell? ⟨w.heap.size, 0, none⟩ = some (.int .i64 0) := Blk.cell (unhide H1).2.1 0
  have y1 : w1.cell? ⟨w.heap.size, 1, none⟩ = some (.slice none 0 0) := Blk.cell (unhide H1).2.1 1
  have y2 : w1.cell? ⟨w.heap.size, 2, none⟩ = some (.slice none 0 0) := Blk.cell (unhide H1).2.1 2
  have y3 : w1.cell? ⟨w.heap.size, 3, none⟩ = some (.bool false) := Blk.cell (unhide H1).2.1 3
  have y4 : w1.cell? ⟨w.heap.size, 4, none⟩ = some (.int .i64 0) := Blk.cell (unhide H1).2.1 4
  have y5 : w1.cell? ⟨w.heap.size, 5, none⟩ = some (.int .i64 0) := Blk.cell (unhide H1).2.1 5
  have gy := heap_gt y0
  have f := Blk.free (unhide H1).2.1
  go_wp2
  obtain ⟨k4, bm, e5⟩ := unhide H1
  have P0 : Blk w.heap.size #[.int .i64 4, .slice (some ⟨w1.heap.size, 0, none⟩) 2 2, .slice (some ⟨w1.heap.size + 1, 0, none⟩) 4 4, .bool false, .int .i64 0, .int .i64 0] 27 ((((((w1.setCell ⟨w.heap.size, 0, none⟩ (.int .i64 4)).setCell ⟨w.heap.size, 1, none⟩ (.slice (some ⟨w1.heap.size, 0, none⟩) 2 2)).setCell ⟨w.heap.size, 2, none⟩ (.slice (some ⟨w1.heap.size + 1, 0, none⟩) 4 4)).setCell ⟨w.heap.size, 3, none⟩ (.bool false)).setCell ⟨w.heap.size, 4, none⟩ (.int .i64 0)).setCell ⟨w.heap.size, 5, none⟩ (.int .i64 0)) := Blk.set (Blk.set (Blk.set (Blk.set (Blk.set (Blk.set bm 0 _) 1 _) 2 _) 3 _) 4 _) 5 _
  have sm : Mod w.heap.size w1 ((((((w1.setCell ⟨w.heap.size, 0, none⟩ (.int .i64 4)).setCell ⟨w.heap.size, 1, none⟩ (.slice (some ⟨w1.heap.size, 0, none⟩) 2 2)).setCell ⟨w.heap.size, 2, none⟩ (.slice (some ⟨w1.heap.size + 1, 0, none⟩) 4 4)).setCell ⟨w.heap.size, 3, none⟩ (.bool false)).setCell ⟨w.heap.size, 4, none⟩ (.int .i64 0)).setCell ⟨w.heap.size, 5, none⟩ (.int .i64 0)) := ((((((Mod.refl _ _).setCell _ _).setCell _ _).setCell _ _).setCell _ _).setCell _ _).setCell _ _
  have hsz : ((((((w1.setCell ⟨w.heap.size, 0, none⟩ (.int .i64 4)).setCell ⟨w.heap.size, 1, none⟩ (.slice (some ⟨w1.heap.size, 0, none⟩) 2 2)).setCell ⟨w.heap.size, 2, none⟩ (.slice (some ⟨w1.heap.size + 1, 0, none⟩) 4 4)).setCell ⟨w.heap.size, 3, none⟩ (.bool false)).setCell ⟨w.heap.size, 4, none⟩ (.int .i64 0)).setCell ⟨w.heap.size, 5, none⟩ (.int .i64 0)).heap.size = w1.heap.size := by simp [World.setCell]
  generalize ((((((w1.setCell ⟨w.heap.size, 0, none⟩ (.int .i64 4)).setCell ⟨w.heap.size, 1, none⟩ (.slice (some ⟨w1.heap.size, 0, none⟩) 2 2)).setCell ⟨w.heap.size, 2, none⟩ (.slice (some ⟨w1.heap.size + 1, 0, none⟩) 4 4)).setCell ⟨w.heap.size, 3, none⟩ (.bool false)).setCell ⟨w.heap.size, 4, none⟩ (.int .i64 0)).setCell ⟨w.heap.size, 5, none⟩ (.int .i64 0)) = ws at *
  have dx := Blk.grown (Blk.new ws #[.int .i64 1, .int .i64 2] 3) ((Grown.refl _).alloc #[.int .i64 3, .int .i64 1, .int .i64 p, .int .i64 3] 3)
  have dp := blk_new2 ws (.cells #[.int .i64 1, .int .i64 2] 3) #[.int .i64 3, .int .i64 1, .int .i64 p, .int .i64 3] 3
  have P := Blk.grown P0 (((Grown.refl ws).alloc #[.int .i64 1, .int .i64 2] 3).alloc #[.int .i64 3, .int .i64 1, .int .i64 p, .int .i64 3] 3)
  have kE := ((k4.mod sm (Nat.le_refl _)).alloc #[.int .i64 1, .int .i64 2] 3).alloc #[.int .i64 3, .int .i64 1, .int .i64 p, .int .i64 3] 3
  rw [hsz] at dx dp
  generalize ((ws.alloc (.cells #[.int .i64 1, .int .i64 2] 3)).alloc (.cells #[.int .i64 3, .int .i64 1, .int .i64 p, .int .i64 3] 3)) = wE at *
  have c0' : wE.cell? ⟨w.heap.size, 0, none⟩ = some (.int .i64 4) := Blk.cell P 0
  have c1' : wE.cell? ⟨w.heap.size, 1, none⟩ = some (.slice (some ⟨w1.heap.size, 0, none⟩) 2 2) := Blk.cell P 1
  have c2' : wE.cell? ⟨w.heap.size, 2, none⟩ = some (.slice (some ⟨w1.heap.size + 1, 0, none⟩) 4 4) := Blk.cell P 2
  have c3' : wE.cell? ⟨w.heap.size, 3, none⟩ = some (.bool false) := Blk.cell P 3
  have c4' : wE.cell? ⟨w.heap.size, 4, none⟩ = some (.int .i64 0) := Blk.cell P 4
  have c5' : wE.cell? ⟨w.heap.size, 5, none⟩ = some (.int .i64 0) := Blk.cell P 5
  refine bodyPost_ret (v := .agg #[.int .i64 4, .slice (some ⟨w1.heap.size, 0, none⟩) 2 2, .slice (some ⟨w1.heap.size + 1, 0, none⟩) 4 4, .bool false, .int .i64 0, .int .i64 0]) (by simp [results, Try.results25, go_sem, c0', c1', c2', c3', c4', c5']) rfl ?_
  exact ⟨w1.heap.size, w1.heap.size + 1, rfl, belV_good (unhide HP) dx dp, ⟨by omega, by omega⟩, kE⟩

end Go.Proofs.Ytpanfppnkgokdaa
