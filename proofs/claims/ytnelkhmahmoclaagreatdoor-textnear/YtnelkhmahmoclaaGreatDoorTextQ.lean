/- Two wide numbers held against each other, field by field. -/
import Derived.Test.YtnelkhmahmoclaaGreatDoorTextY
namespace Go.Proofs.YtnelkhmahmoclaaGreatDoor
open Go.RowKit Go.Shelf Go.Proofs.Wd
set_option linter.unusedVariables false
set_option linter.unusedSimpArgs false
set_option maxRecDepth 10000

theorem wideStruct : Tryz.prog.underlying 43 = some (.struct (Tryz.prog.fieldsOf 43)) := by kernel_rfl
theorem wideStood : Tryz.prog.stoodInHeld 43 = false := by kernel_rfl
theorem wideGuard : Tryz.prog.eqGuardType Tryz.prog.depth 43 = false := by kernel_rfl
theorem wide_eqi (x y : Int) (w : World) : (Op.equalIn 10000 43 (.agg #[.int .i64 x, .int .u64 y]) (.agg #[.int .i64 0, .int .u64 0])).run Tryz.prog w = .ok (if (x == 0) = true then y == 0 else false) w := by
  rw [run_equalIn_struct w 9999 43 _ _ wideStruct wideStood]
  have e : (Tryz.prog.fieldsOf 43).toList.map (fun f => (f.name, f.type, f.offset)) = [("Hi", 3, 0), ("Lo", 41, 1)] := by kernel_rfl
  generalize (Tryz.prog.fieldsOf 43).toList = fs at *
  obtain ⟨f1, f2, rfl⟩ : ∃ f1 f2, fs = [f1, f2] := by
    have hl : fs.length = 2 := by have := congrArg List.length e; simpa using this
    cases fs with
    | nil => simp at hl
    | cons f1 fs =>
      cases fs with
      | nil => simp at hl
      | cons f2 fs =>
        cases fs with
        | nil => exact ⟨f1, f2, rfl⟩
        | cons f3 fs => simp at hl
  · simp only [List.map_cons, List.map_nil, List.cons.injEq, Prod.mk.injEq, and_true] at e
    obtain ⟨⟨n1, t1, o1⟩, n2, t2, o2⟩ := e
    have s1 : f1.name ≠ "_" := by rw [n1]; decide
    have s2 : f2.name ≠ "_" := by rw [n2]; decide
    have q1 : ∀ (a b : Int) (w : World), (Op.equalIn 9999 3 (.int .i64 a) (.int .i64 b)).run Tryz.prog w = .ok (a == b) w := fun a b w => run_equalIn_int w 9998 3 .i64 .i64 a b Tryz.underlying3
    have q2 : ∀ (a b : Int) (w : World), (Op.equalIn 9999 41 (.int .u64 a) (.int .u64 b)).run Tryz.prog w = .ok (a == b) w := fun a b w => run_equalIn_int w 9998 41 .u64 .u64 a b Tryz.underlying41
    simp only [Op.eqFields, s1, s2, t1, t2, o1, o2, ne_eq, not_false_eq_true, if_true]
    cases h1 : (x == 0) <;> cases h2 : (y == 0) <;> simp [go_sem, q1, q2, h1, h2, part]
theorem wide_neq (x y : Int) (w : World) : (binOp .neq 43 (.agg #[.int .i64 x, .int .u64 y]) (.agg #[.int .i64 0, .int .u64 0])).run Tryz.prog w = .ok (.bool (!(if (x == 0) = true then y == 0 else false))) w := by
  rw [run_neq_struct, wide_eqi]
  rfl
theorem wide_nz (F : Nat) (h : F < 100000000000000000000000000000000) (h0 : F ≠ 0) : (if (hiOf (F : Int) == 0) = true then loOf (F : Int) == 0 else false) = false := by
  by_cases c : hiOf (F : Int) = 0
  · rw [if_pos (beq_iff_eq.2 c)]
    refine beq_eq_false_iff_ne.2 fun e => ?_
    unfold hiOf at c
    unfold loOf at e
    omega
  · rw [if_neg (by simpa using c)]
/-- Such a comparison, as one step of a walk. -/
theorem neq_wide {o : Oper} {a : Act} {w : World} {K : Act → World → Prop} {Q : Exit → Act → World → Prop} (x y : Operand) (X Y : Int) (ho : o.op = .binOp .neq 43 x y 43) (hx : a.eval x = .agg #[.int .i64 X, .int .u64 Y]) (hy : a.eval y = .agg #[.int .i64 0, .int .u64 0])
    (hK : K (a.put o.dst (.bool (!(if (X == 0) = true then Y == 0 else false)))) w) : o.wp Tryz.prog a w K Q := by
  have e : (execOp a.eval o).run Tryz.prog w = .ok (.value (.bool (!(if (X == 0) = true then Y == 0 else false)))) w := by
    unfold execOp
    rw [ho]
    simp only [hx, hy]
    have h1 := run_eqGuard_agg (P := Tryz.prog) w .neq 43 x y #[.int .i64 X, .int .u64 Y] #[.int .i64 0, .int .u64 0] wideGuard
    have h2 := wide_neq X Y w
    simp [go_sem, h1, h2]
    by_cases hX : X = 0 <;> by_cases hY : Y = 0 <;> simp [hX, hY]
  unfold Oper.wp
  rw [e]
  exact hK
end Go.Proofs.YtnelkhmahmoclaaGreatDoor
