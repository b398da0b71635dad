/- Package fix's exported functions: what each returns, in whole numbers. -/
import Derived.Test.YtnelkhmahmoclaaGreatDoorFixC
namespace Go.Proofs.YtnelkhmahmoclaaGreatDoor
open Go.RowKit Go.Proofs.Wd
set_option linter.unusedVariables false
set_option linter.unusedSimpArgs false
set_option maxRecDepth 10000
attribute [local go_sem ↓] Go.wp_at_zero Go.wp_at_succ

theorem in_wide (v : Int) (h : -39614081257132168796771975168 ≤ v ∧ v ≤ 39614081257132168796771975168) : wrapW v = v := wrapW_in _ (by omega)

set_option maxHeartbeats 400000 in
theorem fixSub (a b : Int) (ha : I64 a) (hb : I64 b) (w : World) :
    Calls Tryz.prog 52 #[.int .i64 a, .int .i64 b] w fun e w' => e = .returned (.tuple #[.int .i64 (fitI (tk a - tk b)), .bool (cutB (tk a - tk b) a b)]) ∧ Grown w w' := by
  have h1 := tk_Fx a ha; have h2 := tk_Fx b hb
  have R := hide (fun w => fixReckon a b (tk a - tk b) 73 ha hb (in_wide _ (by unfold Fx at h1 h2; omega)) (enters_of Tryz.func73 (by kernel_rfl) rfl) (hide fun w => fixSub1 (tk a) (tk b) w) w)
  clear h1 h2 ha hb
  generalize fitI (tk a - tk b) = u at *
  generalize cutB (tk a - tk b) a b = v at *
  go_enter Tryz.func52, Tryz.ntmps52
  go_wp2_with fail
  refine (unhide R _).mono ?_
  rintro e w1 ⟨rfl, hg⟩
  go_wp2
  go_ret2
  exact ⟨rfl, hg⟩

set_option maxHeartbeats 400000 in
theorem fixNeg (a : Int) (ha : I64 a) (w : World) :
    Calls Tryz.prog 29 #[.int .i64 a] w fun e w' => e = .returned (.tuple #[.int .i64 (fitI (tk 0 - tk a)), .bool (cutB (tk 0 - tk a) 0 a)]) ∧ Grown w w' := by
  have R := hide (fun w => fixSub 0 a (by unfold I64; omega) ha w)
  generalize fitI (tk 0 - tk a) = u at *
  generalize cutB (tk 0 - tk a) 0 a = v at *
  go_enter Tryz.func29, Tryz.ntmps29
  go_wp2_with fail
  refine (unhide R _).mono ?_
  rintro e w1 ⟨rfl, hg⟩
  go_wp2
  go_ret2
  exact ⟨rfl, hg⟩

end Go.Proofs.YtnelkhmahmoclaaGreatDoor
