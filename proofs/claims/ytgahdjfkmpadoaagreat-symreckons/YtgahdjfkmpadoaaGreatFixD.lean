/- Package fix's exported functions: what each returns, in whole numbers. -/
import Derived.Test.YtgahdjfkmpadoaaGreatFixC
namespace Go.Proofs.YtgahdjfkmpadoaaGreat
open Go.RowKit Go.Proofs.Wd
set_option linter.unusedVariables false
set_option linter.unusedSimpArgs false
set_option maxRecDepth 10000
attribute [local go_sem ↓] Go.wp_at_zero Go.wp_at_succ

theorem in_wide (v : Int) (h : -39614081257132168796771975168 ≤ v ∧ v ≤ 39614081257132168796771975168) : wrapW v = v := wrapW_in _ (by omega)

set_option maxHeartbeats 400000 in
theorem fixAdd (a b : Int) (ha : I64 a) (hb : I64 b) (w : World) :
    Calls Tryz.prog 66 #[.int .i64 a, .int .i64 b] w fun e w' => e = .returned (.tuple #[.int .i64 (fitI (tk a + tk b)), .bool (cutB (tk a + tk b) a b)]) ∧ Grown w w' := by
  have h1 := tk_Fx a ha; have h2 := tk_Fx b hb
  have R := hide (fun w => fixReckon a b (tk a + tk b) 76 ha hb (in_wide _ (by unfold Fx at h1 h2; omega)) (enters_of Tryz.func76 (by kernel_rfl) rfl) (hide fun w => addV (tk a) (tk b) w) w)
  clear h1 h2 ha hb
  generalize fitI (tk a + tk b) = u at *
  generalize cutB (tk a + tk b) a b = v at *
  go_enter Tryz.func66, Tryz.ntmps66
  go_wp2_with fail
  refine (unhide R _).mono ?_
  rintro e w1 ⟨rfl, hg⟩
  go_wp2
  go_ret2
  exact ⟨rfl, hg⟩

set_option maxHeartbeats 400000 in
theorem fixHalf (a b : Int) (ha : I64 a) (hb : I64 b) (w : World) :
    Calls Tryz.prog 52 #[.int .i64 a, .int .i64 b] w fun e w' => e = .returned (.tuple #[.int .i64 (fitI (rdiv (tk a + tk b) 2)), .bool (cutB (rdiv (tk a + tk b) 2) a b)]) ∧ Grown w w' := by
  have h1 := tk_Fx a ha; have h2 := tk_Fx b hb
  have h3 := rdiv_abs (tk a + tk b) 2 36893488147419103232 (by omega) (by unfold Fx at h1 h2; omega)
  have R := hide (fun w => fixReckon a b (rdiv (tk a + tk b) 2) 74 ha hb (in_wide _ (by omega)) (enters_of Tryz.func74 (by kernel_rfl) rfl) (hide fun w => fixHalf1 (tk a) (tk b) (in_wide _ (by unfold Fx at h1 h2; omega)) w) w)
  clear h1 h2 h3 ha hb
  generalize fitI (rdiv (tk a + tk b) 2) = u at *
  generalize cutB (rdiv (tk a + tk b) 2) a b = v at *
  go_enter Tryz.func52, Tryz.ntmps52
  go_wp2_with fail
  refine (unhide R _).mono ?_
  rintro e w1 ⟨rfl, hg⟩
  go_wp2
  go_ret2
  exact ⟨rfl, hg⟩

set_option maxHeartbeats 400000 in
theorem fixMul (a b : Int) (ha : I64 a) (hb : I64 b) (w : World) :
    Calls Tryz.prog 67 #[.int .i64 a, .int .i64 b] w fun e w' => e = .returned (.tuple #[.int .i64 (fitI (rdiv (tk a * tk b) 4294967296)), .bool (cutB (rdiv (tk a * tk b) 4294967296) a b)]) ∧ Grown w w' := by
  have h1 := tk_Fx a ha; have h2 := tk_Fx b hb
  have h0 := prod_range _ _ h1 h2
  have h3 := rdiv_abs (tk a * tk b) 4294967296 85070591730234615847396907784232501249 (by omega) h0
  have R := hide (fun w => fixReckon a b (rdiv (tk a * tk b) 4294967296) 81 ha hb (wrapW_in _ (by omega)) (enters_of Tryz.func81 (by kernel_rfl) rfl) (hide fun w => fixMul1 (tk a) (tk b) h1 h2 w) w)
  clear h0 h1 h2 h3 ha hb
  generalize fitI (rdiv (tk a * tk b) 4294967296) = u at *
  generalize cutB (rdiv (tk a * tk b) 4294967296) a b = v at *
  go_enter Tryz.func67, Tryz.ntmps67
  go_wp2_with fail
  refine (unhide R _).mono ?_
  rintro e w1 ⟨rfl, hg⟩
  go_wp2
  go_ret2
  exact ⟨rfl, hg⟩

end Go.Proofs.YtgahdjfkmpadoaaGreat
