/- Package fix's exported functions: what each returns, in whole numbers. -/
import Derived.Test.YtopaakjildmjcaaGreatFixC
namespace Go.Proofs.YtopaakjildmjcaaGreat
open Go.RowKit Go.Proofs.Wd
set_option linter.unusedVariables false
set_option linter.unusedSimpArgs false
set_option maxRecDepth 10000
attribute [local go_sem ↓] Go.wp_at_zero Go.wp_at_succ

theorem in_wide (v : Int) (h : -39614081257132168796771975168 ≤ v ∧ v ≤ 39614081257132168796771975168) : wrapW v = v := wrapW_in _ (by omega)

set_option maxHeartbeats 400000 in
theorem fixAdd (a b : Int) (ha : I64 a) (hb : I64 b) (w : World) :
    Calls Tryz.prog 72 #[.int .i64 a, .int .i64 b] w fun e w' => e = .returned (.tuple #[.int .i64 (fitI (tk a + tk b)), .bool (cutB (tk a + tk b) a b)]) ∧ Grown w w' := by
  have h1 := tk_Fx a ha; have h2 := tk_Fx b hb
  have R := hide (fun w => fixReckon a b (tk a + tk b) 96 ha hb (in_wide _ (by unfold Fx at h1 h2; omega)) (enters_of Tryz.func96 (by kernel_rfl) rfl) (hide fun w => addV (tk a) (tk b) w) w)
  clear h1 h2 ha hb
  generalize fitI (tk a + tk b) = u at *
  generalize cutB (tk a + tk b) a b = v at *
  go_enter Tryz.func72, Tryz.ntmps72
  go_wp2_with fail
  refine (unhide R _).mono ?_
  rintro e w1 ⟨rfl, hg⟩
  go_wp2
  go_ret2
  exact ⟨rfl, hg⟩

set_option maxHeartbeats 400000 in
theorem fixMul (a b : Int) (ha : I64 a) (hb : I64 b) (w : World) :
    Calls Tryz.prog 73 #[.int .i64 a, .int .i64 b] w fun e w' => e = .returned (.tuple #[.int .i64 (fitI (rdiv (tk a * tk b) 4294967296)), .bool (cutB (rdiv (tk a * tk b) 4294967296) a b)]) ∧ Grown w w' := by
  have h1 := tk_Fx a ha; have h2 := tk_Fx b hb
  have h0 := prod_range _ _ h1 h2
  have h3 := rdiv_abs (tk a * tk b) 4294967296 85070591730234615847396907784232501249 (by omega) h0
  have R := hide (fun w => fixReckon a b (rdiv (tk a * tk b) 4294967296) 97 ha hb (wrapW_in _ (by omega)) (enters_of Tryz.func97 (by kernel_rfl) rfl) (hide fun w => fixMul1 (tk a) (tk b) h1 h2 w) w)
  clear h0 h1 h2 h3 ha hb
  generalize fitI (rdiv (tk a * tk b) 4294967296) = u at *
  generalize cutB (rdiv (tk a * tk b) 4294967296) a b = v at *
  go_enter Tryz.func73, Tryz.ntmps73
  go_wp2_with fail
  refine (unhide R _).mono ?_
  rintro e w1 ⟨rfl, hg⟩
  go_wp2
  go_ret2
  exact ⟨rfl, hg⟩

set_option maxHeartbeats 400000 in
theorem fixDiv (a b : Int) (ha : I64 a) (hb : I64 b) (w : World) :
    Calls Tryz.prog 81 #[.int .i64 a, .int .i64 b] w fun e w' => e = .returned (.tuple #[.int .i64 (fitI (quoR (tk a) (tk b))), .bool (cutB (quoR (tk a) (tk b)) a b || decide (b = 0))]) ∧ Grown w w' := by
  have h1 := tk_Fx a ha; have h2 := tk_Fx b hb
  have h3 := quoR_range (tk a) (tk b) h1
  have O := hide (fun w => fixOver (tk a) (tk b) h1 h2 w)
  obtain ⟨q, hq⟩ : ∃ q, quoR (tk a) (tk b) = q := ⟨_, rfl⟩
  rw [hq] at h3 O ⊢
  have R := hide (fun w => fixReckon a b q 104 ha hb (wrapW_in _ h3) (enters_of Tryz.func104 (by kernel_rfl) rfl) O w)
  clear h1 h2 h3 ha hb O hq
  obtain ⟨u, hu⟩ : ∃ u, fitI q = u := ⟨_, rfl⟩
  obtain ⟨v, hv⟩ : ∃ v, cutB q a b = v := ⟨_, rfl⟩
  rw [hu, hv] at R ⊢
  clear hu hv
  by_cases hz : b = 0
  · subst hz
    go_enter Tryz.func81, Tryz.ntmps81
    go_wp2_with fail
    refine (unhide R _).mono ?_
    rintro e w1 ⟨rfl, hg⟩
    cases v <;> (go_wp2; go_ret2; exact ⟨rfl, hg⟩)
  · go_enter Tryz.func81, Tryz.ntmps81
    go_wp2_with fail
    refine (unhide R _).mono ?_
    rintro e w1 ⟨rfl, hg⟩
    cases v <;> (go_wp2; go_ret2; exact ⟨by simp [hz], hg⟩)

set_option maxHeartbeats 400000 in
theorem fixWhole (n : Int) (hn : I64 n) (w : World) :
    Calls Tryz.prog 82 #[.int .i64 n] w fun e w' => e = .returned (.tuple #[.int .i64 (fitI (n * 4294967296)), .bool (fitB (n * 4294967296))]) ∧ Grown w w' := by
  have M := hide (fun w => wideMul n 4294967296 hn (by unfold I64; omega) w)
  have K := hide (fun w => fitV (n * 4294967296) w)
  rw [in_wide (n * 4294967296) (by unfold I64 at hn; omega)] at K
  go_enter Tryz.func82, Tryz.ntmps82
  go_wp2_with fail
  refine (unhide M _).mono ?_
  rintro e w1 ⟨rfl, hg1⟩
  go_wp2_with fail
  refine (unhide K _).mono ?_
  rintro e w2 ⟨rfl, hg2⟩
  go_wp2
  go_ret2
  exact ⟨rfl, gtrans hg1 hg2⟩

end Go.Proofs.YtopaakjildmjcaaGreat
