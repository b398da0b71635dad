/- The law's own helpers over fix: is, sum, half, times, over, awake, mirror, apart: what each returns. -/
import Derived.Test.YthddlamihihphaaFixD
namespace Go.Proofs.Ythddlamihihphaa
open Go.RowKit Go.Proofs.Wd
set_option linter.unusedVariables false
set_option linter.unusedSimpArgs false
attribute [local go_sem ↓] Go.wp_at_zero Go.wp_at_succ

set_option maxHeartbeats 400000 in
theorem lawIs (n : Int) (c : Bool) (w : World) :
    Calls Try.prog 25 #[.int .i64 n, .bool c, .int .i64 n, .bool c] w fun e w' => e = .returned (.bool true) ∧ Grown w w' := by
  cases c <;> (go_enter Try.func25, Try.ntmps25; go_wp2; go_ret; exact ⟨rfl, Grown.refl _⟩)

set_option maxHeartbeats 400000 in
theorem lawSum (a b want : Int) (c : Bool) (ha : I64 a) (hb : I64 b) (h1 : fitI (tk a + tk b) = want) (h2 : cutB (tk a + tk b) a b = c) (w : World) :
    Calls Try.prog 30 #[.int .i64 a, .int .i64 b, .int .i64 want, .bool c] w fun e w' => e = .returned (.bool true) ∧ Grown w w' := by
  have R := hide (fun w => fixAdd a b ha hb w)
  rw [h1, h2] at R
  clear h1 h2
  go_enter Try.func30, Try.ntmps30
  go_wp2_with fail
  refine (unhide R _).mono ?_
  rintro e w1 ⟨rfl, hg1⟩
  go_wp2_with fail
  refine (lawIs want c _).mono ?_
  rintro e w2 ⟨rfl, hg2⟩
  go_wp2
  go_ret
  exact ⟨rfl, gtrans hg1 hg2⟩

set_option maxHeartbeats 400000 in
theorem lawHalf (a b want : Int) (c : Bool) (ha : I64 a) (hb : I64 b) (h1 : fitI (rdiv (tk a + tk b) 2) = want) (h2 : cutB (rdiv (tk a + tk b) 2) a b = c) (w : World) :
    Calls Try.prog 26 #[.int .i64 a, .int .i64 b, .int .i64 want, .bool c] w fun e w' => e = .returned (.bool true) ∧ Grown w w' := by
  have R := hide (fun w => fixHalf a b ha hb w)
  rw [h1, h2] at R
  clear h1 h2
  go_enter Try.func26, Try.ntmps26
  go_wp2_with fail
  refine (unhide R _).mono ?_
  rintro e w1 ⟨rfl, hg1⟩
  go_wp2_with fail
  refine (lawIs want c _).mono ?_
  rintro e w2 ⟨rfl, hg2⟩
  go_wp2
  go_ret
  exact ⟨rfl, gtrans hg1 hg2⟩

set_option maxHeartbeats 400000 in
theorem lawTimes (a b want : Int) (c : Bool) (ha : I64 a) (hb : I64 b) (h1 : fitI (rdiv (tk a * tk b) 4294967296) = want) (h2 : cutB (rdiv (tk a * tk b) 4294967296) a b = c) (w : World) :
    Calls Try.prog 27 #[.int .i64 a, .int .i64 b, .int .i64 want, .bool c] w fun e w' => e = .returned (.bool true) ∧ Grown w w' := by
  have R := hide (fun w => fixMul a b ha hb w)
  rw [h1, h2] at R
  clear h1 h2
  go_enter Try.func27, Try.ntmps27
  go_wp2_with fail
  refine (unhide R _).mono ?_
  rintro e w1 ⟨rfl, hg1⟩
  go_wp2_with fail
  refine (lawIs want c _).mono ?_
  rintro e w2 ⟨rfl, hg2⟩
  go_wp2
  go_ret
  exact ⟨rfl, gtrans hg1 hg2⟩

set_option maxHeartbeats 400000 in
theorem lawOver (a b want : Int) (c : Bool) (ha : I64 a) (hb : I64 b) (h1 : fitI (quoR (tk a) (tk b)) = want) (h2 : (cutB (quoR (tk a) (tk b)) a b || decide (b = 0)) = c) (w : World) :
    Calls Try.prog 28 #[.int .i64 a, .int .i64 b, .int .i64 want, .bool c] w fun e w' => e = .returned (.bool true) ∧ Grown w w' := by
  have R := hide (fun w => fixDiv a b ha hb w)
  rw [h1, h2] at R
  clear h1 h2
  go_enter Try.func28, Try.ntmps28
  go_wp2_with fail
  refine (unhide R _).mono ?_
  rintro e w1 ⟨rfl, hg1⟩
  go_wp2_with fail
  refine (lawIs want c _).mono ?_
  rintro e w2 ⟨rfl, hg2⟩
  go_wp2
  go_ret
  exact ⟨rfl, gtrans hg1 hg2⟩

set_option maxHeartbeats 1000000 in
theorem lawAwake (w : World) :
    Calls Try.prog 18 #[] w fun e w' => e = .returned (.bool true) ∧ Grown w w' := by
  have C1 := hide (fun w => lawSum (4294967296) (4294967296) (8589934592) false (by unfold I64; omega) (by unfold I64; omega) (by decide) (by decide) w)
  have C2 := hide (fun w => lawSum (9223372036854775807) (1) (9223372036854775807) true (by unfold I64; omega) (by unfold I64; omega) (by decide) (by decide) w)
  have C3 := hide (fun w => lawHalf (1) (2) (2) false (by unfold I64; omega) (by unfold I64; omega) (by decide) (by decide) w)
  have C4 := hide (fun w => lawTimes (2147483648) (2147483648) (1073741824) false (by unfold I64; omega) (by unfold I64; omega) (by decide) (by decide) w)
  have C5 := hide (fun w => lawOver (4294967296) (12884901888) (1431655765) false (by unfold I64; omega) (by unfold I64; omega) (by decide) (by decide) w)
  go_enter Try.func18, Try.ntmps18
  go_wp2_with fail
  refine (unhide C1 _).mono ?_
  rintro e w1 ⟨rfl, hg1⟩
  have k1 : Grown w w1 := hg1
  go_wp2_with fail
  refine (unhide C2 _).mono ?_
  rintro e w2 ⟨rfl, hg2⟩
  have k2 : Grown w w2 := gtrans k1 hg2
  clear k1 hg2
  go_wp2_with fail
  refine (unhide C3 _).mono ?_
  rintro e w3 ⟨rfl, hg3⟩
  have k3 : Grown w w3 := gtrans k2 hg3
  clear k2 hg3
  go_wp2_with fail
  refine (unhide C4 _).mono ?_
  rintro e w4 ⟨rfl, hg4⟩
  have k4 : Grown w w4 := gtrans k3 hg4
  clear k3 hg4
  go_wp2_with fail
  refine (unhide C5 _).mono ?_
  rintro e w5 ⟨rfl, hg5⟩
  have k5 : Grown w w5 := gtrans k4 hg5
  clear k4 hg5
  go_wp2
  go_ret
  exact ⟨rfl, k5⟩

end Go.Proofs.Ythddlamihihphaa
