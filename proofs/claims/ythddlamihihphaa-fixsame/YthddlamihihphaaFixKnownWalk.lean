/- The chapter's examples: the walk of the law FixKnown. -/
import Derived.Test.YthddlamihihphaaFixE
namespace Go.Proofs.Ythddlamihihphaa
open Go.RowKit Go.Proofs.Wd
set_option linter.unusedVariables false
set_option linter.unusedSimpArgs false
attribute [local go_sem ↓] Go.wp_at_zero Go.wp_at_succ

set_option maxHeartbeats 1000000 in
theorem lawKnown (w : World) :
    Calls Try.prog 5 #[] w fun e w' => e = .returned (.bool true) ∧ Grown w w' := by
  have C1 := hide (fun w => fixSub (-9223372036854775807) 1 (by unfold I64; omega) (by unfold I64; omega) w)
  rw [show fitI (tk (-9223372036854775807) - tk 1) = -9223372036854775807 from by decide, show cutB (tk (-9223372036854775807) - tk 1) (-9223372036854775807) 1 = true from by decide] at C1
  have C2 := hide (fun w => fixNeg (-9223372036854775808) (by unfold I64; omega) w)
  rw [show fitI (tk 0 - tk (-9223372036854775808)) = 9223372036854775807 from by decide, show cutB (tk 0 - tk (-9223372036854775808)) 0 (-9223372036854775808) = true from by decide] at C2
  have C3 := hide (fun w => fixWhole 7 (by unfold I64; omega) w)
  rw [show fitI (7 * 4294967296) = 30064771072 from by decide, show fitB (7 * 4294967296) = false from by decide] at C3
  have C4 := hide (fun w => fixWhole 2147483648 (by unfold I64; omega) w)
  rw [show fitI (2147483648 * 4294967296) = 9223372036854775807 from by decide, show fitB (2147483648 * 4294967296) = true from by decide] at C4
  have C5 := hide (fun w => lawIs (-9223372036854775807) true w)
  have C6 := hide (fun w => lawIs (9223372036854775807) true w)
  have C7 := hide (fun w => lawIs (30064771072) false w)
  have C8 := hide (fun w => lawIs (9223372036854775807) true w)
  have C9 := hide (fun w => lawHalf (2) (3) (2) false (by unfold I64; omega) (by unfold I64; omega) (by decide) (by decide) w)
  have C10 := hide (fun w => lawHalf (-1) (-2) (-2) false (by unfold I64; omega) (by unfold I64; omega) (by decide) (by decide) w)
  have C11 := hide (fun w => lawHalf (9223372036854775807) (9223372036854775807) (9223372036854775807) false (by unfold I64; omega) (by unfold I64; omega) (by decide) (by decide) w)
  have C12 := hide (fun w => lawTimes (1) (2147483648) (0) false (by unfold I64; omega) (by unfold I64; omega) (by decide) (by decide) w)
  have C13 := hide (fun w => lawTimes (3) (2147483648) (2) false (by unfold I64; omega) (by unfold I64; omega) (by decide) (by decide) w)
  have C14 := hide (fun w => lawTimes (9223372036854775807) (8589934592) (9223372036854775807) true (by unfold I64; omega) (by unfold I64; omega) (by decide) (by decide) w)
  have C15 := hide (fun w => lawAwake w)
  have C16 := hide (fun w => lawOver (1) (0) (9223372036854775807) true (by unfold I64; omega) (by unfold I64; omega) (by decide) (by decide) w)
  have C17 := hide (fun w => lawOver (0) (0) (0) true (by unfold I64; omega) (by unfold I64; omega) (by decide) (by decide) w)
  have C18 := hide (fun w => lawOver (-5) (0) (-9223372036854775807) true (by unfold I64; omega) (by unfold I64; omega) (by decide) (by decide) w)
  go_enter Try.func5, Try.ntmps5
  go_wp2_with fail
  refine (unhide C1 _).mono ?_
  rintro e w1 ⟨rfl, hg1⟩
  have k1 : Grown w w1 := hg1
  go_wp2_with fail
  refine (unhide C2 _).mono ?_
  rintro e w2 ⟨rfl, hg2⟩
  have k2 : Grown w w2 := gtrans k1 hg2
  clear k1 hg2
  go_wp2_with fail
  refine (unhide C3 _).mono ?_
  rintro e w3 ⟨rfl, hg3⟩
  have k3 : Grown w w3 := gtrans k2 hg3
  clear k2 hg3
  go_wp2_with fail
  refine (unhide C4 _).mono ?_
  rintro e w4 ⟨rfl, hg4⟩
  have k4 : Grown w w4 := gtrans k3 hg4
  clear k3 hg4
  go_wp2_with fail
  refine (unhide C5 _).mono ?_
  rintro e w5 ⟨rfl, hg5⟩
  have k5 : Grown w w5 := gtrans k4 hg5
  clear k4 hg5
  go_wp2_with fail
  refine (unhide C6 _).mono ?_
  rintro e w6 ⟨rfl, hg6⟩
  have k6 : Grown w w6 := gtrans k5 hg6
  clear k5 hg6
  go_wp2_with fail
  refine (unhide C7 _).mono ?_
  rintro e w7 ⟨rfl, hg7⟩
  have k7 : Grown w w7 := gtrans k6 hg7
  clear k6 hg7
  go_wp2_with fail
  refine (unhide C8 _).mono ?_
  rintro e w8 ⟨rfl, hg8⟩
  have k8 : Grown w w8 := gtrans k7 hg8
  clear k7 hg8
  go_wp2_with fail
  refine (unhide C9 _).mono ?_
  rintro e w9 ⟨rfl, hg9⟩
  have k9 : Grown w w9 := gtrans k8 hg9
  clear k8 hg9
  go_wp2_with fail
  refine (unhide C10 _).mono ?_
  rintro e w10 ⟨rfl, hg10⟩
  have k10 : Grown w w10 := gtrans k9 hg10
  clear k9 hg10
  go_wp2_with fail
  refine (unhide C11 _).mono ?_
  rintro e w11 ⟨rfl, hg11⟩
  have k11 : Grown w w11 := gtrans k10 hg11
  clear k10 hg11
  go_wp2_with fail
  refine (unhide C12 _).mono ?_
  rintro e w12 ⟨rfl, hg12⟩
  have k12 : Grown w w12 := gtrans k11 hg12
  clear k11 hg12
  go_wp2_with fail
  refine (unhide C13 _).mono ?_
  rintro e w13 ⟨rfl, hg13⟩
  have k13 : Grown w w13 := gtrans k12 hg13
  clear k12 hg13
  go_wp2_with fail
  refine (unhide C14 _).mono ?_
  rintro e w14 ⟨rfl, hg14⟩
  have k14 : Grown w w14 := gtrans k13 hg14
  clear k13 hg14
  go_wp2_with fail
  refine (unhide C15 _).mono ?_
  rintro e w15 ⟨rfl, hg15⟩
  have k15 : Grown w w15 := gtrans k14 hg15
  clear k14 hg15
  go_wp2_with fail
  refine (unhide C16 _).mono ?_
  rintro e w16 ⟨rfl, hg16⟩
  have k16 : Grown w w16 := gtrans k15 hg16
  clear k15 hg16
  go_wp2_with fail
  refine (unhide C17 _).mono ?_
  rintro e w17 ⟨rfl, hg17⟩
  have k17 : Grown w w17 := gtrans k16 hg17
  clear k16 hg17
  go_wp2_with fail
  refine (unhide C18 _).mono ?_
  rintro e w18 ⟨rfl, hg18⟩
  have k18 : Grown w w18 := gtrans k17 hg18
  clear k17 hg18
  go_wp2
  go_ret
  exact ⟨rfl, k18⟩

end Go.Proofs.Ythddlamihihphaa
