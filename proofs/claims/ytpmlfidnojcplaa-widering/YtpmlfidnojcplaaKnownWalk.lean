/- The chapter's examples are answered as the chapter says: the walk of the law WideKnown. -/
import Derived.Test.YtpmlfidnojcplaaWideE
namespace Go.Proofs.Ytpmlfidnojcplaa
open Go.RowKit Go.Proofs.Wd
set_option linter.unusedVariables false
set_option linter.unusedSimpArgs false

theorem div_small (m k want : Int) (hm : 0 ≤ m ∧ m < 18446744073709551616) (hk : U64 k) (h0 : 0 < k) : DivSays (mhi m % k) (loOf m) k := by
  rw [show mhi m = 0 from by unfold mhi; omega, Int.zero_emod]
  exact div64_says0 _ _ (loOf_U64 _) hk h0

set_option maxHeartbeats 2000000 in
theorem lawWideKnown (w : World) :
    Calls Try.prog 5 #[] w fun e w' => e = .returned (.bool true) ∧ Grown w w' := by
  have M1 := hide (fun w => wideMul (-3) 5 (by unfold I64; omega) (by unfold I64; omega) w)
  rw [show hiOf (-3 * 5) = -1 from by decide, show loOf (-3 * 5) = 18446744073709551601 from by decide] at M1
  have Om1 := hide (fun w => wideOf (-1) (by unfold I64; omega) w)
  rw [show hiOf (-1) = -1 from by decide, show loOf (-1) = 18446744073709551615 from by decide] at Om1
  have O1 := hide (fun w => wideOf 1 (by unfold I64; omega) w)
  rw [show hiOf 1 = 0 from by decide, show loOf 1 = 1 from by decide] at O1
  have A1 := hide (fun w => wideAdd (-1) 18446744073709551615 0 1 (by unfold I64; omega) (by unfold U64; omega) (by unfold I64; omega) (by unfold U64; omega) w)
  rw [show hiOf (val (-1) 18446744073709551615 + val 0 1) = 0 from by decide, show loOf (val (-1) 18446744073709551615 + val 0 1) = 0 from by decide] at A1
  have O7 := hide (fun w => wideOf 7 (by unfold I64; omega) w)
  rw [show hiOf 7 = 0 from by decide, show loOf 7 = 7 from by decide] at O7
  have N7 := hide (fun w => wideNeg 0 7 (by unfold I64; omega) (by unfold U64; omega) w)
  rw [show hiOf (-val 0 7) = -1 from by decide, show loOf (-val 0 7) = 18446744073709551609 from by decide] at N7
  have B1 := hide (fun w => wideRound_bad 0 1 128 (by omega) w)
  have B2 := hide (fun w => wideDiv_bad 0 1 w)
  have F1 := hide (fun w => wideFit 0 9223372036854775808 (by unfold I64; omega) (by unfold U64; omega) w)
  rw [show fitI (val 0 9223372036854775808) = 9223372036854775807 from by decide, show fitB (val 0 9223372036854775808) = true from by decide] at F1
  have Om7 := hide (fun w => wideOf (-7) (by unfold I64; omega) w)
  rw [show hiOf (-7) = -1 from by decide, show loOf (-7) = 18446744073709551609 from by decide] at Om7
  have F2 := hide (fun w => wideFit (-1) 18446744073709551609 (by unfold I64; omega) (by unfold U64; omega) w)
  rw [show fitI (val (-1) 18446744073709551609) = -7 from by decide, show fitB (val (-1) 18446744073709551609) = false from by decide] at F2
  have R1 := hide (fun w => lawRounds 7 1 4 (by unfold I64; omega) (by omega) (by omega) (by unfold I64; omega) (by decide) w)
  have R2 := hide (fun w => lawRounds (-5) 1 (-2) (by unfold I64; omega) (by omega) (by omega) (by unfold I64; omega) (by decide) w)
  have R3 := hide (fun w => lawRounds 6 2 2 (by unfold I64; omega) (by omega) (by omega) (by unfold I64; omega) (by decide) w)
  have D1 := hide (fun w => lawDivides 5 2 2 (by unfold I64; omega) (by unfold I64; omega) (by omega) (by unfold I64; omega) (by decide) (div_small (absI 5) (absI 2) 0 (by decide) (by unfold U64; decide) (by decide)) w)
  have D2 := hide (fun w => lawDivides (-7) 3 (-2) (by unfold I64; omega) (by unfold I64; omega) (by omega) (by unfold I64; omega) (by decide) (div_small (absI (-7)) (absI 3) 0 (by decide) (by unfold U64; decide) (by decide)) w)
  go_enter Try.func5, Try.ntmps5
  go_wp2_with fail
  refine (unhide M1 _).mono ?_
  rintro e w1 ⟨rfl, hg1⟩
  go_wp2_with fail
  refine (unhide Om1 _).mono ?_
  rintro e w2 ⟨rfl, hg2⟩
  go_wp2_with fail
  refine (unhide O1 _).mono ?_
  rintro e w3 ⟨rfl, hg3⟩
  go_wp2_with fail
  refine (unhide A1 _).mono ?_
  rintro e w4 ⟨rfl, hg4⟩
  have k4 := gtrans hg1 (gtrans hg2 (gtrans hg3 hg4))
  clear hg1 hg2 hg3 hg4
  go_wp2_with fail
  refine (unhide O7 _).mono ?_
  rintro e w5 ⟨rfl, hg5⟩
  go_wp2_with fail
  refine (unhide N7 _).mono ?_
  rintro e w6 ⟨rfl, hg6⟩
  go_wp2_with fail
  refine (unhide O1 _).mono ?_
  rintro e w7 ⟨rfl, hg7⟩
  go_wp2_with fail
  refine (unhide B1 _).mono ?_
  rintro e w8 ⟨rfl, hg8⟩
  have k8 := Grown.alloc (gtrans k4 (gtrans hg5 (gtrans hg6 (gtrans hg7 hg8)))) #[.int .i64 0, .int .u64 0] 24
  clear hg5 hg6 hg7 hg8 k4
  go_wp2_with fail
  refine (unhide O1 _).mono ?_
  rintro e w9 ⟨rfl, hg9⟩
  go_wp2_with fail
  refine (unhide B2 _).mono ?_
  rintro e w10 ⟨rfl, hg10⟩
  have k10 := Grown.alloc (gtrans k8 (gtrans hg9 hg10)) #[.int .i64 0, .int .u64 0] 24
  clear hg9 hg10 k8
  go_wp2_with fail
  refine (unhide F1 _).mono ?_
  rintro e w11 ⟨rfl, hg11⟩
  go_wp2_with fail
  refine (unhide Om7 _).mono ?_
  rintro e w12 ⟨rfl, hg12⟩
  go_wp2_with fail
  refine (unhide F2 _).mono ?_
  rintro e w13 ⟨rfl, hg13⟩
  have k13 := gtrans k10 (gtrans hg11 (gtrans hg12 hg13))
  clear k10 hg11 hg12 hg13
  go_wp2_with fail
  refine (lawAwake _).mono ?_
  rintro e w14 ⟨rfl, hg14⟩
  go_wp2_with fail
  refine (unhide R1 _).mono ?_
  rintro e w15 ⟨rfl, hg15⟩
  go_wp2_with fail
  refine (unhide R2 _).mono ?_
  rintro e w16 ⟨rfl, hg16⟩
  go_wp2_with fail
  refine (unhide R3 _).mono ?_
  rintro e w17 ⟨rfl, hg17⟩
  go_wp2_with fail
  refine (unhide D1 _).mono ?_
  rintro e w18 ⟨rfl, hg18⟩
  go_wp2_with fail
  refine (unhide D2 _).mono ?_
  rintro e w19 ⟨rfl, hg19⟩
  go_wp2
  go_ret
  exact ⟨rfl, gtrans k13 (gtrans hg14 (gtrans hg15 (gtrans hg16 (gtrans hg17 (gtrans hg18 hg19)))))⟩

end Go.Proofs.Ytpmlfidnojcplaa
