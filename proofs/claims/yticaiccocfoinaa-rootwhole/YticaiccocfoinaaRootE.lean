/- The helpers is and awake of stage 3's laws, and the walk of the law RootKnown: the chapter's examples. -/
import Derived.Test.YticaiccocfoinaaRootB
namespace Go.Proofs.Yticaiccocfoinaa
open Go.RowKit Go.Proofs.Wd
set_option linter.unusedVariables false
set_option linter.unusedSimpArgs false

theorem nr_dn (v r : Int) (h : IsRt v r) (c : ¬ r * r + r < v) : nr v = r := by unfold nr; rw [rt_eq v r h, if_neg c]
theorem nr_up (v r : Int) (h : IsRt v r) (c : r * r + r < v) : nr v = r + 1 := by unfold nr; rw [rt_eq v r h, if_pos c]

set_option maxHeartbeats 400000 in
theorem rootIs (a want : Int) (ha : I64 a) (h0 : 0 ≤ a) (h : sqN a = want) (w : World) :
    Calls Try.prog 17 #[.int .i64 a, .int .i64 want] w fun e w' => e = .returned (.bool true) ∧ Grown w w' := by
  have S := hide (fun w => rootSqrt a ha w)
  rw [h, show decide (a < 0) = false from by simpa using h0] at S
  clear h h0 ha
  go_enter Try.func17, Try.ntmps17
  go_wp2_with fail
  refine (unhide S _).mono ?_
  rintro e w1 ⟨rfl, hg1⟩
  have k1 : Grown w w1 := hg1
  clear hg1
  go_wp2
  go_ret
  exact ⟨rfl, k1⟩

theorem sq4 : sqN 17179869184 = 8589934592 := by unfold sqN; rw [if_neg (by decide)]; exact nr_dn _ _ (by unfold IsRt; omega) (by omega)
theorem sq2 : sqN 8589934592 = 6074001000 := by unfold sqN; rw [if_neg (by decide)]; exact nr_up _ 6074000999 (by unfold IsRt; omega) (by omega)
theorem sq1 : sqN 1 = 65536 := by unfold sqN; rw [if_neg (by decide)]; exact nr_dn _ _ (by unfold IsRt; omega) (by omega)
theorem wh_of (v r : Int) (h1 : v < 85070591730234615865843651857942052864) (h : IsRt v r) : whN v = r ∧ whE v = 0 := by
  have h0 : 0 ≤ v := by obtain ⟨a, b, c⟩ := h; have := Int.mul_nonneg a a; omega
  rw [(wh_good v ⟨h0, h1⟩).1, (wh_good v ⟨h0, h1⟩).2]
  exact ⟨rt_eq v r h, rfl⟩

set_option maxHeartbeats 400000 in
theorem rootAwake (w : World) :
    Calls Try.prog 14 #[] w fun e w' => e = .returned (.bool true) ∧ Grown w w' := by
  have O := hide (fun w => wideOf 15 (by unfold I64; omega) w)
  have W := hide (fun w => rootWhole 15 w)
  rw [wrapW_in 15 (by omega), (wh_of 15 3 (by omega) (by unfold IsRt; omega)).1, (wh_of 15 3 (by omega) (by unfold IsRt; omega)).2] at W
  have I1 := hide (fun w => rootIs 17179869184 8589934592 (by unfold I64; omega) (by omega) sq4 w)
  have I2 := hide (fun w => rootIs 8589934592 6074001000 (by unfold I64; omega) (by omega) sq2 w)
  go_enter Try.func14, Try.ntmps14
  go_wp2_with fail
  refine (unhide O _).mono ?_
  rintro e w1 ⟨rfl, hg1⟩
  have k1 : Grown w w1 := hg1
  clear hg1
  go_wp2_with fail
  refine (unhide W _).mono ?_
  rintro e w2 ⟨rfl, hg2⟩
  have k2 : Grown w w2 := gtrans k1 hg2
  clear hg2 k1
  go_wp2_with fail
  refine (unhide I1 _).mono ?_
  rintro e w3 ⟨rfl, hg3⟩
  have k3 : Grown w w3 := gtrans k2 hg3
  clear hg3 k2
  go_wp2_with fail
  refine (unhide I2 _).mono ?_
  rintro e w4 ⟨rfl, hg4⟩
  have k4 : Grown w w4 := gtrans k3 hg4
  clear hg4 k3
  go_wp2
  go_ret
  exact ⟨rfl, k4⟩

set_option maxHeartbeats 2000000 in
set_option maxRecDepth 100000 in
theorem lawRootKnown (w : World) :
    Calls Try.prog 4 #[] w fun e w' => e = .returned (.bool true) ∧ Grown w w' := by
  have C1 := hide (fun w => wideOf 16 (by unfold I64; omega) w)
  have C2 := hide (fun w => rootWhole 16 w)
  rw [wrapW_in 16 (by omega), (wh_of 16 4 (by omega) (by unfold IsRt; omega)).1, (wh_of 16 4 (by omega) (by unfold IsRt; omega)).2] at C2
  have C3 := hide (fun w => wideMul 4611686018427387904 4611686018427387904 (by unfold I64; omega) (by unfold I64; omega) w)
  rw [show (4611686018427387904 : Int) * 4611686018427387904 = 21267647932558653966460912964485513216 from by omega] at C3
  have C4 := hide (fun w => rootWhole 21267647932558653966460912964485513216 w)
  rw [wrapW_in 21267647932558653966460912964485513216 (by omega), (wh_of 21267647932558653966460912964485513216 4611686018427387904 (by omega) (by unfold IsRt; omega)).1, (wh_of 21267647932558653966460912964485513216 4611686018427387904 (by omega) (by unfold IsRt; omega)).2] at C4
  have C5 := hide (fun w => rootWhole_hl 4611686018427387904 0 (by unfold I64; omega) (by unfold U64; omega) w)
  rw [(wh_bad (val 4611686018427387904 0) (by unfold val; omega)).1, (wh_bad (val 4611686018427387904 0) (by unfold val; omega)).2] at C5
  have C6 := hide (fun w => wideOf (-1) (by unfold I64; omega) w)
  have C7 := hide (fun w => rootWhole (-1) w)
  rw [wrapW_in (-1) (by omega), (wh_bad (-1) (by omega)).1, (wh_bad (-1) (by omega)).2] at C7
  have C8 := hide (fun w => rootSqrt (-1) (by unfold I64; omega) w)
  rw [show sqN (-1) = 0 from by unfold sqN; rw [if_pos (by omega)], show decide ((-1 : Int) < 0) = true from by decide] at C8
  have C9 := hide (fun w => rootHypot 12884901888 (-17179869184) (by unfold I64; omega) (by unfold I64; omega) w)
  have n9 : nr (hyp 12884901888 (-17179869184)) = 21474836480 := by
    rw [show hyp 12884901888 (-17179869184) = 461168601842738790400 from by decide]
    exact nr_dn _ _ (by unfold IsRt; omega) (by omega)
  rw [n9, show fitI 21474836480 = 21474836480 from by decide, show (fitB 21474836480 || nb 12884901888 || nb (-17179869184)) = false from by decide] at C9
  have C10 := hide (fun w => rootHypot 9223372036854775807 9223372036854775807 (by unfold I64; omega) (by unfold I64; omega) w)
  have n10 := nr_fit (hyp 9223372036854775807 9223372036854775807) (by rw [show hyp 9223372036854775807 9223372036854775807 = 170141183460469231694793815568465002498 from by decide]; omega)
  rw [n10.1, n10.2, Bool.true_or, Bool.true_or] at C10
  have C11 := hide (fun w => rootAwake w)
  have C12 := hide (fun w => rootIs 1 65536 (by unfold I64; omega) (by omega) sq1 w)
  clear n9 n10
  go_enter Try.func4, Try.ntmps4
  go_wp2_with fail
  refine (unhide C1 _).mono ?_
  rintro e w1 ⟨rfl, hg1⟩
  have k1 : Grown w w1 := hg1
  clear hg1
  go_wp2_with fail
  refine (unhide C2 _).mono ?_
  rintro e w2 ⟨rfl, hg2⟩
  have k2 : Grown w w2 := gtrans k1 hg2
  clear hg2 k1
  go_wp2_with fail
  refine (unhide C3 _).mono ?_
  rintro e w3 ⟨rfl, hg3⟩
  have k3 : Grown w w3 := gtrans k2 hg3
  clear hg3 k2
  go_wp2_with fail
  refine (unhide C4 _).mono ?_
  rintro e w4 ⟨rfl, hg4⟩
  have k4 : Grown w w4 := gtrans k3 hg4
  clear hg4 k3
  go_wp2_with fail
  refine (unhide C5 _).mono ?_
  rintro e w5 ⟨rfl, hg5⟩
  have k5 : Grown w w5 := gtrans k4 hg5
  clear hg5 k4
  go_wp2_with fail
  refine (unhide C6 _).mono ?_
  rintro e w6 ⟨rfl, hg6⟩
  have k6 : Grown w w6 := gtrans k5 hg6
  clear hg6 k5
  go_wp2_with fail
  refine (unhide C7 _).mono ?_
  rintro e w7 ⟨rfl, hg7⟩
  have k7 : Grown w w7 := gtrans k6 hg7
  clear hg7 k6
  go_wp2_with fail
  refine (unhide C8 _).mono ?_
  rintro e w8 ⟨rfl, hg8⟩
  have k8 : Grown w w8 := gtrans k7 hg8
  clear hg8 k7
  go_wp2_with fail
  refine (unhide C9 _).mono ?_
  rintro e w9 ⟨rfl, hg9⟩
  have k9 : Grown w w9 := gtrans k8 hg9
  clear hg9 k8
  go_wp2_with fail
  refine (unhide C10 _).mono ?_
  rintro e w10 ⟨rfl, hg10⟩
  have k10 : Grown w w10 := gtrans k9 hg10
  clear hg10 k9
  go_wp2_with fail
  refine (unhide C11 _).mono ?_
  rintro e w11 ⟨rfl, hg11⟩
  have k11 : Grown w w11 := gtrans k10 hg11
  clear hg11 k10
  go_wp2_with fail
  refine (unhide C12 _).mono ?_
  rintro e w12 ⟨rfl, hg12⟩
  have k12 : Grown w w12 := gtrans k11 hg12
  clear hg12 k11
  go_wp2
  go_ret
  exact ⟨rfl, k12⟩

end Go.Proofs.Yticaiccocfoinaa
