/- Beside the document's answer: sums, differences, halves and negatives: the walk of the law FixAdds. -/
import Derived.Test.YthddlamihihphaaFixR
import Derived.Test.YthddlamihihphaaFixE
namespace Go.Proofs.Ythddlamihihphaa
open Go.RowKit Go.Proofs.Wd
set_option linter.unusedVariables false
set_option linter.unusedSimpArgs false
attribute [local go_sem ↓] Go.wp_at_zero Go.wp_at_succ

set_option maxHeartbeats 400000 in
theorem lawSame (n : Int) (c : Bool) (w : World) :
    Calls Try.prog 17 #[.int .i64 n, .bool c, .int .i64 n, .bool c] w fun e w' => e = .returned (.bool true) ∧ Grown w w' := by
  cases c <;> (go_enter Try.func17, Try.ntmps17; go_wp2; go_ret; exact ⟨rfl, Grown.refl _⟩)

set_option maxHeartbeats 2000000 in
theorem lawAdds (a b : Int) (ha : I64 a) (hb : I64 b) (w : World) :
    Calls Try.prog 3 #[.int .i64 a, .int .i64 b] w fun e w' => e = .returned (.bool true) ∧ Grown w w' := by
  have P1 := hide (fun w => fixAdd a b ha hb w)
  have R1 := hide (fun w => refAdd2 a b ha hb w)
  obtain ⟨u1, hu1⟩ : ∃ u, fitI (tk a + tk b) = u := ⟨_, rfl⟩
  obtain ⟨v1, hv1⟩ : ∃ v, cutB (tk a + tk b) a b = v := ⟨_, rfl⟩
  rw [hu1, hv1] at P1 R1
  clear hu1 hv1
  have S1 := hide (fun w => lawSame u1 v1 w)
  have P2 := hide (fun w => fixSub a b ha hb w)
  have R2 := hide (fun w => refSub2 a b ha hb w)
  obtain ⟨u2, hu2⟩ : ∃ u, fitI (tk a - tk b) = u := ⟨_, rfl⟩
  obtain ⟨v2, hv2⟩ : ∃ v, cutB (tk a - tk b) a b = v := ⟨_, rfl⟩
  rw [hu2, hv2] at P2 R2
  clear hu2 hv2
  have S2 := hide (fun w => lawSame u2 v2 w)
  have P3 := hide (fun w => fixHalf a b ha hb w)
  have R3 := hide (fun w => refHalf2 a b ha hb w)
  obtain ⟨u3, hu3⟩ : ∃ u, fitI (rdiv (tk a + tk b) 2) = u := ⟨_, rfl⟩
  obtain ⟨v3, hv3⟩ : ∃ v, cutB (rdiv (tk a + tk b) 2) a b = v := ⟨_, rfl⟩
  rw [hu3, hv3] at P3 R3
  clear hu3 hv3
  have S3 := hide (fun w => lawSame u3 v3 w)
  have P4 := hide (fun w => fixNeg a ha w)
  have R4 := hide (fun w => refNeg2 a ha w)
  obtain ⟨u4, hu4⟩ : ∃ u, fitI (tk 0 - tk a) = u := ⟨_, rfl⟩
  obtain ⟨v4, hv4⟩ : ∃ v, cutB (tk 0 - tk a) 0 a = v := ⟨_, rfl⟩
  rw [hu4, hv4] at P4 R4
  clear hu4 hv4
  have S4 := hide (fun w => lawSame u4 v4 w)
  have W := hide (fun w => lawAwake w)
  clear ha hb
  go_enter Try.func3, Try.ntmps3
  go_wp2_with fail
  refine (unhide P1 _).mono ?_
  rintro e w1 ⟨rfl, hg1⟩
  have k1 : Grown w w1 := hg1
  go_wp2_with fail
  refine (unhide R1 _).mono ?_
  rintro e w2 ⟨rfl, hg2⟩
  have k2 : Grown w w2 := gtrans k1 hg2
  clear k1 hg2
  go_wp2_with fail
  refine (unhide P2 _).mono ?_
  rintro e w3 ⟨rfl, hg3⟩
  have k3 : Grown w w3 := gtrans k2 hg3
  clear k2 hg3
  go_wp2_with fail
  refine (unhide R2 _).mono ?_
  rintro e w4 ⟨rfl, hg4⟩
  have k4 : Grown w w4 := gtrans k3 hg4
  clear k3 hg4
  go_wp2_with fail
  refine (unhide P3 _).mono ?_
  rintro e w5 ⟨rfl, hg5⟩
  have k5 : Grown w w5 := gtrans k4 hg5
  clear k4 hg5
  go_wp2_with fail
  refine (unhide R3 _).mono ?_
  rintro e w6 ⟨rfl, hg6⟩
  have k6 : Grown w w6 := gtrans k5 hg6
  clear k5 hg6
  go_wp2_with fail
  refine (unhide P4 _).mono ?_
  rintro e w7 ⟨rfl, hg7⟩
  have k7 : Grown w w7 := gtrans k6 hg7
  clear k6 hg7
  go_wp2_with fail
  refine (unhide R4 _).mono ?_
  rintro e w8 ⟨rfl, hg8⟩
  have k8 : Grown w w8 := gtrans k7 hg8
  clear k7 hg8
  go_wp2_with fail
  refine (unhide S1 _).mono ?_
  rintro e w9 ⟨rfl, hg9⟩
  have k9 : Grown w w9 := gtrans k8 hg9
  clear k8 hg9
  go_wp2_with fail
  refine (unhide S2 _).mono ?_
  rintro e w10 ⟨rfl, hg10⟩
  have k10 : Grown w w10 := gtrans k9 hg10
  clear k9 hg10
  go_wp2_with fail
  refine (unhide S3 _).mono ?_
  rintro e w11 ⟨rfl, hg11⟩
  have k11 : Grown w w11 := gtrans k10 hg11
  clear k10 hg11
  go_wp2_with fail
  refine (unhide S4 _).mono ?_
  rintro e w12 ⟨rfl, hg12⟩
  have k12 : Grown w w12 := gtrans k11 hg12
  clear k11 hg12
  go_wp2_with fail
  refine (unhide W _).mono ?_
  rintro e w13 ⟨rfl, hg13⟩
  have k13 : Grown w w13 := gtrans k12 hg13
  clear k12 hg13
  go_wp2
  go_ret
  exact ⟨rfl, k13⟩

end Go.Proofs.Ythddlamihihphaa
