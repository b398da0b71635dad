/- Sums and products do not hang on order and sign: the walk of the law FixSame. -/
import Derived.Test.YthddlamihihphaaFixKnownWalk
import Derived.Test.YthddlamihihphaaFixNear
namespace Go.Proofs.Ythddlamihihphaa
open Go.RowKit Go.Proofs.Wd
set_option linter.unusedVariables false
set_option linter.unusedSimpArgs false
attribute [local go_sem ↓] Go.wp_at_zero Go.wp_at_succ

theorem wrap_neg (a : Int) (h : Fx a) : wrap64 (-a) = -a := by unfold Fx at h; simp only [wrap64]; omega

set_option maxHeartbeats 400000 in
theorem lawMirror (n m : Int) (c : Bool) (hm : wrap64 (-m) = n) (w : World) :
    Calls Try.prog 29 #[.int .i64 n, .bool c, .int .i64 m, .bool c] w fun e w' => e = .returned (.bool true) ∧ Grown w w' := by
  cases c <;> (go_enter Try.func29, Try.ntmps29; go_wp2; (try simp only [hm]); go_wp2; go_ret; exact ⟨rfl, Grown.refl _⟩)

set_option maxHeartbeats 4000000 in
set_option maxRecDepth 100000 in
theorem lawSameWalk (a b : Int) (ha : I64 a) (hb : I64 b) (w : World) :
    Calls Try.prog 6 #[.int .i64 a, .int .i64 b] w fun e w' => e = .returned (.bool true) ∧ Grown w w' := by
  have K := hide (fun w => lawKnown w)
  by_cases h1 : a < -9223372036854775807
  · have d1 : decide (a < -9223372036854775807) = true := by simp [h1]
    go_enter Try.func6, Try.ntmps6
    go_wp2_with fail
    refine (unhide K _).mono ?_
    rintro e w1 ⟨rfl, k1⟩
    go_wp2
    go_ret
    exact ⟨rfl, k1⟩
  by_cases h2 : b < -9223372036854775807
  · have d1 : decide (a < -9223372036854775807) = false := by simp; omega
    have d2 : decide (b < -9223372036854775807) = true := by simp [h2]
    go_enter Try.func6, Try.ntmps6
    go_wp2_with fail
    refine (unhide K _).mono ?_
    rintro e w1 ⟨rfl, k1⟩
    go_wp2
    go_ret
    exact ⟨rfl, k1⟩
  have fa : Fx a := by unfold I64 at ha; unfold Fx; omega
  have fb : Fx b := by unfold I64 at hb; unfold Fx; omega
  have fa' : Fx (-a) := by unfold Fx at *; omega
  have fb' : Fx (-b) := by unfold Fx at *; omega
  have d1 : decide (a < -9223372036854775807) = false := by simp; omega
  have d2 : decide (b < -9223372036854775807) = false := by simp; omega
  have ea := wrap_neg a fa; have eb := wrap_neg b fb
  have C1 := hide (fun w => fixAdd a b (Fx_I64 fa) (Fx_I64 fb) w)
  rw [tk_of _ fa, tk_of _ fb, cutB_of _ _ _ fa fb] at C1
  have C2 := hide (fun w => fixAdd b a (Fx_I64 fb) (Fx_I64 fa) w)
  rw [tk_of _ fb, tk_of _ fa, cutB_of _ _ _ fb fa, Int.add_comm b a] at C2
  have C3 := hide (fun w => fixMul a b (Fx_I64 fa) (Fx_I64 fb) w)
  rw [tk_of _ fa, tk_of _ fb, cutB_of _ _ _ fa fb] at C3
  have C4 := hide (fun w => fixMul b a (Fx_I64 fb) (Fx_I64 fa) w)
  rw [tk_of _ fb, tk_of _ fa, cutB_of _ _ _ fb fa, Int.mul_comm b a] at C4
  have C5 := hide (fun w => fixAdd (-a) (-b) (Fx_I64 fa') (Fx_I64 fb') w)
  rw [tk_of _ fa', tk_of _ fb', cutB_of _ _ _ fa' fb', show -a + -b = -(a + b) from by omega, fitI_neg, fitB_neg] at C5
  have C6 := hide (fun w => fixMul (-a) (-b) (Fx_I64 fa') (Fx_I64 fb') w)
  rw [tk_of _ fa', tk_of _ fb', cutB_of _ _ _ fa' fb', Int.neg_mul_neg] at C6
  have C7 := hide (fun w => fixSub a b (Fx_I64 fa) (Fx_I64 fb) w)
  rw [tk_of _ fa, tk_of _ fb, cutB_of _ _ _ fa fb] at C7
  have C8 := hide (fun w => fixSub b a (Fx_I64 fb) (Fx_I64 fa) w)
  rw [tk_of _ fb, tk_of _ fa, cutB_of _ _ _ fb fa, show b - a = -(a - b) from by omega, fitI_neg, fitB_neg] at C8
  obtain ⟨S, hS⟩ : ∃ S, a + b = S := ⟨_, rfl⟩
  obtain ⟨D, hD⟩ : ∃ D, a - b = D := ⟨_, rfl⟩
  obtain ⟨M, hM⟩ : ∃ M, rdiv (a * b) 4294967296 = M := ⟨_, rfl⟩
  rw [hS] at C1 C2 C5
  rw [hM] at C3 C4 C6
  rw [hD] at C7 C8
  clear hS hD hM
  have fS := fit_Fx S; have fM := fit_Fx M; have fD := fit_Fx (-D)
  rw [fitI_neg] at fD
  obtain ⟨s, hs⟩ : ∃ s, fitI S = s := ⟨_, rfl⟩
  obtain ⟨m, hm⟩ : ∃ m, fitI M = m := ⟨_, rfl⟩
  obtain ⟨d, hd⟩ : ∃ d, fitI D = d := ⟨_, rfl⟩
  obtain ⟨s', hs'⟩ : ∃ s, fitB S = s := ⟨_, rfl⟩
  obtain ⟨m', hm'⟩ : ∃ m, fitB M = m := ⟨_, rfl⟩
  obtain ⟨d', hd'⟩ : ∃ d, fitB D = d := ⟨_, rfl⟩
  rw [hs, hs'] at C1 C2 C5
  rw [hm, hm'] at C3 C4 C6
  rw [hd, hd'] at C7 C8
  rw [hs] at fS
  rw [hm] at fM
  rw [hd] at fD
  clear hs hm hd hs' hm' hd'
  have t1 : decide (-9223372036854775807 ≤ s) = true := by unfold Fx at fS; simp; omega
  have t2 : decide (-9223372036854775807 ≤ m) = true := by unfold Fx at fM; simp; omega
  have L1 := hide (fun w => lawIs s s' w)
  have L2 := hide (fun w => lawIs m m' w)
  have L3 := hide (fun w => lawMirror (-s) s s' (wrap_neg s fS) w)
  have L4 := hide (fun w => lawIs m m' w)
  have L5 := hide (fun w => lawMirror d (-d) d' (by rw [wrap_neg _ fD]; omega) w)
  have zz : Fx 0 := by unfold Fx; omega
  have oo : Fx 4294967296 := by unfold Fx; omega
  have fi := fit_inF a fa
  have fz := fit_inF 0 zz
  have Q1 := hide (fun w => lawSum a 0 a false ha (Fx_I64 zz) (by rw [tk_of a fa, tk_of 0 zz, Int.add_zero]; exact fi.1) (by rw [tk_of a fa, tk_of 0 zz, Int.add_zero, cutB_of _ _ _ fa zz]; exact fi.2) w)
  have Q2 := hide (fun w => lawTimes a 4294967296 a false ha (Fx_I64 oo) (by rw [tk_of a fa, tk_of _ oo, rdiv_mul a _ (by omega)]; exact fi.1) (by rw [tk_of a fa, tk_of _ oo, rdiv_mul a _ (by omega), cutB_of _ _ _ fa oo]; exact fi.2) w)
  have Q3 := hide (fun w => lawOver a 4294967296 a false ha (Fx_I64 oo) (by rw [tk_of a fa, tk_of _ oo]; unfold quoR; rw [if_neg (by omega), rdiv_mul a _ (by omega)]; exact fi.1) (by rw [tk_of a fa, tk_of _ oo]; unfold quoR; rw [if_neg (by omega), rdiv_mul a _ (by omega), cutB_of _ _ _ fa oo, fi.2]; decide) w)
  have Q4 := hide (fun w => lawTimes a 0 0 false ha (Fx_I64 zz) (by rw [tk_of a fa, tk_of 0 zz, Int.mul_zero]; decide) (by rw [tk_of a fa, tk_of 0 zz, Int.mul_zero, cutB_of _ _ _ fa zz]; decide) w)
  have Q5 := hide (fun w => lawHalf a a a false ha ha (by rw [tk_of a fa, show a + a = a * 2 from by omega, rdiv_mul a 2 (by omega)]; exact fi.1) (by rw [tk_of a fa, show a + a = a * 2 from by omega, rdiv_mul a 2 (by omega), cutB_of _ _ _ fa fa]; exact fi.2) w)
  clear fi fz zz oo fS fM fD fa fb fa' fb' ha hb
  go_enter Try.func6, Try.ntmps6
  go_wp2_with fail
  refine (unhide K _).mono ?_
  rintro e w1 ⟨rfl, hg1⟩
  have k1 : Grown w w1 := hg1
  go_wp2_with fail
  refine (unhide C1 _).mono ?_
  rintro e w2 ⟨rfl, hg2⟩
  have k2 : Grown w w2 := gtrans k1 hg2
  clear k1 hg2
  go_wp2_with fail
  refine (unhide C2 _).mono ?_
  rintro e w3 ⟨rfl, hg3⟩
  have k3 : Grown w w3 := gtrans k2 hg3
  clear k2 hg3
  go_wp2_with fail
  refine (unhide C3 _).mono ?_
  rintro e w4 ⟨rfl, hg4⟩
  have k4 : Grown w w4 := gtrans k3 hg4
  clear k3 hg4
  go_wp2_with fail
  refine (unhide C4 _).mono ?_
  rintro e w5 ⟨rfl, hg5⟩
  have k5 : Grown w w5 := gtrans k4 hg5
  clear k4 hg5
  go_wp2_with fail
  (try rw [ea, eb])
  refine (unhide C5 _).mono ?_
  rintro e w6 ⟨rfl, hg6⟩
  have k6 : Grown w w6 := gtrans k5 hg6
  clear k5 hg6
  go_wp2_with fail
  (try rw [ea, eb])
  refine (unhide C6 _).mono ?_
  rintro e w7 ⟨rfl, hg7⟩
  have k7 : Grown w w7 := gtrans k6 hg7
  clear k6 hg7
  go_wp2_with fail
  refine (unhide C7 _).mono ?_
  rintro e w8 ⟨rfl, hg8⟩
  have k8 : Grown w w8 := gtrans k7 hg8
  clear k7 hg8
  go_wp2_with fail
  refine (unhide C8 _).mono ?_
  rintro e w9 ⟨rfl, hg9⟩
  have k9 : Grown w w9 := gtrans k8 hg9
  clear k8 hg9
  go_wp2_with fail
  refine (unhide L1 _).mono ?_
  rintro e w10 ⟨rfl, hg10⟩
  have k10 : Grown w w10 := gtrans k9 hg10
  clear k9 hg10
  go_wp2_with fail
  refine (unhide L2 _).mono ?_
  rintro e w11 ⟨rfl, hg11⟩
  have k11 : Grown w w11 := gtrans k10 hg11
  clear k10 hg11
  go_wp2_with fail
  refine (unhide L3 _).mono ?_
  rintro e w12 ⟨rfl, hg12⟩
  have k12 : Grown w w12 := gtrans k11 hg12
  clear k11 hg12
  go_wp2_with fail
  refine (unhide L4 _).mono ?_
  rintro e w13 ⟨rfl, hg13⟩
  have k13 : Grown w w13 := gtrans k12 hg13
  clear k12 hg13
  go_wp2_with fail
  refine (unhide L5 _).mono ?_
  rintro e w14 ⟨rfl, hg14⟩
  have k14 : Grown w w14 := gtrans k13 hg14
  clear k13 hg14
  go_wp2_with fail
  refine (unhide Q1 _).mono ?_
  rintro e w15 ⟨rfl, hg15⟩
  have k15 : Grown w w15 := gtrans k14 hg15
  clear k14 hg15
  go_wp2_with fail
  refine (unhide Q2 _).mono ?_
  rintro e w16 ⟨rfl, hg16⟩
  have k16 : Grown w w16 := gtrans k15 hg16
  clear k15 hg16
  go_wp2_with fail
  refine (unhide Q3 _).mono ?_
  rintro e w17 ⟨rfl, hg17⟩
  have k17 : Grown w w17 := gtrans k16 hg17
  clear k16 hg17
  go_wp2_with fail
  refine (unhide Q4 _).mono ?_
  rintro e w18 ⟨rfl, hg18⟩
  have k18 : Grown w w18 := gtrans k17 hg18
  clear k17 hg18
  go_wp2_with fail
  refine (unhide Q5 _).mono ?_
  rintro e w19 ⟨rfl, hg19⟩
  have k19 : Grown w w19 := gtrans k18 hg19
  clear k18 hg19
  go_wp2
  go_ret
  exact ⟨rfl, k19⟩

end Go.Proofs.Ythddlamihihphaa
