/- What was added is taken away again; what was divided is multiplied again: the walk of the law FixBack. -/
import Derived.Test.YthddlamihihphaaFixE
import Derived.Test.YthddlamihihphaaFixNear
namespace Go.Proofs.Ythddlamihihphaa
open Go.RowKit Go.Proofs.Wd
set_option linter.unusedVariables false
set_option linter.unusedSimpArgs false
attribute [local go_sem ↓] Go.wp_at_zero Go.wp_at_succ

set_option maxHeartbeats 400000 in
theorem lawApart (a b : Int) (ha : I64 a) (hb : I64 b) (w : World) :
    Calls Try.prog 31 #[.int .i64 a, .int .i64 b] w fun e w' => e = .returned (.int .u64 (absI (a - b))) ∧ Grown w w' := by
  unfold I64 at ha hb
  by_cases h : b < a
  · go_enter Try.func31, Try.ntmps31
    go_wp2
    go_ret
    exact ⟨ret_int (by unfold absI; simp only [IntKind.wrap_u64]; rw [if_neg (by omega)]; omega), Grown.refl _⟩
  · go_enter Try.func31, Try.ntmps31
    go_wp2
    go_ret
    exact ⟨ret_int (by unfold absI; simp only [IntKind.wrap_u64]; split <;> omega), Grown.refl _⟩

set_option maxHeartbeats 4000000 in
set_option maxRecDepth 100000 in
theorem lawBack (a b : Int) (ha : I64 a) (hb : I64 b) (w : World) :
    Calls Try.prog 8 #[.int .i64 a, .int .i64 b] w fun e w' => e = .returned (.bool true) ∧ Grown w w' := by
  have W := hide (fun w => lawAwake w)
  by_cases h1 : a < -9223372036854775807
  · have d1 : decide (a < -9223372036854775807) = true := by simp [h1]
    go_enter Try.func8, Try.ntmps8
    go_wp2_with fail
    refine (unhide W _).mono ?_
    rintro e w1 ⟨rfl, hg1⟩
    have k1 : Grown w w1 := hg1
    go_wp2
    go_ret
    exact ⟨rfl, k1⟩
  by_cases h2 : b < -9223372036854775807
  · have d1 : decide (a < -9223372036854775807) = false := by simp; omega
    have d2 : decide (b < -9223372036854775807) = true := by simp [h2]
    go_enter Try.func8, Try.ntmps8
    go_wp2_with fail
    refine (unhide W _).mono ?_
    rintro e w1 ⟨rfl, hg1⟩
    have k1 : Grown w w1 := hg1
    go_wp2
    go_ret
    exact ⟨rfl, k1⟩
  have fa : Fx a := by unfold I64 at ha; unfold Fx; omega
  have fb : Fx b := by unfold I64 at hb; unfold Fx; omega
  have d1 : decide (a < -9223372036854775807) = false := by simp; omega
  have d2 : decide (b < -9223372036854775807) = false := by simp; omega
  have A1 := hide (fun w => fixAdd a b ha hb w)
  have Q1 := hide (fun w => fixDiv a b ha hb w)
  rw [tk_of a fa, tk_of b fb, cutB_of _ _ _ fa fb] at A1 Q1
  -- what was added
  have S1 : fitB (a + b) = false → Hid (∀ w, Calls Try.prog 11 #[.int .i64 (fitI (a + b)), .int .i64 b] w fun e w' => e = .returned (.tuple #[.int .i64 a, .bool false]) ∧ Grown w w') := by
    intro h w
    have q := fit_in _ h
    have fs := fit_Fx (a + b)
    rw [q.1] at fs ⊢
    have r := fixSub (a + b) b q.2 hb w
    rw [tk_of _ fs, tk_of b fb, cutB_of _ _ _ fs fb, show a + b - b = a from by omega, (fit_inF a fa).1, (fit_inF a fa).2] at r
    exact r
  -- what was divided
  have M1 : (fitB (quoR a b) || decide (b = 0)) = false → ∃ m, Hid (∀ w, Calls Try.prog 19 #[.int .i64 (fitI (quoR a b)), .int .i64 b] w fun e w' => e = .returned (.tuple #[.int .i64 (fitI m), .bool (fitB m)]) ∧ Grown w w') ∧ (fitB m = false → absI (m - a) ≤ absI b / 8589934592 + 1) := by
    intro h
    rw [Bool.or_eq_false_iff] at h
    have hz : b ≠ 0 := by simpa using h.2
    have q := fit_in _ h.1
    have fs := fit_Fx (quoR a b)
    rw [q.1] at fs ⊢
    have e : quoR a b = rdiv (a * 4294967296) b := by unfold quoR; rw [if_neg hz]
    refine ⟨rdiv (quoR a b * b) 4294967296, fun w => ?_, fun _ => back_near a b (quoR a b) _ hz e.symm rfl⟩
    have r := fixMul (quoR a b) b q.2 hb w
    rw [tk_of _ fs, tk_of b fb, cutB_of _ _ _ fs fb] at r
    exact r
  have P2 := hide (fun w => lawApart b 0 hb (by unfold I64; omega) w)
  rw [show b - 0 = b from by omega] at P2
  have hB : 0 ≤ absI b ∧ absI b < 9223372036854775808 := by unfold Fx at fb; unfold absI; split <;> omega
  obtain ⟨n, hn⟩ : ∃ n, fitI (a + b) = n := ⟨_, rfl⟩
  obtain ⟨c, hcut⟩ : ∃ c, fitB (a + b) = c := ⟨_, rfl⟩
  obtain ⟨q, hq⟩ : ∃ q, fitI (quoR a b) = q := ⟨_, rfl⟩
  obtain ⟨f, hf⟩ : ∃ f, (fitB (quoR a b) || decide (b = 0)) = f := ⟨_, rfl⟩
  obtain ⟨B, hBB⟩ : ∃ B, absI b = B := ⟨_, rfl⟩
  rw [hn, hcut] at A1 S1
  rw [hq, hf] at Q1 M1
  rw [hBB] at M1 P2 hB
  clear hn hcut hq hf hBB h1 h2 hb fb
  cases c with
  | true =>
    clear S1
    cases f with
    | true =>
      clear M1 P2
      go_enter Try.func8, Try.ntmps8
      go_wp2_with fail
      refine (unhide W _).mono ?_
      rintro e w1 ⟨rfl, hg1⟩
      have k1 : Grown w w1 := hg1
      go_wp2_with fail
      refine (unhide A1 _).mono ?_
      rintro e w2 ⟨rfl, hg2⟩
      have k2 : Grown w w2 := gtrans k1 hg2
      clear k1 hg2
      go_wp2_with fail
      refine (unhide Q1 _).mono ?_
      rintro e w3 ⟨rfl, hg3⟩
      have k3 : Grown w w3 := gtrans k2 hg3
      clear k2 hg3
      go_wp2
      go_ret
      exact ⟨rfl, k3⟩
    | false =>
      obtain ⟨m, M2, hN⟩ := M1 rfl
      clear M1
      obtain ⟨v, hv⟩ : ∃ v, fitB m = v := ⟨_, rfl⟩
      cases v with
      | true =>
        rw [hv] at M2
        clear hN hv P2 hB
        go_enter Try.func8, Try.ntmps8
        go_wp2_with fail
        refine (unhide W _).mono ?_
        rintro e w1 ⟨rfl, hg1⟩
        have k1 : Grown w w1 := hg1
        go_wp2_with fail
        refine (unhide A1 _).mono ?_
        rintro e w2 ⟨rfl, hg2⟩
        have k2 : Grown w w2 := gtrans k1 hg2
        clear k1 hg2
        go_wp2_with fail
        refine (unhide Q1 _).mono ?_
        rintro e w3 ⟨rfl, hg3⟩
        have k3 : Grown w w3 := gtrans k2 hg3
        clear k2 hg3
        go_wp2_with fail
        refine (unhide M2 _).mono ?_
        rintro e w4 ⟨rfl, hg4⟩
        have k4 : Grown w w4 := gtrans k3 hg4
        clear k3 hg4
        go_wp2
        go_ret
        exact ⟨rfl, k4⟩
      | false =>
        have q2 := fit_in m hv
        have hN2 := hN hv
        have P1 := hide (fun w => lawApart m a q2.2 ha w)
        rw [hv, q2.1] at M2
        have hA : 0 ≤ absI (m - a) := by unfold absI; split <;> omega
        obtain ⟨A, hAA⟩ : ∃ A, absI (m - a) = A := ⟨_, rfl⟩
        rw [hAA] at hN2 P1 hA
        have dd : decide (A ≤ B / 8589934592 + 1) = true := by simp; omega
        clear hN hv hAA q2
        go_enter Try.func8, Try.ntmps8
        go_wp2_with fail
        refine (unhide W _).mono ?_
        rintro e w1 ⟨rfl, hg1⟩
        have k1 : Grown w w1 := hg1
        go_wp2_with fail
        refine (unhide A1 _).mono ?_
        rintro e w2 ⟨rfl, hg2⟩
        have k2 : Grown w w2 := gtrans k1 hg2
        clear k1 hg2
        go_wp2_with fail
        refine (unhide Q1 _).mono ?_
        rintro e w3 ⟨rfl, hg3⟩
        have k3 : Grown w w3 := gtrans k2 hg3
        clear k2 hg3
        go_wp2_with fail
        refine (unhide M2 _).mono ?_
        rintro e w4 ⟨rfl, hg4⟩
        have k4 : Grown w w4 := gtrans k3 hg4
        clear k3 hg4
        go_wp2_with fail
        refine (unhide P1 _).mono ?_
        rintro e w5 ⟨rfl, hg5⟩
        have k5 : Grown w w5 := gtrans k4 hg5
        clear k4 hg5
        go_wp2_with fail
        refine (unhide P2 _).mono ?_
        rintro e w6 ⟨rfl, hg6⟩
        have k6 : Grown w w6 := gtrans k5 hg6
        clear k5 hg6
        go_wp2
        go_ret
        exact ⟨rfl, k6⟩
  | false =>
    have S2 := S1 rfl
    clear S1
    cases f with
    | true =>
      clear M1 P2
      go_enter Try.func8, Try.ntmps8
      go_wp2_with fail
      refine (unhide W _).mono ?_
      rintro e w1 ⟨rfl, hg1⟩
      have k1 : Grown w w1 := hg1
      go_wp2_with fail
      refine (unhide A1 _).mono ?_
      rintro e w2 ⟨rfl, hg2⟩
      have k2 : Grown w w2 := gtrans k1 hg2
      clear k1 hg2
      go_wp2_with fail
      refine (unhide S2 _).mono ?_
      rintro e w3 ⟨rfl, hg3⟩
      have k3 : Grown w w3 := gtrans k2 hg3
      clear k2 hg3
      go_wp2_with fail
      refine (unhide Q1 _).mono ?_
      rintro e w4 ⟨rfl, hg4⟩
      have k4 : Grown w w4 := gtrans k3 hg4
      clear k3 hg4
      go_wp2
      go_ret
      exact ⟨rfl, k4⟩
    | false =>
      obtain ⟨m, M2, hN⟩ := M1 rfl
      clear M1
      obtain ⟨v, hv⟩ : ∃ v, fitB m = v := ⟨_, rfl⟩
      cases v with
      | true =>
        rw [hv] at M2
        clear hN hv P2 hB
        go_enter Try.func8, Try.ntmps8
        go_wp2_with fail
        refine (unhide W _).mono ?_
        rintro e w1 ⟨rfl, hg1⟩
        have k1 : Grown w w1 := hg1
        go_wp2_with fail
        refine (unhide A1 _).mono ?_
        rintro e w2 ⟨rfl, hg2⟩
        have k2 : Grown w w2 := gtrans k1 hg2
        clear k1 hg2
        go_wp2_with fail
        refine (unhide S2 _).mono ?_
        rintro e w3 ⟨rfl, hg3⟩
        have k3 : Grown w w3 := gtrans k2 hg3
        clear k2 hg3
        go_wp2_with fail
        refine (unhide Q1 _).mono ?_
        rintro e w4 ⟨rfl, hg4⟩
        have k4 : Grown w w4 := gtrans k3 hg4
        clear k3 hg4
        go_wp2_with fail
        refine (unhide M2 _).mono ?_
        rintro e w5 ⟨rfl, hg5⟩
        have k5 : Grown w w5 := gtrans k4 hg5
        clear k4 hg5
        go_wp2
        go_ret
        exact ⟨rfl, k5⟩
      | false =>
        have q2 := fit_in m hv
        have hN2 := hN hv
        have P1 := hide (fun w => lawApart m a q2.2 ha w)
        rw [hv, q2.1] at M2
        have hA : 0 ≤ absI (m - a) := by unfold absI; split <;> omega
        obtain ⟨A, hAA⟩ : ∃ A, absI (m - a) = A := ⟨_, rfl⟩
        rw [hAA] at hN2 P1 hA
        have dd : decide (A ≤ B / 8589934592 + 1) = true := by simp; omega
        clear hN hv hAA q2
        go_enter Try.func8, Try.ntmps8
        go_wp2_with fail
        refine (unhide W _).mono ?_
        rintro e w1 ⟨rfl, hg1⟩
        have k1 : Grown w w1 := hg1
        go_wp2_with fail
        refine (unhide A1 _).mono ?_
        rintro e w2 ⟨rfl, hg2⟩
        have k2 : Grown w w2 := gtrans k1 hg2
        clear k1 hg2
        go_wp2_with fail
        refine (unhide S2 _).mono ?_
        rintro e w3 ⟨rfl, hg3⟩
        have k3 : Grown w w3 := gtrans k2 hg3
        clear k2 hg3
        go_wp2_with fail
        refine (unhide Q1 _).mono ?_
        rintro e w4 ⟨rfl, hg4⟩
        have k4 : Grown w w4 := gtrans k3 hg4
        clear k3 hg4
        go_wp2_with fail
        refine (unhide M2 _).mono ?_
        rintro e w5 ⟨rfl, hg5⟩
        have k5 : Grown w w5 := gtrans k4 hg5
        clear k4 hg5
        go_wp2_with fail
        refine (unhide P1 _).mono ?_
        rintro e w6 ⟨rfl, hg6⟩
        have k6 : Grown w w6 := gtrans k5 hg6
        clear k5 hg6
        go_wp2_with fail
        refine (unhide P2 _).mono ?_
        rintro e w7 ⟨rfl, hg7⟩
        have k7 : Grown w w7 := gtrans k6 hg7
        clear k6 hg7
        go_wp2
        go_ret
        exact ⟨rfl, k7⟩

end Go.Proofs.Ythddlamihihphaa
