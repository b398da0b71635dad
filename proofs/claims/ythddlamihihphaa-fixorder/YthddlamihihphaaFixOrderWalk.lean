/- Nothing that is greater comes to less: the walk of the law FixOrder. -/
import Derived.Test.YthddlamihihphaaFixE
import Derived.Test.YthddlamihihphaaFixNear
namespace Go.Proofs.Ythddlamihihphaa
open Go.RowKit Go.Proofs.Wd
set_option linter.unusedVariables false
set_option linter.unusedSimpArgs false
attribute [local go_sem ↓] Go.wp_at_zero Go.wp_at_succ

set_option maxHeartbeats 4000000 in
set_option maxRecDepth 100000 in
theorem lawOrder_core (a b x y c : Int) (hxy : (a ≤ b ∧ x = a ∧ y = b) ∨ (b < a ∧ x = b ∧ y = a)) (ha : I64 a) (hb : I64 b) (hc : I64 c) (w : World) :
    Calls Try.prog 7 #[.int .i64 a, .int .i64 b, .int .i64 c] w fun e w' => e = .returned (.bool true) ∧ Grown w w' := by
  have hx : I64 x := by rcases hxy with ⟨_, rfl, rfl⟩ | ⟨_, rfl, rfl⟩ <;> assumption
  have hy : I64 y := by rcases hxy with ⟨_, rfl, rfl⟩ | ⟨_, rfl, rfl⟩ <;> assumption
  have hle : x ≤ y := by omega
  have ht := tk_mono x y hle hx hy
  have W := hide (fun w => lawAwake w)
  have P := hide (fun w => fixAdd x c hx hc w)
  have Q := hide (fun w => fixAdd y c hy hc w)
  have R := hide (fun w => fixHalf x c hx hc w)
  have S := hide (fun w => fixHalf y c hy hc w)
  have T := hide (fun w => fixSub c y hc hy w)
  have U := hide (fun w => fixSub c x hc hx w)
  have V := hide (fun w => fixMul x c hx hc w)
  have X := hide (fun w => fixMul y c hy hc w)
  have Y := hide (fun w => fixDiv x c hx hc w)
  have Z := hide (fun w => fixDiv y c hy hc w)
  have oP : fitI (tk x + tk c) ≤ fitI (tk y + tk c) := fitI_mono _ _ (by omega)
  have oR : fitI (rdiv (tk x + tk c) 2) ≤ fitI (rdiv (tk y + tk c) 2) := fitI_mono _ _ (rdiv_mono _ _ 2 (by omega) (by omega))
  have oT : fitI (tk c - tk y) ≤ fitI (tk c - tk x) := fitI_mono _ _ (by omega)
  have oV : 0 ≤ c → fitI (rdiv (tk x * tk c) 4294967296) ≤ fitI (rdiv (tk y * tk c) 4294967296) := fun h => fitI_mono _ _ (rdiv_mono _ _ _ (by omega) (Int.mul_le_mul_of_nonneg_right ht (by unfold I64 at hc; unfold tk; split <;> omega)))
  have oY : 0 ≤ c → fitI (quoR (tk x) (tk c)) ≤ fitI (quoR (tk y) (tk c)) := fun h => fitI_mono _ _ (quoR_mono _ _ _ (by unfold I64 at hc; unfold tk; split <;> omega) ht)
  obtain ⟨p1, eP1⟩ : ∃ z, fitI (tk x + tk c) = z := ⟨_, rfl⟩
  obtain ⟨p2, eP2⟩ : ∃ z, cutB (tk x + tk c) x c = z := ⟨_, rfl⟩
  rw [eP1, eP2] at P
  obtain ⟨q1, eQ1⟩ : ∃ z, fitI (tk y + tk c) = z := ⟨_, rfl⟩
  obtain ⟨q2, eQ2⟩ : ∃ z, cutB (tk y + tk c) y c = z := ⟨_, rfl⟩
  rw [eQ1, eQ2] at Q
  obtain ⟨r1, eR1⟩ : ∃ z, fitI (rdiv (tk x + tk c) 2) = z := ⟨_, rfl⟩
  obtain ⟨r2, eR2⟩ : ∃ z, cutB (rdiv (tk x + tk c) 2) x c = z := ⟨_, rfl⟩
  rw [eR1, eR2] at R
  obtain ⟨s1, eS1⟩ : ∃ z, fitI (rdiv (tk y + tk c) 2) = z := ⟨_, rfl⟩
  obtain ⟨s2, eS2⟩ : ∃ z, cutB (rdiv (tk y + tk c) 2) y c = z := ⟨_, rfl⟩
  rw [eS1, eS2] at S
  obtain ⟨t1, eT1⟩ : ∃ z, fitI (tk c - tk y) = z := ⟨_, rfl⟩
  obtain ⟨t2, eT2⟩ : ∃ z, cutB (tk c - tk y) c y = z := ⟨_, rfl⟩
  rw [eT1, eT2] at T
  obtain ⟨u1, eU1⟩ : ∃ z, fitI (tk c - tk x) = z := ⟨_, rfl⟩
  obtain ⟨u2, eU2⟩ : ∃ z, cutB (tk c - tk x) c x = z := ⟨_, rfl⟩
  rw [eU1, eU2] at U
  obtain ⟨v1, eV1⟩ : ∃ z, fitI (rdiv (tk x * tk c) 4294967296) = z := ⟨_, rfl⟩
  obtain ⟨v2, eV2⟩ : ∃ z, cutB (rdiv (tk x * tk c) 4294967296) x c = z := ⟨_, rfl⟩
  rw [eV1, eV2] at V
  obtain ⟨x1, eX1⟩ : ∃ z, fitI (rdiv (tk y * tk c) 4294967296) = z := ⟨_, rfl⟩
  obtain ⟨x2, eX2⟩ : ∃ z, cutB (rdiv (tk y * tk c) 4294967296) y c = z := ⟨_, rfl⟩
  rw [eX1, eX2] at X
  obtain ⟨y1, eY1⟩ : ∃ z, fitI (quoR (tk x) (tk c)) = z := ⟨_, rfl⟩
  obtain ⟨y2, eY2⟩ : ∃ z, (cutB (quoR (tk x) (tk c)) x c || decide (c = 0)) = z := ⟨_, rfl⟩
  rw [eY1, eY2] at Y
  obtain ⟨z1, eZ1⟩ : ∃ z, fitI (quoR (tk y) (tk c)) = z := ⟨_, rfl⟩
  obtain ⟨z2, eZ2⟩ : ∃ z, (cutB (quoR (tk y) (tk c)) y c || decide (c = 0)) = z := ⟨_, rfl⟩
  rw [eZ1, eZ2] at Z
  rw [eP1, eQ1] at oP
  rw [eR1, eS1] at oR
  rw [eT1, eU1] at oT
  rw [eV1, eX1] at oV
  rw [eY1, eZ1] at oY
  clear eP1 eP2 eQ1 eQ2 eR1 eR2 eS1 eS2 eT1 eT2 eU1 eU2 eV1 eV2 eX1 eX2 eY1 eY2 eZ1 eZ2 ht hx hy hle ha hb hc
  have dP : decide (q1 < p1) = false := by simp; omega
  have dR : decide (s1 < r1) = false := by simp; omega
  have dT : decide (u1 < t1) = false := by simp; omega
  clear oP oR oT
  rcases hxy with ⟨h, rfl, rfl⟩ | ⟨h, rfl, rfl⟩
  · have dh : decide (y < x) = false := by simp; omega
    by_cases hc : c < 0
    · have dc : decide (c < 0) = true := by simp [hc]
      clear oV oY
      go_enter Try.func7, Try.ntmps7
      go_wp2_with fail
      refine (unhide W _).mono ?_
      rintro e w1 ⟨rfl, hg1⟩
      have k1 : Grown w w1 := hg1
      go_wp2_with fail
      refine (unhide P _).mono ?_
      rintro e w2 ⟨rfl, hg2⟩
      have k2 : Grown w w2 := gtrans k1 hg2
      clear k1 hg2
      go_wp2_with fail
      refine (unhide Q _).mono ?_
      rintro e w3 ⟨rfl, hg3⟩
      have k3 : Grown w w3 := gtrans k2 hg3
      clear k2 hg3
      go_wp2_with fail
      refine (unhide R _).mono ?_
      rintro e w4 ⟨rfl, hg4⟩
      have k4 : Grown w w4 := gtrans k3 hg4
      clear k3 hg4
      go_wp2_with fail
      refine (unhide S _).mono ?_
      rintro e w5 ⟨rfl, hg5⟩
      have k5 : Grown w w5 := gtrans k4 hg5
      clear k4 hg5
      go_wp2_with fail
      refine (unhide T _).mono ?_
      rintro e w6 ⟨rfl, hg6⟩
      have k6 : Grown w w6 := gtrans k5 hg6
      clear k5 hg6
      go_wp2_with fail
      refine (unhide U _).mono ?_
      rintro e w7 ⟨rfl, hg7⟩
      have k7 : Grown w w7 := gtrans k6 hg7
      clear k6 hg7
      go_wp2
      go_ret
      exact ⟨rfl, k7⟩
    · have dc : decide (c < 0) = false := by simp; omega
      have dV : decide (v1 ≤ x1) = true := by have := oV (by omega); simp; omega
      have dY : decide (y1 ≤ z1) = true := by have := oY (by omega); simp; omega
      clear oV oY
      go_enter Try.func7, Try.ntmps7
      go_wp2_with fail
      refine (unhide W _).mono ?_
      rintro e w1 ⟨rfl, hg1⟩
      have k1 : Grown w w1 := hg1
      go_wp2_with fail
      refine (unhide P _).mono ?_
      rintro e w2 ⟨rfl, hg2⟩
      have k2 : Grown w w2 := gtrans k1 hg2
      clear k1 hg2
      go_wp2_with fail
      refine (unhide Q _).mono ?_
      rintro e w3 ⟨rfl, hg3⟩
      have k3 : Grown w w3 := gtrans k2 hg3
      clear k2 hg3
      go_wp2_with fail
      refine (unhide R _).mono ?_
      rintro e w4 ⟨rfl, hg4⟩
      have k4 : Grown w w4 := gtrans k3 hg4
      clear k3 hg4
      go_wp2_with fail
      refine (unhide S _).mono ?_
      rintro e w5 ⟨rfl, hg5⟩
      have k5 : Grown w w5 := gtrans k4 hg5
      clear k4 hg5
      go_wp2_with fail
      refine (unhide T _).mono ?_
      rintro e w6 ⟨rfl, hg6⟩
      have k6 : Grown w w6 := gtrans k5 hg6
      clear k5 hg6
      go_wp2_with fail
      refine (unhide U _).mono ?_
      rintro e w7 ⟨rfl, hg7⟩
      have k7 : Grown w w7 := gtrans k6 hg7
      clear k6 hg7
      go_wp2_with fail
      refine (unhide V _).mono ?_
      rintro e w8 ⟨rfl, hg8⟩
      have k8 : Grown w w8 := gtrans k7 hg8
      clear k7 hg8
      go_wp2_with fail
      refine (unhide X _).mono ?_
      rintro e w9 ⟨rfl, hg9⟩
      have k9 : Grown w w9 := gtrans k8 hg9
      clear k8 hg9
      go_wp2_with fail
      refine (unhide Y _).mono ?_
      rintro e w10 ⟨rfl, hg10⟩
      have k10 : Grown w w10 := gtrans k9 hg10
      clear k9 hg10
      go_wp2_with fail
      refine (unhide Z _).mono ?_
      rintro e w11 ⟨rfl, hg11⟩
      have k11 : Grown w w11 := gtrans k10 hg11
      clear k10 hg11
      go_wp2
      go_ret
      exact ⟨rfl, k11⟩
  · have dh : decide (x < y) = true := by simp; omega
    by_cases hc : c < 0
    · have dc : decide (c < 0) = true := by simp [hc]
      clear oV oY
      go_enter Try.func7, Try.ntmps7
      go_wp2_with fail
      refine (unhide W _).mono ?_
      rintro e w1 ⟨rfl, hg1⟩
      have k1 : Grown w w1 := hg1
      go_wp2_with fail
      refine (unhide P _).mono ?_
      rintro e w2 ⟨rfl, hg2⟩
      have k2 : Grown w w2 := gtrans k1 hg2
      clear k1 hg2
      go_wp2_with fail
      refine (unhide Q _).mono ?_
      rintro e w3 ⟨rfl, hg3⟩
      have k3 : Grown w w3 := gtrans k2 hg3
      clear k2 hg3
      go_wp2_with fail
      refine (unhide R _).mono ?_
      rintro e w4 ⟨rfl, hg4⟩
      have k4 : Grown w w4 := gtrans k3 hg4
      clear k3 hg4
      go_wp2_with fail
      refine (unhide S _).mono ?_
      rintro e w5 ⟨rfl, hg5⟩
      have k5 : Grown w w5 := gtrans k4 hg5
      clear k4 hg5
      go_wp2_with fail
      refine (unhide T _).mono ?_
      rintro e w6 ⟨rfl, hg6⟩
      have k6 : Grown w w6 := gtrans k5 hg6
      clear k5 hg6
      go_wp2_with fail
      refine (unhide U _).mono ?_
      rintro e w7 ⟨rfl, hg7⟩
      have k7 : Grown w w7 := gtrans k6 hg7
      clear k6 hg7
      go_wp2
      go_ret
      exact ⟨rfl, k7⟩
    · have dc : decide (c < 0) = false := by simp; omega
      have dV : decide (v1 ≤ x1) = true := by have := oV (by omega); simp; omega
      have dY : decide (y1 ≤ z1) = true := by have := oY (by omega); simp; omega
      clear oV oY
      go_enter Try.func7, Try.ntmps7
      go_wp2_with fail
      refine (unhide W _).mono ?_
      rintro e w1 ⟨rfl, hg1⟩
      have k1 : Grown w w1 := hg1
      go_wp2_with fail
      refine (unhide P _).mono ?_
      rintro e w2 ⟨rfl, hg2⟩
      have k2 : Grown w w2 := gtrans k1 hg2
      clear k1 hg2
      go_wp2_with fail
      refine (unhide Q _).mono ?_
      rintro e w3 ⟨rfl, hg3⟩
      have k3 : Grown w w3 := gtrans k2 hg3
      clear k2 hg3
      go_wp2_with fail
      refine (unhide R _).mono ?_
      rintro e w4 ⟨rfl, hg4⟩
      have k4 : Grown w w4 := gtrans k3 hg4
      clear k3 hg4
      go_wp2_with fail
      refine (unhide S _).mono ?_
      rintro e w5 ⟨rfl, hg5⟩
      have k5 : Grown w w5 := gtrans k4 hg5
      clear k4 hg5
      go_wp2_with fail
      refine (unhide T _).mono ?_
      rintro e w6 ⟨rfl, hg6⟩
      have k6 : Grown w w6 := gtrans k5 hg6
      clear k5 hg6
      go_wp2_with fail
      refine (unhide U _).mono ?_
      rintro e w7 ⟨rfl, hg7⟩
      have k7 : Grown w w7 := gtrans k6 hg7
      clear k6 hg7
      go_wp2_with fail
      refine (unhide V _).mono ?_
      rintro e w8 ⟨rfl, hg8⟩
      have k8 : Grown w w8 := gtrans k7 hg8
      clear k7 hg8
      go_wp2_with fail
      refine (unhide X _).mono ?_
      rintro e w9 ⟨rfl, hg9⟩
      have k9 : Grown w w9 := gtrans k8 hg9
      clear k8 hg9
      go_wp2_with fail
      refine (unhide Y _).mono ?_
      rintro e w10 ⟨rfl, hg10⟩
      have k10 : Grown w w10 := gtrans k9 hg10
      clear k9 hg10
      go_wp2_with fail
      refine (unhide Z _).mono ?_
      rintro e w11 ⟨rfl, hg11⟩
      have k11 : Grown w w11 := gtrans k10 hg11
      clear k10 hg11
      go_wp2
      go_ret
      exact ⟨rfl, k11⟩

theorem lawOrder (a b c : Int) (ha : I64 a) (hb : I64 b) (hc : I64 c) (w : World) :
    Calls Try.prog 7 #[.int .i64 a, .int .i64 b, .int .i64 c] w fun e w' => e = .returned (.bool true) ∧ Grown w w' := by
  by_cases h : a ≤ b
  · exact lawOrder_core a b a b c (Or.inl ⟨h, rfl, rfl⟩) ha hb hc w
  · exact lawOrder_core a b b a c (Or.inr ⟨by omega, rfl, rfl⟩) ha hb hc w

end Go.Proofs.Ythddlamihihphaa
