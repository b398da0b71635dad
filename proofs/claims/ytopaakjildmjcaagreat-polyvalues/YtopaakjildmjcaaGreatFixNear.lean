/- Rounded quotients: half a divisor away at most; they rise with what is divided; what is a multiple comes out whole; signs; and what that says of fixed numbers. -/
import Derived.Test.YtopaakjildmjcaaGreatFixMath
namespace Go.Proofs.Wd
set_option linter.unusedVariables false

theorem rawq_near (m n : Int) (hn : 0 < n) : -n ≤ 2 * (m - rawq m n * n) ∧ 2 * (m - rawq m n * n) ≤ n := by
  have h := Int.ediv_mul_add_emod m n
  have h0 := Int.emod_nonneg m (show n ≠ 0 by omega)
  have h1 := Int.emod_lt_of_pos m hn
  unfold rawq
  generalize m / n = q at *
  generalize m % n = r at *
  split
  · rw [Int.add_mul]; omega
  · omega

theorem rdiv_near (a d : Int) (hd : 0 < d) : -d ≤ 2 * (a - rdiv a d * d) ∧ 2 * (a - rdiv a d * d) ≤ d := by
  rw [rdiv_pos a d hd]
  split
  · have := rawq_near (-a) d hd
    rw [Int.neg_mul]; omega
  · exact rawq_near a d hd

theorem rdiv_neg_den (a d : Int) (hd : d < 0) (ha : a ≠ 0) : rdiv a d = -(rdiv a (-d)) := by
  unfold rdiv
  rw [Int.natAbs_neg]
  by_cases h : a < 0
  · rw [if_neg (by simp [h, hd]), if_pos (by simp [h]; omega)]; omega
  · rw [if_pos (by simp [h, hd]), if_neg (by simp [h]; omega)]

theorem rawq_zero (n : Int) (hn : 0 < n) : rawq 0 n = 0 := by
  unfold rawq; rw [Int.zero_emod, Int.zero_ediv, if_neg (by omega)]
theorem rdiv_zero (d : Int) (hd : d ≠ 0) : rdiv 0 d = 0 := by
  have h := rawq_zero (d.natAbs) (by omega)
  unfold rdiv
  rw [show ((0 : Int).natAbs : Int) = 0 from rfl, h]
  simp

theorem rdiv_near_any (a d : Int) (hd : d ≠ 0) : -(absI d) ≤ 2 * (a - rdiv a d * d) ∧ 2 * (a - rdiv a d * d) ≤ absI d := by
  by_cases h : d < 0
  · rw [show absI d = -d from by unfold absI; rw [if_pos h]]
    by_cases ha : a = 0
    · subst ha; rw [rdiv_zero d hd]; omega
    · rw [rdiv_neg_den a d h ha, Int.neg_mul]
      have := rdiv_near a (-d) (by omega)
      rw [Int.mul_neg] at this
      omega
  · rw [show absI d = d from by unfold absI; rw [if_neg h]]
    exact rdiv_near a d (by omega)

theorem rdiv_mono (x y d : Int) (hd : 0 < d) (h : x ≤ y) : rdiv x d ≤ rdiv y d := by
  by_cases he : x = y
  · rw [he]; exact Int.le_refl _
  · have hx := rdiv_near x d hd
    have hy := rdiv_near y d hd
    generalize rdiv x d = p at *
    generalize rdiv y d = q at *
    by_cases hc : p ≤ q
    · exact hc
    · have k : (q + 1) * d ≤ p * d := Int.mul_le_mul_of_nonneg_right (by omega) (by omega)
      rw [Int.add_mul] at k
      omega

theorem rdiv_mul (v d : Int) (hd : 0 < d) : rdiv (v * d) d = v := by
  have h := rdiv_near (v * d) d hd
  generalize rdiv (v * d) d = p at *
  have e : v * d - p * d = (v - p) * d := by rw [Int.sub_mul]
  rw [e] at h
  rcases (show v - p ≤ -1 ∨ v - p = 0 ∨ 1 ≤ v - p from by omega) with k | k | k
  · have := Int.mul_le_mul_of_nonneg_right k (show 0 ≤ d by omega); omega
  · omega
  · have := Int.mul_le_mul_of_nonneg_right k (show 0 ≤ d by omega); omega

theorem rdiv_neg (x d : Int) (hd : 0 < d) : rdiv (-x) d = -(rdiv x d) := by
  rw [rdiv_pos x d hd, rdiv_pos (-x) d hd]
  by_cases h : x < 0
  · rw [if_neg (by omega), if_pos h]; omega
  · by_cases h0 : x = 0
    · subst h0; rw [if_neg (by omega), if_neg (by omega)]; simp [rawq_zero d hd]
    · rw [if_pos (by omega), if_neg h]; simp

theorem fitI_mono (x y : Int) (h : x ≤ y) : fitI x ≤ fitI y := by
  unfold fitI; split <;> (try split) <;> (try split) <;> (try split) <;> omega
theorem tk_mono (x y : Int) (h : x ≤ y) (hx : I64 x) (hy : I64 y) : tk x ≤ tk y := by
  unfold I64 at hx hy; unfold tk; split <;> split <;> omega
theorem fitI_neg (x : Int) : fitI (-x) = -(fitI x) := by
  unfold fitI; split <;> (try split) <;> (try split) <;> (try split) <;> omega
theorem fitB_neg (x : Int) : fitB (-x) = fitB x := by
  unfold fitB; rw [decide_eq_decide]; omega
theorem quoR_mono (x y d : Int) (hd : 0 ≤ d) (h : x ≤ y) : quoR x d ≤ quoR y d := by
  unfold quoR
  by_cases h0 : d = 0
  · rw [if_pos h0, if_pos h0]; split <;> (try split) <;> (try split) <;> (try split) <;> omega
  · rw [if_neg h0, if_neg h0]; exact rdiv_mono _ _ _ (by omega) (by omega)
theorem cutB_of (r a b : Int) (ha : Fx a) (hb : Fx b) : cutB r a b = fitB r := by
  unfold cutB; rw [nb_of a ha, nb_of b hb]; simp

/-- What was divided and multiplied again, uncut. -/
theorem back_near (a b q m : Int) (hb : b ≠ 0) (hq : rdiv (a * 4294967296) b = q) (hm : rdiv (q * b) 4294967296 = m) :
    absI (m - a) ≤ absI b / 8589934592 + 1 := by
  have h1 := rdiv_near_any (a * 4294967296) b hb
  have h2 := rdiv_near (q * b) 4294967296 (by omega)
  rw [hq] at h1
  rw [hm] at h2
  generalize q * b = s at *
  generalize absI b = B at *
  unfold absI
  split <;> omega

end Go.Proofs.Wd
