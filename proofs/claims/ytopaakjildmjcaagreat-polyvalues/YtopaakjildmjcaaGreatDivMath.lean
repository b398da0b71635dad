/- Knuth's long division of three halves by two, in whole numbers: plain arithmetic. -/
import Derived.Test.YtopaakjildmjcaaGreatWideBits
namespace Go.Proofs.Wd
set_option linter.unusedVariables false

/-- One guess of a quotient's digit: yn is y1 * 2^32 + y0 with its highest bit set; u < yn; U = u * 2^32 + v. -/
theorem guess (u v y1 y0 q r : Int) (hr : r = u - q * y1) :
    (4294967296 * r + v < q * y0 ↔ u * 4294967296 + v < q * (y1 * 4294967296 + y0)) := by
  subst hr
  constructor <;> intro h <;> grind
/-- Where the guess is not too great, and not too small, it is the digit. -/
theorem digit (U yn q : Int) (hy : 0 < yn) (h1 : U / yn ≤ q) (h2 : q * yn ≤ U) : q = U / yn := by
  have := (Int.le_ediv_iff_mul_le hy).2 h2
  omega
theorem too_great (U yn q : Int) (hy : 0 < yn) (h : U < q * yn) : U / yn ≤ q - 1 := by
  have := (Int.ediv_lt_iff_lt_mul hy).2 h
  omega
theorem digit_lt (u v yn : Int) (hy : 0 < yn) (hu : u < yn) (hv : v < 4294967296) : (u * 4294967296 + v) / yn < 4294967296 := by
  refine (Int.ediv_lt_iff_lt_mul hy).2 ?_
  have : (u + 1) * 4294967296 ≤ yn * 4294967296 := Int.mul_le_mul_of_nonneg_right (by omega) (by decide)
  rw [Int.mul_comm 4294967296 yn]
  omega
/-- The first guess. -/
theorem first_guess (u v y1 y0 : Int) (h1 : 2147483648 ≤ y1) (h0 : 0 ≤ y0) (h0' : y0 < 4294967296) (hu0 : 0 ≤ u) (hu : u < y1 * 4294967296 + y0) (hv : 0 ≤ v) (hv' : v < 4294967296) :
    (u * 4294967296 + v) / (y1 * 4294967296 + y0) ≤ u / y1 ∧ u / y1 ≤ 4294967297 ∧ 0 ≤ u - u / y1 * y1 ∧ u - u / y1 * y1 < y1 := by
  have e1 := Int.emod_add_mul_ediv u y1
  have e2 := Int.emod_nonneg u (by omega : y1 ≠ 0)
  have e3 := Int.emod_lt_of_pos u (by omega : 0 < y1)
  have e4 : u / y1 * y1 = y1 * (u / y1) := Int.mul_comm _ _
  refine ⟨?_, ?_, by omega, by omega⟩
  · have hlt : (u * 4294967296 + v) / (y1 * 4294967296 + y0) < u / y1 + 1 := by
      refine (Int.ediv_lt_iff_lt_mul (by omega)).2 ?_
      have hq : 0 ≤ u / y1 := Int.ediv_nonneg hu0 (by omega)
      have a : u + 1 ≤ (u / y1 + 1) * y1 := by rw [Int.add_mul]; omega
      have b : (u + 1) * 4294967296 ≤ (u / y1 + 1) * y1 * 4294967296 := Int.mul_le_mul_of_nonneg_right a (by decide)
      have c : 0 ≤ (u / y1 + 1) * y0 := Int.mul_nonneg (by omega) h0
      have d : (u / y1 + 1) * (y1 * 4294967296 + y0) = (u / y1 + 1) * y1 * 4294967296 + (u / y1 + 1) * y0 := by grind
      omega
    omega
  · have : u / y1 < 4294967298 := by
      refine (Int.ediv_lt_iff_lt_mul (by omega)).2 ?_
      omega
    omega
/-- A guess whose rest has grown beyond a half is not too great. -/
theorem rest_great (u v y1 y0 q r : Int) (hr : r = u - q * y1) (h : 4294967296 ≤ r) (hq0 : 0 ≤ q) (hq : q ≤ 4294967296) (h0 : 0 ≤ y0) (h0' : y0 < 4294967296) (hv : 0 ≤ v) :
    q * (y1 * 4294967296 + y0) ≤ u * 4294967296 + v := by
  have a : q * y0 ≤ 4294967296 * y0 := Int.mul_le_mul_of_nonneg_right hq h0
  have b : q * (y1 * 4294967296 + y0) = q * y1 * 4294967296 + q * y0 := by grind
  omega

/-- The whole division: N = (hi * 2^64 + lo) * 2^s. -/
theorem knuth (M y S yn u v1 v0 : Int) (hy : 0 < y) (hS : 0 < S) (hyn : yn = y * S) (hN : M * S = (u * 4294967296 + v1) * 4294967296 + v0) (hv0 : 0 ≤ v0) (hv0' : v0 < 4294967296) :
    (u * 4294967296 + v1) / yn * 4294967296 + ((u * 4294967296 + v1) % yn * 4294967296 + v0) / yn = M / y ∧ ((u * 4294967296 + v1) % yn * 4294967296 + v0) % yn / S = M % y := by
  have hyp : 0 < yn := by rw [hyn]; exact Int.mul_pos hy hS
  generalize hU : u * 4294967296 + v1 = U at *
  have e1 := Int.emod_add_mul_ediv U yn
  have e2 := Int.emod_nonneg U (by omega : yn ≠ 0)
  have e3 := Int.emod_lt_of_pos U hyp
  generalize U / yn = Q1 at *
  generalize U % yn = R1 at *
  have f1 := Int.emod_add_mul_ediv (R1 * 4294967296 + v0) yn
  have f2 := Int.emod_nonneg (R1 * 4294967296 + v0) (by omega : yn ≠ 0)
  have f3 := Int.emod_lt_of_pos (R1 * 4294967296 + v0) hyp
  generalize (R1 * 4294967296 + v0) / yn = Q0 at *
  generalize (R1 * 4294967296 + v0) % yn = R0 at *
  have g1 := Int.emod_add_mul_ediv M y
  have g2 := Int.emod_nonneg M (by omega : y ≠ 0)
  have g3 := Int.emod_lt_of_pos M hy
  generalize M / y = q at *
  generalize M % y = r at *
  have a1 : M * S = R0 + yn * (Q1 * 4294967296 + Q0) := by rw [hN, ← e1]; grind
  have a2 : M * S = r * S + yn * q := by rw [hyn, ← g1]; grind
  have b1 := du hyp a1.symm f2 f3
  have b2 := du hyp a2.symm (Int.mul_nonneg g2 (by omega)) (by rw [hyn]; exact Int.mul_lt_mul_of_pos_right g3 hS)
  refine ⟨by omega, ?_⟩
  have c : R0 = r * S := by omega
  rw [c, Int.mul_ediv_cancel _ (by omega)]

/-- What is made ready ahead of the division: moved by s, cut into halves. -/
theorem div_ready (h l y s S : Int) (hS : (2 : Int) ^ s.toNat = S) (h1 : 0 < h) (h2 : h < y) (s1 : 0 ≤ s) (s2 : s ≤ 63) (s3 : 9223372036854775808 ≤ y * S) (s4 : y * S < 18446744073709551616) (hl0 : 0 ≤ l) (hl1 : l < 18446744073709551616) :
    0 < S ∧ 0 ≤ h * S ∧ h * S < 18446744073709551616 ∧
    bits .or .u64 (h * S) (l / 2 ^ (64 - s).toNat) = h * S + l / 2 ^ (64 - s).toNat ∧ 0 ≤ h * S + l / 2 ^ (64 - s).toNat ∧ h * S + l / 2 ^ (64 - s).toNat < y * S ∧
    (h * 18446744073709551616 + l) * S = (h * S + l / 2 ^ (64 - s).toNat) * 18446744073709551616 + l * S % 18446744073709551616 := by
  have hm := pow2_mul s.toNat (64 - s).toNat (by omega)
  have hK := pow2_pos s.toNat
  have hK' := pow2_pos (64 - s).toNat
  rw [hS] at hm hK
  have hle : (h + 1) * S ≤ y * S := Int.mul_le_mul_of_nonneg_right (by omega) (by omega)
  have hle2 : (h + 1) * S = h * S + S := by rw [Int.add_mul, Int.one_mul]
  have h0 : 0 ≤ h * S := Int.mul_nonneg (by omega) (by omega)
  have hx0 : 0 ≤ l / 2 ^ (64 - s).toNat := dv0 _ _ hK' hl0
  have hx1 : l / 2 ^ (64 - s).toNat < S := ltdiv _ _ _ hK' (by rw [Int.mul_comm, hm]; exact hl1)
  refine ⟨hK, h0, by omega, ?_, by omega, by omega, ?_⟩
  · have q := (orU (l / 2 ^ (64 - s).toNat) h s.toNat hx0 (by rw [hS]; exact hx1) (by omega) (by rw [hS, Int.mul_comm]; omega)).2
    rw [hS, Int.mul_comm S h] at q
    rw [q]; omega
  · have e1 := Int.emod_add_mul_ediv l (2 ^ (64 - s).toNat)
    have e2 := Int.emod_nonneg l (by omega : (2 : Int) ^ (64 - s).toNat ≠ 0)
    have e3 := Int.emod_lt_of_pos l hK'
    generalize (2 : Int) ^ (64 - s).toNat = K at *
    generalize l / K = a at *
    generalize l % K = b at *
    have e4 : l * S = b * S + 18446744073709551616 * a := by rw [← e1, ← hm]; grind
    have e5 : 0 ≤ b * S := Int.mul_nonneg e2 (by omega)
    have e6 : b * S < 18446744073709551616 := by rw [← hm, Int.mul_comm S K]; exact Int.mul_lt_mul_of_pos_right e3 hK
    have e7 : l * S % 18446744073709551616 = b * S := by rw [e4, Int.add_mul_emod_self_left, Int.emod_eq_of_lt e5 e6]
    rw [e7, Int.add_mul, Int.add_mul]
    have e8 : h * 18446744073709551616 * S = h * S * 18446744073709551616 := by grind
    omega
end Go.Proofs.Wd
