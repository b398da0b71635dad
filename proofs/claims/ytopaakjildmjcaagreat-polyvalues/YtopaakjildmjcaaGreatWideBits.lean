/- Shifts of numbers of two halves, and the sum that an 'or' of bits apart is: plain arithmetic. -/
import Derived.Test.YtopaakjildmjcaaGreatWideMath
import Derived.WalkKit
import Derived.Laws.Bits64b
namespace Go.Proofs.Wd
set_option linter.unusedVariables false

theorem du {B x q r : Int} (hB : 0 < B) (h : r + B * q = x) (h0 : 0 ≤ r) (h1 : r < B) : x / B = q ∧ x % B = r := (Int.ediv_emod_unique hB).2 ⟨h, h0, h1⟩
theorem sh1 (hi lo K K' : Int) (hK : 0 < K) (h0 : 0 ≤ lo) (h1 : lo < K * K') : (hi * (K * K') + lo) / K = hi * K' + lo / K := by
  have e1 := Int.emod_add_mul_ediv lo K
  have e2 := Int.emod_nonneg lo (by omega : K ≠ 0)
  have e3 := Int.emod_lt_of_pos lo hK
  exact (du hK (x := hi * (K * K') + lo) (q := hi * K' + lo / K) (r := lo % K) (by grind) e2 e3).1
theorem ltdiv (lo K K' : Int) (hK : 0 < K) (h1 : lo < K * K') : lo / K < K' := Int.ediv_lt_of_lt_mul hK (by rw [Int.mul_comm]; exact h1)
theorem dv0 (lo K : Int) (hK : 0 < K) (h0 : 0 ≤ lo) : 0 ≤ lo / K := Int.ediv_nonneg h0 (by omega)
theorem sh2 (hi lo K K' : Int) (hK : 0 < K) (hK' : 0 < K') (h0 : 0 ≤ lo) (h1 : lo < K * K') : (hi * K' + lo / K) / (K * K') = hi / K ∧ (hi * K' + lo / K) % (K * K') = lo / K + K' * (hi % K) := by
  have e1 := Int.emod_add_mul_ediv hi K
  have e2 := Int.emod_nonneg hi (by omega : K ≠ 0)
  have e3 := Int.emod_lt_of_pos hi hK
  have d1 := ltdiv lo K K' hK h1
  have d0 := dv0 lo K hK h0
  have m0 : 0 ≤ K' * (hi % K) := Int.mul_nonneg (by omega) e2
  have m1 : K' * (hi % K) ≤ K' * (K - 1) := Int.mul_le_mul_of_nonneg_left (by omega) (by omega)
  have m2 : K' * (K - 1) = K * K' - K' := by grind
  refine du (Int.mul_pos hK hK') ?_ (by omega) (by omega)
  grind
theorem pow2_pos (j : Nat) : (0 : Int) < 2 ^ j := Int.pow_pos (by decide)
theorem pow2_mul (i j : Nat) (h : i + j = 64) : (2 : Int) ^ i * 2 ^ j = 18446744073709551616 := by
  rw [← Int.pow_add, h]; rfl
theorem orU (x t : Int) (j : Nat) (h0 : 0 ≤ x) (h1 : x < 2 ^ j) (ht : 0 ≤ t) (hs : 2 ^ j * t + x < 18446744073709551616) :
    bits .or .u64 x (2 ^ j * t) = x + 2 ^ j * t ∧ bits .or .u64 (2 ^ j * t) x = x + 2 ^ j * t := by
  obtain ⟨x, rfl⟩ := Int.eq_ofNat_of_zero_le h0
  obtain ⟨t, rfl⟩ := Int.eq_ofNat_of_zero_le ht
  have e : (2 : Int) ^ j * (t : Int) = ((2 ^ j * t : Nat) : Int) := by simp
  have hx : x < 2 ^ j := by
    have : ((2 ^ j : Nat) : Int) = (2 : Int) ^ j := by simp
    omega
  rw [e] at hs ⊢
  have q := Nat.two_pow_add_eq_or_of_lt hx t
  constructor
  · rw [bits_or_u64_nat x (2 ^ j * t) (by omega) (by omega), Nat.or_comm, ← q]; omega
  · rw [bits_or_u64_nat (2 ^ j * t) x (by omega) (by omega), ← q]; omega

theorem down_small (hi lo n : Int) (h1 : U64 lo) (h2 : U64 hi) (h3 : 0 ≤ n) (h4 : n < 64) :
    bits .or .u64 (lo / 2 ^ n.toNat) (IntKind.u64.wrap (hi * 2 ^ (64 - n).toNat)) = loOf (val hi lo / 2 ^ n.toNat) ∧ hi / 2 ^ n.toNat = mhi (val hi lo / 2 ^ n.toNat) := by
  have hm := pow2_mul n.toNat (64 - n).toNat (by omega)
  have hK := pow2_pos n.toNat
  have hK' := pow2_pos (64 - n).toNat
  obtain ⟨a0, a1⟩ := h1; obtain ⟨b0, b1⟩ := h2
  rw [IntKind.wrap_u64]
  unfold loOf mhi val
  have hlo : lo < 2 ^ n.toNat * 2 ^ (64 - n).toNat := by omega
  rw [← hm, sh1 hi lo _ _ hK a0 hlo]
  obtain ⟨q1, q2⟩ := sh2 hi lo _ _ hK hK' a0 hlo
  obtain ⟨p1, p2⟩ := sh2 hi 0 _ _ hK hK' (Int.le_refl 0) (by omega)
  rw [Int.zero_ediv, Int.add_zero, Int.zero_add] at p2
  have e2 := Int.emod_nonneg hi (by omega : (2 : Int) ^ n.toNat ≠ 0)
  have z2 := Int.emod_nonneg (hi * 2 ^ (64 - n).toNat + lo / 2 ^ n.toNat) (by omega : (2 : Int) ^ n.toNat * 2 ^ (64 - n).toNat ≠ 0)
  have z3 := Int.emod_lt_of_pos (hi * 2 ^ (64 - n).toNat + lo / 2 ^ n.toNat) (by omega : (0 : Int) < 2 ^ n.toNat * 2 ^ (64 - n).toNat)
  rw [p2, q2, q1]
  rw [q2] at z2 z3
  refine ⟨(orU _ _ _ (dv0 lo _ hK a0) (ltdiv lo _ _ hK hlo) e2 (by omega)).1, ?_⟩
  rw [hm]
  have w1 : 0 ≤ hi / 2 ^ n.toNat := dv0 _ _ hK b0
  have w2 : hi / 2 ^ n.toNat ≤ hi := Int.ediv_le_self _ b0
  omega

theorem down_great (hi lo n : Int) (h1 : U64 lo) (h2 : U64 hi) (h3 : 64 ≤ n) :
    hi / 2 ^ (n - 64).toNat = loOf (val hi lo / 2 ^ n.toNat) ∧ 0 = mhi (val hi lo / 2 ^ n.toNat) := by
  obtain ⟨a0, a1⟩ := h1; obtain ⟨b0, b1⟩ := h2
  have hK := pow2_pos (n - 64).toNat
  have e : (2 : Int) ^ n.toNat = 18446744073709551616 * 2 ^ (n - 64).toNat := by
    rw [show n.toNat = 64 + (n - 64).toNat from by omega, Int.pow_add]; rfl
  rw [e, ← Int.ediv_ediv_of_nonneg (by decide)]
  have e3 : val hi lo / 18446744073709551616 = hi := by unfold val; omega
  rw [e3]
  have w1 : 0 ≤ hi / 2 ^ (n - 64).toNat := dv0 _ _ hK b0
  have w2 : hi / 2 ^ (n - 64).toNat ≤ hi := Int.ediv_le_self _ b0
  unfold loOf mhi
  omega

theorem up_small (hi lo n : Int) (h1 : U64 lo) (h2 : U64 hi) (h3 : 0 ≤ n) (h4 : n < 64) :
    IntKind.u64.wrap (lo * 2 ^ n.toNat) = loOf (val hi lo * 2 ^ n.toNat) ∧ bits .or .u64 (IntKind.u64.wrap (hi * 2 ^ n.toNat)) (lo / 2 ^ (64 - n).toNat) = mhi (val hi lo * 2 ^ n.toNat) := by
  have hm := pow2_mul n.toNat (64 - n).toNat (by omega)
  have hK := pow2_pos n.toNat
  have hK' := pow2_pos (64 - n).toNat
  obtain ⟨a0, a1⟩ := h1; obtain ⟨b0, b1⟩ := h2
  rw [IntKind.wrap_u64, IntKind.wrap_u64]
  unfold loOf mhi val
  have hlo : lo < 2 ^ (64 - n).toNat * 2 ^ n.toNat := by rw [Int.mul_comm]; omega
  obtain ⟨p1, p2⟩ := sh2 hi 0 _ _ hK' hK (Int.le_refl 0) (by rw [Int.mul_comm]; omega)
  rw [Int.zero_ediv, Int.add_zero, Int.zero_add] at p2
  rw [Int.mul_comm (2 ^ (64 - n).toNat) (2 ^ n.toNat), hm] at p2
  obtain ⟨q1, q2⟩ := sh2 hi lo _ _ hK' hK a0 hlo
  rw [Int.mul_comm (2 ^ (64 - n).toNat) (2 ^ n.toNat), hm] at q1 q2
  have e2 := Int.emod_nonneg hi (by omega : (2 : Int) ^ (64 - n).toNat ≠ 0)
  have z3 := Int.emod_lt_of_pos (hi * 2 ^ n.toNat + lo / 2 ^ (64 - n).toNat) (by omega : (0 : Int) < 18446744073709551616)
  rw [q2] at z3
  have hd : (hi * 18446744073709551616 + lo) * 2 ^ n.toNat / 18446744073709551616 = hi * 2 ^ n.toNat + lo / 2 ^ (64 - n).toNat := by
    have s1 : (hi * 18446744073709551616 + lo) * 2 ^ n.toNat = 2 ^ n.toNat * (hi * 18446744073709551616 + lo) := Int.mul_comm _ _
    rw [s1]
    have s2 : (18446744073709551616 : Int) = 2 ^ n.toNat * 2 ^ (64 - n).toNat := hm.symm
    have s3 : 2 ^ n.toNat * (hi * 18446744073709551616 + lo) / 18446744073709551616 = 2 ^ n.toNat * (hi * 18446744073709551616 + lo) / (2 ^ n.toNat * 2 ^ (64 - n).toNat) := by rw [hm]
    rw [s3, Int.mul_ediv_mul_of_pos _ _ hK]
    have s4 : hi * 18446744073709551616 + lo = hi * (2 ^ (64 - n).toNat * 2 ^ n.toNat) + lo := by rw [Int.mul_comm (2 ^ (64 - n).toNat), hm]
    rw [s4, sh1 hi lo _ _ hK' a0 hlo]
  constructor
  · have s5 : (hi * 18446744073709551616 + lo) * 2 ^ n.toNat = lo * 2 ^ n.toNat + 18446744073709551616 * (hi * 2 ^ n.toNat) := by grind
    rw [s5, Int.add_mul_emod_self_left]
  · rw [hd, q2, p2]
    exact (orU _ _ _ (dv0 lo _ hK' a0) (ltdiv lo _ _ hK' hlo) e2 (by omega)).2

theorem up_great (hi lo n : Int) (h1 : U64 lo) (h2 : U64 hi) (h3 : 64 ≤ n) :
    0 = loOf (val hi lo * 2 ^ n.toNat) ∧ IntKind.u64.wrap (lo * 2 ^ (n - 64).toNat) = mhi (val hi lo * 2 ^ n.toNat) := by
  have e : (2 : Int) ^ n.toNat = 18446744073709551616 * 2 ^ (n - 64).toNat := by
    rw [show n.toNat = 64 + (n - 64).toNat from by omega, Int.pow_add]; rfl
  rw [e, IntKind.wrap_u64]
  have s1 : val hi lo * (18446744073709551616 * 2 ^ (n - 64).toNat) = 18446744073709551616 * (lo * 2 ^ (n - 64).toNat + 18446744073709551616 * (hi * 2 ^ (n - 64).toNat)) := by unfold val; grind
  rw [s1]
  generalize hi * 2 ^ (n - 64).toNat = p
  generalize lo * 2 ^ (n - 64).toNat = q
  unfold loOf mhi
  omega

/-- The lower 32 bits of a number of 64. -/
theorem mask32 (t : Int) (h0 : 0 ≤ t) (h1 : t < 18446744073709551616) : bits .and .u64 t 4294967295 = t % 4294967296 := by
  obtain ⟨t, rfl⟩ := Int.eq_ofNat_of_zero_le h0
  rw [show ((4294967295 : Int)) = ((4294967295 : Nat) : Int) from rfl, bits_and_u64_nat t 4294967295 (by omega) (by omega), Nat.and_two_pow_sub_one_eq_mod t 32]
  rfl

end Go.Proofs.Wd
