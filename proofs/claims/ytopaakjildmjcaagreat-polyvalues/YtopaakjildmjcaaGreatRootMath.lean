/- Whole roots of whole numbers, and the whole number that is nearest to a root: plain arithmetic. -/
import Derived.Test.YtopaakjildmjcaaGreatFixMath
namespace Go.Proofs.Wd
set_option linter.unusedVariables false

/-- r is the whole root of v. -/
def IsRt (v r : Int) : Prop := 0 ≤ r ∧ r * r ≤ v ∧ v < (r + 1) * (r + 1)
def rtN : Nat → Nat
  | 0 => 0
  | n + 1 => if (rtN n + 1) * (rtN n + 1) ≤ n + 1 then rtN n + 1 else rtN n
/-- The whole root of a number from 0 on. -/
def rt (v : Int) : Int := (rtN v.toNat : Int)
/-- The number that is nearest to a root. -/
def nr (v : Int) : Int := if rt v * rt v + rt v < v then rt v + 1 else rt v

theorem rtN_is (n : Nat) : rtN n * rtN n ≤ n ∧ n < (rtN n + 1) * (rtN n + 1) := by
  induction n with
  | zero => simp [rtN]
  | succ n ih =>
    unfold rtN
    generalize rtN n = r at *
    split
    · refine ⟨by assumption, ?_⟩
      have : (r + 1 + 1) * (r + 1 + 1) = (r + 1) * (r + 1) + 2 * (r + 1) + 1 := by grind
      omega
    · omega
theorem rt_is (v : Int) (h : 0 ≤ v) : IsRt v (rt v) := by
  have q := rtN_is v.toNat
  unfold IsRt rt
  generalize rtN v.toNat = r at *
  obtain ⟨a, b⟩ := q
  have a' : ((r * r : Nat) : Int) ≤ (v.toNat : Int) := Int.ofNat_le.2 a
  have b' : (v.toNat : Int) < (((r + 1) * (r + 1) : Nat) : Int) := Int.ofNat_lt.2 b
  rw [Int.toNat_of_nonneg h] at a' b'
  simp only [Int.natCast_mul, Int.natCast_add, Int.cast_ofNat_Int] at a' b'
  exact ⟨by omega, a', b'⟩
theorem sq_lt {x y : Int} (hx : 0 ≤ x) (h : x < y) : x * x < y * y := by
  have a : x * x ≤ x * y := Int.mul_le_mul_of_nonneg_left (by omega) hx
  have b : x * y < y * y := Int.mul_lt_mul_of_pos_right h (by omega)
  omega
theorem sq_le {x y : Int} (hx : 0 ≤ x) (h : x ≤ y) : x * x ≤ y * y := by
  have a : x * x ≤ x * y := Int.mul_le_mul_of_nonneg_left (by omega) hx
  have b : x * y ≤ y * y := Int.mul_le_mul_of_nonneg_right h (by omega)
  omega
theorem lt_of_sq {x y : Int} (hy : 0 ≤ y) (h : x * x < y * y) : x < y := by
  by_cases c : x < y
  · exact c
  · have := sq_le hy (by omega : y ≤ x); omega
theorem le_of_sq {x y : Int} (hy : 0 ≤ y) (h : x * x ≤ y * y) : x ≤ y := by
  by_cases c : x ≤ y
  · exact c
  · have := sq_lt hy (by omega : y < x); omega
theorem rt_eq (v r : Int) (h : IsRt v r) : rt v = r := by
  obtain ⟨h0, h1, h2⟩ := h
  have v0 : 0 ≤ v := by have := Int.mul_nonneg h0 h0; omega
  obtain ⟨k0, k1, k2⟩ := rt_is v v0
  generalize rt v = s at *
  have a := lt_of_sq (by omega : 0 ≤ r + 1) (by omega : s * s < (r + 1) * (r + 1))
  have b := lt_of_sq (by omega : 0 ≤ s + 1) (by omega : r * r < (s + 1) * (s + 1))
  omega
theorem rt_sq (m : Int) (h : 0 ≤ m) : rt (m * m) = m := by
  apply rt_eq
  refine ⟨h, by omega, ?_⟩
  exact sq_lt h (by omega)
theorem rt_nonneg (v : Int) : 0 ≤ rt v := by unfold rt; omega
theorem rt_mono (v u : Int) (h0 : 0 ≤ v) (h : v ≤ u) : rt v ≤ rt u := by
  obtain ⟨k0, k1, k2⟩ := rt_is v h0
  obtain ⟨j0, j1, j2⟩ := rt_is u (by omega)
  generalize rt v = s at *
  generalize rt u = t at *
  have a := lt_of_sq (by omega : 0 ≤ t + 1) (by omega : s * s < (t + 1) * (t + 1))
  omega
/-- A root is below what has a greater square. -/
theorem rt_lt (v x : Int) (h0 : 0 ≤ v) (hx : 0 ≤ x) (h : v < x * x) : rt v < x := by
  obtain ⟨k0, k1, k2⟩ := rt_is v h0
  exact lt_of_sq hx (by omega)
theorem rt_ge (v x : Int) (h0 : 0 ≤ v) (hx : 0 ≤ x) (h : x * x ≤ v) : x ≤ rt v := by
  obtain ⟨k0, k1, k2⟩ := rt_is v h0
  have := lt_of_sq (by omega : 0 ≤ rt v + 1) (by omega : x * x < (rt v + 1) * (rt v + 1))
  omega
theorem rt_lt63 (v : Int) (h0 : 0 ≤ v) (h : v < 85070591730234615865843651857942052864) : rt v < 9223372036854775808 :=
  rt_lt v 9223372036854775808 h0 (by decide) (by omega)
theorem rt_ge63 (v : Int) (h : 85070591730234615865843651857942052864 ≤ v) : 9223372036854775808 ≤ rt v :=
  rt_ge v 9223372036854775808 (by omega) (by decide) (by omega)
theorem rt_lt64 (v : Int) (h0 : 0 ≤ v) (h : v < 170141183460469231731687303715884105728) : rt v < 13043817825332782213 :=
  rt_lt v 13043817825332782213 h0 (by decide) (by omega)
/-- Newton's way never comes below the whole root. -/
theorem newton_ge (v x : Int) (h0 : 0 ≤ v) (hx : 0 < x) : rt v ≤ (x + v / x) / 2 := by
  obtain ⟨k0, k1, k2⟩ := rt_is v h0
  generalize rt v = r at *
  have a : 0 ≤ (r - x) * (r - x) := by
    by_cases c : 0 ≤ r - x
    · exact Int.mul_nonneg c c
    · have := Int.mul_nonneg (by omega : 0 ≤ x - r) (by omega : 0 ≤ x - r)
      have e : (x - r) * (x - r) = (r - x) * (r - x) := by grind
      omega
  have b : (2 * r - x) * x ≤ v := by
    have e : (2 * r - x) * x = r * r - (r - x) * (r - x) := by grind
    omega
  have c : 2 * r - x ≤ v / x := (Int.le_ediv_iff_mul_le hx).2 b
  omega
/-- Where a quotient is not below the divisor, that is not above the whole root. -/
theorem newton_end (v x : Int) (h0 : 0 ≤ v) (hx : 0 < x) (h : rt v ≤ x) (hq : x ≤ v / x) : x = rt v := by
  have b : x * x ≤ v := (Int.le_ediv_iff_mul_le hx).1 hq
  have := rt_ge v x h0 (by omega) b
  omega
/-- The high half of a number is below its root. -/
theorem high_lt (v : Int) (h0 : 0 < v) (h : v < 85070591730234615865843651857942052864) : v / 18446744073709551616 < rt v := by
  obtain ⟨k0, k1, k2⟩ := rt_is v (by omega)
  have l := rt_lt63 v (by omega) h
  have g := rt_ge v 1 (by omega) (by decide) (by omega)
  generalize rt v = r at *
  have a : (r + 1) * (r + 1) ≤ (r + 1) * 9223372036854775808 := Int.mul_le_mul_of_nonneg_left (by omega) (by omega)
  omega

theorem nr_nonneg (v : Int) : 0 ≤ nr v := by have := rt_nonneg v; unfold nr; split <;> omega
theorem nr_sq (m : Int) (h : 0 ≤ m) : nr (m * m) = m := by
  unfold nr; rw [rt_sq m h, if_neg (by omega)]
theorem nr_mono (v u : Int) (h0 : 0 ≤ v) (h : v ≤ u) : nr v ≤ nr u := by
  have a := rt_mono v u h0 h
  unfold nr
  by_cases c : rt v = rt u
  · rw [c]; split <;> split <;> omega
  · split <;> split <;> omega
/-- A nearest root's square, and half a step beside it, embraces its number. -/
theorem nr_high (v : Int) (h0 : 0 ≤ v) : v ≤ nr v * nr v + nr v := by
  obtain ⟨k0, k1, k2⟩ := rt_is v h0
  unfold nr
  generalize rt v = r at *
  split <;> omega
theorem nr_low (v : Int) (h0 : 0 ≤ v) (hn : nr v ≠ 0) : nr v * nr v + (1 - nr v) ≤ v := by
  obtain ⟨k0, k1, k2⟩ := rt_is v h0
  unfold nr at *
  generalize rt v = r at *
  split at hn
  · rw [if_pos (by assumption)]
    have e : (r + 1) * (r + 1) = r * r + 2 * r + 1 := by grind
    omega
  · rw [if_neg (by assumption)]; omega
theorem nr_lt (v x : Int) (h0 : 0 ≤ v) (hx : 0 < x) (h : v ≤ x * x - x) : nr v < x := by
  have a := rt_lt v x h0 (by omega) (by omega)
  unfold nr
  split
  · by_cases c : rt v = x - 1
    · have q : rt v * rt v + rt v < v := by assumption
      rw [c] at q
      have e : (x - 1) * (x - 1) + (x - 1) = x * x - x := by grind
      omega
    · omega
  · omega
theorem nr_fit (v : Int) (h : 85070591730234615865843651857942052864 ≤ v) : fitI (nr v) = 9223372036854775807 ∧ fitB (nr v) = true := by
  have a := rt_ge63 v h
  have b : 9223372036854775808 ≤ nr v := by unfold nr; split <;> omega
  unfold fitI fitB
  rw [if_pos (by omega)]
  simp; omega

end Go.Proofs.Wd
