/- What a number of 128 bits, written as a signed upper half and an unsigned lower half, is as a whole number, and how halves are made of whole numbers: plain arithmetic. -/
namespace Go.Proofs.Wd

def val (h l : Int) : Int := h * 18446744073709551616 + l
def hiOf (v : Int) : Int := (v / 18446744073709551616 + 9223372036854775808) % 18446744073709551616 - 9223372036854775808
def loOf (v : Int) : Int := v % 18446744073709551616
def I64 (h : Int) : Prop := -9223372036854775808 ≤ h ∧ h < 9223372036854775808
def U64 (l : Int) : Prop := 0 ≤ l ∧ l < 18446744073709551616
/-- What a whole number is modulo 2^128, from -2^127 on. -/
def wrapW (v : Int) : Int := (v + 170141183460469231731687303715884105728) % 340282366920938463463374607431768211456 - 170141183460469231731687303715884105728
/-- -1, 0 or 1. -/
def cmpI (x y : Int) : Int := if x < y then -1 else if x = y then 0 else 1
def rawq (m n : Int) : Int := if n - m % n < m % n ∨ (n - m % n = m % n ∧ m / n % 2 = 1) then m / n + 1 else m / n
/-- A whole number divided by another one, to the nearest one, halves to the even one. -/
def rdiv (a d : Int) : Int := if (decide (a < 0) != decide (d < 0)) = true then -(rawq (a.natAbs) (d.natAbs)) else rawq (a.natAbs) (d.natAbs)
def fitI (a : Int) : Int := if 9223372036854775807 < a then 9223372036854775807 else if a < -9223372036854775807 then -9223372036854775807 else a
def fitB (a : Int) : Bool := decide (9223372036854775807 < a ∨ a < -9223372036854775807)

/-- How far a whole number is from 0. -/
def absI (n : Int) : Int := if n < 0 then -n else n
/-- A size with its sign put back. -/
def sg (b : Bool) (m : Int) : Int := if b = true then -m else m
/-- The upper half of a size. -/
def mhi (m : Int) : Int := m / 18446744073709551616 % 18446744073709551616
/-- Are two numbers on different sides of 0? -/
def apartS (a b : Int) : Bool := decide (a < 0) != decide (b < 0)

theorem mhi_U64 (v : Int) : U64 (mhi v) := by unfold U64 mhi; omega
theorem val_size (m : Int) (h : 0 ≤ m ∧ m < 340282366920938463463374607431768211456) : val (mhi m) (loOf m) = m := by unfold val mhi loOf; omega
theorem hiOf_I64 (v : Int) : I64 (hiOf v) := by unfold I64 hiOf; omega
theorem loOf_U64 (v : Int) : U64 (loOf v) := by unfold U64 loOf; omega
theorem val_of (v : Int) : val (hiOf v) (loOf v) = wrapW v := by unfold val hiOf loOf wrapW; omega
theorem hiOf_val (h l : Int) (a : I64 h) (b : U64 l) : hiOf (val h l) = h := by unfold I64 at a; unfold U64 at b; unfold hiOf val; omega
theorem loOf_val (h l : Int) (b : U64 l) : loOf (val h l) = l := by unfold U64 at b; unfold loOf val; omega
theorem val_range (h l : Int) (a : I64 h) (b : U64 l) : -170141183460469231731687303715884105728 ≤ val h l ∧ val h l < 170141183460469231731687303715884105728 := by unfold I64 at a; unfold U64 at b; unfold val; omega
theorem wrapW_in (v : Int) (h : -170141183460469231731687303715884105728 ≤ v ∧ v < 170141183460469231731687303715884105728) : wrapW v = v := by unfold wrapW; omega
theorem hiOf_wrapW (v : Int) : hiOf (wrapW v) = hiOf v := by unfold wrapW hiOf; omega
theorem loOf_wrapW (v : Int) : loOf (wrapW v) = loOf v := by unfold wrapW loOf; omega

theorem absI_U64 (a : Int) (h : I64 a) : U64 (absI a) := by unfold I64 at h; unfold U64 absI; split <;> omega
theorem mul_lt (x y : Int) (h1 : U64 x) (h2 : U64 y) : x * y < 340282366920938463463374607431768211456 := by
  obtain ⟨a0, a1⟩ := h1; obtain ⟨b0, b1⟩ := h2
  have p1 : x * y ≤ x * 18446744073709551616 := Int.mul_le_mul_of_nonneg_left (by omega) a0
  omega
theorem sg_mul (a b : Int) : sg (apartS a b) (absI a * absI b) = a * b := by
  unfold sg apartS absI
  by_cases h1 : a < 0 <;> by_cases h2 : b < 0 <;> simp [h1, h2] <;> grind

theorem size_range (h l : Int) (a : U64 h) (b : U64 l) : 0 ≤ val h l ∧ val h l < 340282366920938463463374607431768211456 := by unfold U64 at a b; unfold val; omega
/-- What is rounded to the nearest one: a whole part, what is left, and what that lacks of one more. -/
def nearQ (q r l : Int) : Int := if l < r ∨ (l = r ∧ q % 2 = 1) then q + 1 else q
theorem pow_le (i j : Nat) (h : i ≤ j) : (2 : Int) ^ i ≤ 2 ^ j := by
  obtain ⟨k, rfl⟩ := Nat.le.dest h
  rw [Int.pow_add]
  have a : (0 : Int) < 2 ^ i := Int.pow_pos (by decide)
  have b : (0 : Int) < 2 ^ k := Int.pow_pos (by decide)
  have c : (2 : Int) ^ i * 1 ≤ 2 ^ i * 2 ^ k := Int.mul_le_mul_of_nonneg_left (by omega) (by omega)
  omega
theorem pow127 (n : Int) (h0 : 0 ≤ n) (h : n ≤ 127) : (2 : Int) ^ n.toNat ≤ 170141183460469231731687303715884105728 := by
  have := pow_le n.toNat 127 (by omega)
  exact Int.le_trans this (by decide)

end Go.Proofs.Wd
