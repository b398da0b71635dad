/- Fixed numbers: what is taken for an int, and what sums, halves, products and quotients come to, in whole numbers. -/
import Derived.Test.YtopaakjildmjcaaGreatNearMath
namespace Go.Proofs.Wd
set_option linter.unusedVariables false

/-- What is taken for an int. -/
def tk (a : Int) : Int := if a = -9223372036854775808 then -9223372036854775807 else a
/-- Whether it is none. -/
def nb (a : Int) : Bool := decide (a = -9223372036854775808)
/-- A fixed number. -/
def Fx (a : Int) : Prop := -9223372036854775807 ≤ a ∧ a ≤ 9223372036854775807
/-- What is answered of a whole number, with what was none. -/
def cutB (r : Int) (a b : Int) : Bool := fitB r || nb a || nb b
/-- A quotient of fixed numbers, ahead of its fit. -/
def quoR (x y : Int) : Int := if y = 0 then (if x < 0 then -18446744073709551616 else if 0 < x then 18446744073709551616 else 0) else rdiv (x * 4294967296) y

theorem tk_Fx (a : Int) (h : I64 a) : Fx (tk a) := by unfold I64 at h; unfold Fx tk; split <;> omega
theorem tk_of (a : Int) (h : Fx a) : tk a = a := by unfold Fx at h; unfold tk; rw [if_neg (by omega)]
theorem nb_of (a : Int) (h : Fx a) : nb a = false := by unfold Fx at h; unfold nb; simp; omega
theorem Fx_I64 {a : Int} (h : Fx a) : I64 a := by unfold Fx at h; unfold I64; omega
theorem tk_I64 (a : Int) (h : I64 a) : I64 (tk a) := Fx_I64 (tk_Fx a h)
theorem fit_Fx (r : Int) : Fx (fitI r) := by unfold Fx fitI; split <;> (try split) <;> omega
theorem fit_inF (r : Int) (h : Fx r) : fitI r = r ∧ fitB r = false := by
  unfold Fx at h; unfold fitI fitB; rw [if_neg (by omega), if_neg (by omega)]; simp; omega
theorem mul_abs (x y M N : Int) (hx : -M ≤ x ∧ x ≤ M) (hy : -N ≤ y ∧ y ≤ N) : -(M * N) ≤ x * y ∧ x * y ≤ M * N := by
  have hM : 0 ≤ M := by omega
  have hN : 0 ≤ N := by omega
  have k : x.natAbs * y.natAbs ≤ M.natAbs * N.natAbs := Nat.mul_le_mul (by omega) (by omega)
  rw [← Int.natAbs_mul, ← Int.natAbs_mul] at k
  have := Int.mul_nonneg hM hN
  omega
theorem rawq_le (m n : Int) (hm : 0 ≤ m) (hn : 0 < n) : 0 ≤ rawq m n ∧ rawq m n ≤ m + 1 := by
  have h0 := Int.ediv_nonneg hm (Int.le_of_lt hn)
  have h1 := Int.ediv_le_self n hm
  unfold rawq; split <;> omega
theorem rdiv_abs (a d M : Int) (hd : d ≠ 0) (ha : -M ≤ a ∧ a ≤ M) : -(M + 1) ≤ rdiv a d ∧ rdiv a d ≤ M + 1 := by
  have h := rawq_le (a.natAbs) (d.natAbs) (by omega) (by omega)
  unfold rdiv; split <;> omega
theorem prod_range (x y : Int) (hx : Fx x) (hy : Fx y) : -85070591730234615847396907784232501249 ≤ x * y ∧ x * y ≤ 85070591730234615847396907784232501249 :=
  mul_abs x y 9223372036854775807 9223372036854775807 hx hy
theorem wrapW_prod (x y : Int) (hx : Fx x) (hy : Fx y) : wrapW (x * y) = x * y := by
  have := prod_range x y hx hy
  exact wrapW_in _ (by omega)
theorem quoR_range (x y : Int) (hx : Fx x) : -170141183460469231731687303715884105728 ≤ quoR x y ∧ quoR x y < 170141183460469231731687303715884105728 := by
  unfold quoR
  split
  · split <;> (try split) <;> omega
  · have := rdiv_abs (x * 4294967296) y 39614081257132168796771975168 (by assumption) (by unfold Fx at hx; omega)
    omega

end Go.Proofs.Wd
