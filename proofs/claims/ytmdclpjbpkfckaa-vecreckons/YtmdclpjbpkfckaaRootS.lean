/- The document's answer for layer 3: above, root, Whole, nearest, Sqrt and Hypot, walked: what each returns, in whole numbers. -/
import Derived.Test.YtmdclpjbpkfckaaRootR
namespace Go.Proofs.Ytmdclpjbpkfckaa
open Go.RowKit Go.Proofs.Wd
set_option linter.unusedVariables false
set_option linter.unusedSimpArgs false

theorem cmpI_gtB (x y : Int) : (decide (0 < cmpI x y)) = decide (y < x) := by
  by_cases c : y < x
  · rw [cmpI_gt x y c]; simp [c]
  · have := cmpI_le x y (by omega)
    rw [show decide (y < x) = false from by simpa using c]; simp; omega

/-- What holds when the bits from k on are done. -/
def RInv (v : Int) (k : Nat) (o : Int) : Prop := 0 ≤ o ∧ o + 2 ^ k ≤ 18446744073709551616 ∧ o * o ≤ v ∧ v < (o + 2 ^ k) * (o + 2 ^ k)
theorem rinv_up (v : Int) (k : Nat) (o : Int) (h : RInv v (k + 1) o) (c : ¬ v < (o + 2 ^ k) * (o + 2 ^ k)) : RInv v k (o + 2 ^ k) := by
  obtain ⟨a, b, d, e⟩ := h
  have p : (0 : Int) < 2 ^ k := Int.pow_pos (by decide)
  rw [Int.pow_succ] at b e
  unfold RInv
  generalize (2 : Int) ^ k = K at *
  rw [show o + K + K = o + K * 2 from by omega]
  exact ⟨by omega, b, by omega, e⟩
theorem rinv_dn (v : Int) (k : Nat) (o : Int) (h : RInv v (k + 1) o) (c : v < (o + 2 ^ k) * (o + 2 ^ k)) : RInv v k o := by
  obtain ⟨a, b, d, e⟩ := h
  have p : (0 : Int) < 2 ^ k := Int.pow_pos (by decide)
  rw [Int.pow_succ] at b
  unfold RInv
  generalize (2 : Int) ^ k = K at *
  exact ⟨a, by omega, d, c⟩
theorem rinv_end (v o : Int) (h : RInv v 0 o) : o = rt v := by
  obtain ⟨a, b, d, e⟩ := h
  exact (rt_eq v o ⟨a, d, e⟩).symm
theorem rinv_room (v : Int) (k : Nat) (o : Int) (h : RInv v (k + 1) o) : 0 ≤ o ∧ o + 2 ^ k < 18446744073709551616 ∧ 0 < (2 : Int) ^ k := by
  obtain ⟨a, b, d, e⟩ := h
  have p : (0 : Int) < 2 ^ k := Int.pow_pos (by decide)
  rw [Int.pow_succ] at b
  generalize (2 : Int) ^ k = K at *
  omega
theorem rinv_start (v : Int) (h0 : 0 ≤ v) (h1 : v < 170141183460469231731687303715884105728) : RInv v 64 0 := by
  unfold RInv
  rw [show (0 : Int) + 2 ^ 64 = 18446744073709551616 from by decide]
  omega

theorem whE_le (v : Int) (h0 : 0 ≤ v) (h1 : v < 170141183460469231731687303715884105728) : (rt v ≤ 9223372036854775807 → whN v = rt v ∧ whE v = 0) ∧ (9223372036854775807 < rt v → whN v = 0 ∧ whE v = 2) := by
  constructor
  · intro h
    by_cases c : v < 85070591730234615865843651857942052864
    · exact wh_good v ⟨h0, c⟩
    · have := rt_ge63 v (by omega); omega
  · intro h
    by_cases c : v < 85070591730234615865843651857942052864
    · have := rt_lt63 v h0 c; omega
    · exact wh_bad v (by omega)

end Go.Proofs.Ytmdclpjbpkfckaa
