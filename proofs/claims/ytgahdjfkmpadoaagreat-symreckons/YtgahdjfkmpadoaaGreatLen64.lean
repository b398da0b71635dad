/- math/bits.Len64 and LeadingZeros64, walked: a number above 0, moved by its leading zeros, has its highest bit set. -/
import Derived.Test.YtgahdjfkmpadoaaGreatWideA
import Derived.Lib.Tables
import Derived.Lib.BitFns
namespace Go.Proofs.YtgahdjfkmpadoaaGreat
open Go.RowKit Go.Proofs.Wd
open Go.Lib (run_index_len8tab)
set_option linter.unusedVariables false
set_option linter.unusedSimpArgs false
set_option maxRecDepth 10000

/-- n is the length of y: 2^(n-1) ≤ y < 2^n. -/
def LenIs (y n : Int) : Prop := 1 ≤ n ∧ n ≤ 64 ∧ 2 ^ (n - 1).toNat ≤ y ∧ y < 2 ^ n.toNat
theorem len8_is : ∀ n : Fin 256, 0 < n.val → (1 ≤ Lib.len8 (n.val : Int) ∧ Lib.len8 (n.val : Int) ≤ 8 ∧ (2 : Int) ^ (Lib.len8 (n.val : Int) - 1).toNat ≤ n.val ∧ (n.val : Int) < 2 ^ (Lib.len8 (n.val : Int)).toNat) := by decide +kernel
theorem len8_of (b : Int) (h0 : 0 < b) (h1 : b ≤ 255) : 1 ≤ Lib.len8 b ∧ Lib.len8 b ≤ 8 ∧ 2 ^ (Lib.len8 b - 1).toNat ≤ b ∧ b < 2 ^ (Lib.len8 b).toNat := by
  have h := len8_is ⟨b.toNat, by omega⟩ (by simp; omega)
  simp only [Int.toNat_of_nonneg (Int.le_of_lt h0)] at h
  exact h
/-- A number whose upper part has a known length. -/
theorem len_up (y k n : Int) (hk : 0 ≤ k) (h1 : 1 ≤ n) (h2 : n + k ≤ 64) (ha : 2 ^ (n - 1).toNat ≤ y / 2 ^ k.toNat) (hb : y / 2 ^ k.toNat < 2 ^ n.toNat) : LenIs y (k + n) := by
  have hK : (0 : Int) < 2 ^ k.toNat := Int.pow_pos (by decide)
  refine ⟨by omega, by omega, ?_, ?_⟩
  · rw [show (k + n - 1).toNat = (n - 1).toNat + k.toNat from by omega, Int.pow_add]
    exact (Int.le_ediv_iff_mul_le hK).1 ha
  · rw [show (k + n).toNat = n.toNat + k.toNat from by omega, Int.pow_add]
    exact (Int.ediv_lt_iff_lt_mul hK).1 hb

end Go.Proofs.YtgahdjfkmpadoaaGreat
