/- math/bits.Len64 and LeadingZeros64, walked: a number above 0, moved by its leading zeros, has its highest bit set. -/
import Derived.Test.YtopaakjildmjcaaGreatWideA
import Derived.Lib.Tables
import Derived.Lib.BitFns
namespace Go.Proofs.YtopaakjildmjcaaGreat
open Go.RowKit Go.Proofs.Wd
open Go.Lib (run_index_len8tab)
set_option linter.unusedVariables false
set_option linter.unusedSimpArgs false
set_option maxRecDepth 10000

/-- n is the length of y: 2^(n-1) ≤ y < 2^n. -/
def LenIs (y n : Int) : Prop := 1 ≤ n ∧ n ≤ 64 ∧ 2 ^ (n - 1).toNat ≤ y ∧ y < 2 ^ n.toNat
theorem len8_is : ∀ n : Fin 256, 0 < n.val → (1 ≤ Lib.len8 (n.val : Int) ∧ Lib.len8 (n.val : Int) ≤ 8 ∧ (2 : Int) ^ (Lib.len8 (n.val : Int) - 1).toNat ≤ n.val ∧ (n.val : Int) < 2 ^ (Lib.len8 (n.val : Int)).toNat) := by decide +kernel
theorem len8_of (b : Int) (h0 : 0 < b) (h1 : b ≤ 255) : 1 ≤ Lib.len8 b ∧ Lib.len8 b ≤ 8 ∧ 2 ^ (Lib.len8 b - 1).toNat ≤ b ∧ b < 2 ^ (Lib.len8 b).toNat := by
  have h := len8_is ⟨b.toNat, by omega⟩ (by simp; omega)
  simp only [Int.toNat_of_nonneg (Int.le_of_lt h0)] at h
  exact h
/-- A number whose upper part has a known length. -/
theorem len_up (y k n : Int) (hk : 0 ≤ k) (h1 : 1 ≤ n) (h2 : n + k ≤ 64) (ha : 2 ^ (n - 1).toNat ≤ y / 2 ^ k.toNat) (hb : y / 2 ^ k.toNat < 2 ^ n.toNat) : LenIs y (k + n) := by
  have hK : (0 : Int) < 2 ^ k.toNat := Int.pow_pos (by decide)
  refine ⟨by omega, by omega, ?_, ?_⟩
  · rw [show (k + n - 1).toNat = (n - 1).toNat + k.toNat from by omega, Int.pow_add]
    exact (Int.le_ediv_iff_mul_le hK).1 ha
  · rw [show (k + n).toNat = n.toNat + k.toNat from by omega, Int.pow_add]
    exact (Int.ediv_lt_iff_lt_mul hK).1 hb

set_option maxHeartbeats 1000000 in
set_option maxRecDepth 100000 in
theorem len64 (y : Int) (hy : 0 < y) (hy' : y < 18446744073709551616) (w : World) :
    Calls Tryz.prog 149 #[.int .u64 y] w fun e w' => ∃ n, e = .returned (.int .i64 n) ∧ LenIs y n ∧ w' = w := by
  by_cases c1 : 4294967296 ≤ y
  · by_cases c2 : 65536 ≤ y / 4294967296
    · by_cases c3 : 256 ≤ y / 4294967296 / 65536
      · obtain ⟨b1, b2, b3, b4⟩ := len8_of (y / 4294967296 / 65536 / 256) (by omega) (by omega)
        have IX := fun w => run_index_len8tab w 9 .u8 (y / 4294967296 / 65536 / 256) Tryz.underlying9 (by omega) (by omega)
        have HL : Hid (LenIs y (56 + Lib.len8 (y / 4294967296 / 65536 / 256))) := by
          have q := len_up y 56 (Lib.len8 (y / 4294967296 / 65536 / 256)) (by omega) b1 (by omega) (by rw [show y / 2 ^ (56 : Int).toNat = y / 4294967296 / 65536 / 256 from by rw [show (2 : Int) ^ (56 : Int).toNat = 72057594037927936 from by decide] <;> omega]; exact b3) (by rw [show y / 2 ^ (56 : Int).toNat = y / 4294967296 / 65536 / 256 from by rw [show (2 : Int) ^ (56 : Int).toNat = 72057594037927936 from by decide] <;> omega]; exact b4)
          exact hide q
        clear b3 b4
        go_enter Tryz.func149, Tryz.ntmps149
        go_wp2
        go_ret
        exact ⟨_, rfl, unhide HL, rfl⟩
      · obtain ⟨b1, b2, b3, b4⟩ := len8_of (y / 4294967296 / 65536) (by omega) (by omega)
        have IX := fun w => run_index_len8tab w 9 .u8 (y / 4294967296 / 65536) Tryz.underlying9 (by omega) (by omega)
        have HL : Hid (LenIs y (48 + Lib.len8 (y / 4294967296 / 65536))) := by
          have q := len_up y 48 (Lib.len8 (y / 4294967296 / 65536)) (by omega) b1 (by omega) (by rw [show y / 2 ^ (48 : Int).toNat = y / 4294967296 / 65536 from by rw [show (2 : Int) ^ (48 : Int).toNat = 281474976710656 from by decide] <;> omega]; exact b3) (by rw [show y / 2 ^ (48 : Int).toNat = y / 4294967296 / 65536 from by rw [show (2 : Int) ^ (48 : Int).toNat = 281474976710656 from by decide] <;> omega]; exact b4)
          exact hide q
        clear b3 b4
        go_enter Tryz.func149, Tryz.ntmps149
        go_wp2
        go_ret
        exact ⟨_, rfl, unhide HL, rfl⟩
    · by_cases c3 : 256 ≤ y / 4294967296
      · obtain ⟨b1, b2, b3, b4⟩ := len8_of (y / 4294967296 / 256) (by omega) (by omega)
        have IX := fun w => run_index_len8tab w 9 .u8 (y / 4294967296 / 256) Tryz.underlying9 (by omega) (by omega)
        have HL : Hid (LenIs y (40 + Lib.len8 (y / 4294967296 / 256))) := by
          have q := len_up y 40 (Lib.len8 (y / 4294967296 / 256)) (by omega) b1 (by omega) (by rw [show y / 2 ^ (40 : Int).toNat = y / 4294967296 / 256 from by rw [show (2 : Int) ^ (40 : Int).toNat = 1099511627776 from by decide] <;> omega]; exact b3) (by rw [show y / 2 ^ (40 : Int).toNat = y / 4294967296 / 256 from by rw [show (2 : Int) ^ (40 : Int).toNat = 1099511627776 from by decide] <;> omega]; exact b4)
          exact hide q
        clear b3 b4
        go_enter Tryz.func149, Tryz.ntmps149
        go_wp2
        go_ret
        exact ⟨_, rfl, unhide HL, rfl⟩
      · obtain ⟨b1, b2, b3, b4⟩ := len8_of (y / 4294967296) (by omega) (by omega)
        have IX := fun w => run_index_len8tab w 9 .u8 (y / 4294967296) Tryz.underlying9 (by omega) (by omega)
        have HL : Hid (LenIs y (32 + Lib.len8 (y / 4294967296))) := by
          have q := len_up y 32 (Lib.len8 (y / 4294967296)) (by omega) b1 (by omega) (by rw [show y / 2 ^ (32 : Int).toNat = y / 4294967296 from by rw [show (2 : Int) ^ (32 : Int).toNat = 4294967296 from by decide] <;> omega]; exact b3) (by rw [show y / 2 ^ (32 : Int).toNat = y / 4294967296 from by rw [show (2 : Int) ^ (32 : Int).toNat = 4294967296 from by decide] <;> omega]; exact b4)
          exact hide q
        clear b3 b4
        go_enter Tryz.func149, Tryz.ntmps149
        go_wp2
        go_ret
        exact ⟨_, rfl, unhide HL, rfl⟩
  · by_cases c2 : 65536 ≤ y
    · by_cases c3 : 256 ≤ y / 65536
      · obtain ⟨b1, b2, b3, b4⟩ := len8_of (y / 65536 / 256) (by omega) (by omega)
        have IX := fun w => run_index_len8tab w 9 .u8 (y / 65536 / 256) Tryz.underlying9 (by omega) (by omega)
        have HL : Hid (LenIs y (24 + Lib.len8 (y / 65536 / 256))) := by
          have q := len_up y 24 (Lib.len8 (y / 65536 / 256)) (by omega) b1 (by omega) (by rw [show y / 2 ^ (24 : Int).toNat = y / 65536 / 256 from by rw [show (2 : Int) ^ (24 : Int).toNat = 16777216 from by decide] <;> omega]; exact b3) (by rw [show y / 2 ^ (24 : Int).toNat = y / 65536 / 256 from by rw [show (2 : Int) ^ (24 : Int).toNat = 16777216 from by decide] <;> omega]; exact b4)
          exact hide q
        clear b3 b4
        go_enter Tryz.func149, Tryz.ntmps149
        go_wp2
        go_ret
        exact ⟨_, rfl, unhide HL, rfl⟩
      · obtain ⟨b1, b2, b3, b4⟩ := len8_of (y / 65536) (by omega) (by omega)
        have IX := fun w => run_index_len8tab w 9 .u8 (y / 65536) Tryz.underlying9 (by omega) (by omega)
        have HL : Hid (LenIs y (16 + Lib.len8 (y / 65536))) := by
          have q := len_up y 16 (Lib.len8 (y / 65536)) (by omega) b1 (by omega) (by rw [show y / 2 ^ (16 : Int).toNat = y / 65536 from by rw [show (2 : Int) ^ (16 : Int).toNat = 65536 from by decide] <;> omega]; exact b3) (by rw [show y / 2 ^ (16 : Int).toNat = y / 65536 from by rw [show (2 : Int) ^ (16 : Int).toNat = 65536 from by decide] <;> omega]; exact b4)
          exact hide q
        clear b3 b4
        go_enter Tryz.func149, Tryz.ntmps149
        go_wp2
        go_ret
        exact ⟨_, rfl, unhide HL, rfl⟩
    · by_cases c3 : 256 ≤ y
      · obtain ⟨b1, b2, b3, b4⟩ := len8_of (y / 256) (by omega) (by omega)
        have IX := fun w => run_index_len8tab w 9 .u8 (y / 256) Tryz.underlying9 (by omega) (by omega)
        have HL : Hid (LenIs y (8 + Lib.len8 (y / 256))) := by
          have q := len_up y 8 (Lib.len8 (y / 256)) (by omega) b1 (by omega) (by rw [show y / 2 ^ (8 : Int).toNat = y / 256 from by rw [show (2 : Int) ^ (8 : Int).toNat = 256 from by decide] <;> omega]; exact b3) (by rw [show y / 2 ^ (8 : Int).toNat = y / 256 from by rw [show (2 : Int) ^ (8 : Int).toNat = 256 from by decide] <;> omega]; exact b4)
          exact hide q
        clear b3 b4
        go_enter Tryz.func149, Tryz.ntmps149
        go_wp2
        go_ret
        exact ⟨_, rfl, unhide HL, rfl⟩
      · obtain ⟨b1, b2, b3, b4⟩ := len8_of (y) (by omega) (by omega)
        have IX := fun w => run_index_len8tab w 9 .u8 (y) Tryz.underlying9 (by omega) (by omega)
        have HL : Hid (LenIs y (Lib.len8 (y))) := by
          have q := len_up y 0 (Lib.len8 (y)) (by omega) b1 (by omega) (by rw [show y / 2 ^ (0 : Int).toNat = y from by rw [show (2 : Int) ^ (0 : Int).toNat = 1 from by decide] <;> omega]; exact b3) (by rw [show y / 2 ^ (0 : Int).toNat = y from by rw [show (2 : Int) ^ (0 : Int).toNat = 1 from by decide] <;> omega]; exact b4)
          rw [Int.zero_add] at q; exact hide q
        clear b3 b4
        go_enter Tryz.func149, Tryz.ntmps149
        go_wp2
        go_ret
        exact ⟨_, rfl, unhide HL, rfl⟩

set_option maxHeartbeats 400000 in
theorem lead64 (y : Int) (hy : 0 < y) (hy' : y < 18446744073709551616) (w : World) :
    Calls Tryz.prog 148 #[.int .u64 y] w fun e w' => ∃ s, e = .returned (.int .i64 s) ∧ (0 ≤ s ∧ s ≤ 63 ∧ 9223372036854775808 ≤ y * 2 ^ s.toNat ∧ y * 2 ^ s.toNat < 18446744073709551616) ∧ w' = w := by
  go_enter Tryz.func148, Tryz.ntmps148
  go_wp2_with fail
  refine (len64 y hy hy' _).mono ?_
  rintro e w1 ⟨n, rfl, hn, rfl⟩
  obtain ⟨n1, n2, n3, n4⟩ := hn
  have HN := hide (And.intro n3 n4)
  clear n3 n4
  go_wp2
  go_ret
  refine ⟨64 - n, rfl, ⟨by omega, by omega, ?_, ?_⟩, rfl⟩
  · have p : (2 : Int) ^ (n - 1).toNat * 2 ^ (64 - n).toNat = 9223372036854775808 := by rw [← Int.pow_add, show (n - 1).toNat + (64 - n).toNat = 63 from by omega]; decide
    rw [← p]
    exact Int.mul_le_mul_of_nonneg_right (unhide HN).1 (Int.le_of_lt (Int.pow_pos (by decide)))
  · have p : (2 : Int) ^ n.toNat * 2 ^ (64 - n).toNat = 18446744073709551616 := by rw [← Int.pow_add, show n.toNat + (64 - n).toNat = 64 from by omega]; decide
    rw [← p]
    exact Int.mul_lt_mul_of_pos_right (unhide HN).2 (Int.pow_pos (by decide))

end Go.Proofs.YtopaakjildmjcaaGreat
