/- Package root's whole root: half, guess, newton and Whole, walked: what each returns, in whole numbers. -/
import Derived.Test.YtopaakjildmjcaaGreatRootMath
import Derived.Test.YtopaakjildmjcaaGreatDiv64
import Derived.Test.YtopaakjildmjcaaGreatWideV
import Derived.Deep.RegionHeld3
import Derived.Deep.DeepCutAuto
import Derived.WalkMore
namespace Go.Proofs.YtopaakjildmjcaaGreat
open Go.RowKit Go.Proofs.Wd
set_option linter.unusedVariables false
set_option linter.unusedSimpArgs false
set_option maxRecDepth 10000

/-- math/bits.Len64 of 0. -/
theorem len64_0 (w : World) :
    Calls Tryz.prog 149 #[.int .u64 0] w fun e w' => e = .returned (.int .i64 0) ∧ w' = w := by
  have IX := fun w => Go.Lib.run_index_len8tab w 9 .u8 0 Tryz.underlying9 (by omega) (by omega)
  have h : Lib.len8 0 = 0 := by decide +kernel
  rw [h] at IX
  clear h
  go_enter Tryz.func149, Tryz.ntmps149
  go_wp2
  go_ret
  exact ⟨rfl, rfl⟩

/-- 2 to half of n, upwards. -/
def halfP (n : Int) : Int := 2 ^ ((n + 1) / 2).toNat
theorem halfP_pos (n : Int) : 0 < halfP n := Int.pow_pos (by decide)
theorem halfP_le (n : Int) (h : n ≤ 126) : halfP n ≤ 9223372036854775808 := by
  unfold halfP
  exact Int.le_trans (pow_le _ 63 (by omega)) (by decide)
theorem halfP_sq (n v : Int) (h0 : 0 ≤ n) (h : v < 2 ^ n.toNat) : v < halfP n * halfP n := by
  unfold halfP
  rw [← Int.pow_add]
  exact Int.lt_of_lt_of_le h (pow_le _ _ (by omega))

theorem len_le62 (h n : Int) (hh : h < 4611686018427387904) (hn : LenIs h n) : n ≤ 62 := by
  obtain ⟨a, b, c, d⟩ := hn
  by_cases g : n ≤ 62
  · exact g
  · have := pow_le 62 (n - 1).toNat (by omega)
    have e : (2 : Int) ^ 62 = 4611686018427387904 := by decide
    omega
theorem len_val (h l n : Int) (hl : U64 l) (hn : LenIs h n) : val h l < 2 ^ (64 + n).toNat := by
  obtain ⟨a, b, c, d⟩ := hn
  unfold U64 at hl
  unfold val
  rw [show (64 + n).toNat = n.toNat + 64 from by omega, Int.pow_add, show (2 : Int) ^ 64 = 18446744073709551616 from by decide]
  generalize (2 : Int) ^ n.toNat = p at *
  have : (h + 1) * 18446744073709551616 ≤ p * 18446744073709551616 := Int.mul_le_mul_of_nonneg_right (by omega) (by decide)
  omega

theorem val_high (h l : Int) (hl : U64 l) : val h l / 18446744073709551616 = h := by unfold U64 at hl; unfold val; omega

theorem keep1 {w W w1 : World} {b0 : Nat} {x0 x1 : Value} (h : Grown W w1)
    (hv : W.cell? ⟨b0, 0, none⟩ = some x0 ∧ W.cell? ⟨b0, 1, none⟩ = some x1 ∧ Grown w W) :
    w1.cell? ⟨b0, 0, none⟩ = some x0 ∧ w1.cell? ⟨b0, 1, none⟩ = some x1 ∧ Grown w w1 :=
  ⟨gat h hv.1, gat h hv.2.1, gtrans hv.2.2 h⟩

/-- What Whole answers: a number, and an error. -/
def whN (v : Int) : Int := if 0 ≤ v ∧ v < 85070591730234615865843651857942052864 then rt v else 0
def whE (v : Int) : Int := if 0 ≤ v ∧ v < 85070591730234615865843651857942052864 then 0 else 2
theorem wh_bad (v : Int) (h : ¬ (0 ≤ v ∧ v < 85070591730234615865843651857942052864)) : whN v = 0 ∧ whE v = 2 := by unfold whN whE; rw [if_neg h, if_neg h]; exact ⟨rfl, rfl⟩
theorem wh_good (v : Int) (h : 0 ≤ v ∧ v < 85070591730234615865843651857942052864) : whN v = rt v ∧ whE v = 0 := by unfold whN whE; rw [if_pos h, if_pos h]; exact ⟨rfl, rfl⟩

end Go.Proofs.YtopaakjildmjcaaGreat
