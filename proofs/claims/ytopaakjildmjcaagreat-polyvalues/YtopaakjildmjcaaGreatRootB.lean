/- Package root's nearest, square, Sqrt and Hypot, walked: what each returns, in whole numbers. -/
import Derived.Test.YtopaakjildmjcaaGreatRootA
import Derived.Test.YtopaakjildmjcaaGreatFixD
namespace Go.Proofs.YtopaakjildmjcaaGreat
open Go.RowKit Go.Proofs.Wd
set_option linter.unusedVariables false
set_option linter.unusedSimpArgs false
set_option maxRecDepth 10000

theorem cmpI_gt (x y : Int) (h : y < x) : cmpI x y = 1 := by unfold cmpI; rw [if_neg (by omega), if_neg (by omega)]
theorem cmpI_le (x y : Int) (h : x ≤ y) : cmpI x y ≤ 0 := by unfold cmpI; split; omega; split <;> omega

/-- What Sqrt answers. -/
def sqN (a : Int) : Int := if a < 0 then 0 else nr (a * 4294967296)
theorem sq_lt63 (a : Int) (h0 : 0 ≤ a) (h : I64 a) : nr (a * 4294967296) < 9223372036854775808 :=
  nr_lt _ 9223372036854775808 (by omega) (by decide) (by unfold I64 at h; omega)
/-- The sum of both squares. -/
def hyp (a b : Int) : Int := tk a * tk a + tk b * tk b
theorem sq_nonneg (x : Int) : 0 ≤ x * x := by
  by_cases c : 0 ≤ x
  · exact Int.mul_nonneg c c
  · have := Int.mul_nonneg (by omega : 0 ≤ -x) (by omega : 0 ≤ -x)
    have e : -x * -x = x * x := by grind
    omega
theorem hyp_range (a b : Int) (ha : I64 a) (hb : I64 b) : 0 ≤ hyp a b ∧ hyp a b ≤ 170141183460469231694793815568465002498 := by
  unfold hyp
  have x := prod_range (tk a) (tk a) (tk_Fx a ha) (tk_Fx a ha)
  have y := prod_range (tk b) (tk b) (tk_Fx b hb) (tk_Fx b hb)
  have := sq_nonneg (tk a)
  have := sq_nonneg (tk b)
  omega
end Go.Proofs.YtopaakjildmjcaaGreat
