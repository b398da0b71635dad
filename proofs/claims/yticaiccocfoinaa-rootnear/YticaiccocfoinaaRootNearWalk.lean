/- A root is the nearest one, roots rise, and nothing from 0 on is cut: the walk of the law RootNear. -/
import Derived.Test.YticaiccocfoinaaRootNearCore
namespace Go.Proofs.Yticaiccocfoinaa
open Go.RowKit Go.Proofs.Wd
set_option linter.unusedVariables false
set_option linter.unusedSimpArgs false

theorem cmpI_ge (x y : Int) (h : y ≤ x) : 0 ≤ cmpI x y := by unfold cmpI; rw [if_neg (by omega)]; split <;> omega

set_option maxHeartbeats 1000000 in
set_option maxRecDepth 100000 in
theorem lawRootNear (a b : Int) (ha : I64 a) (hb : I64 b) (w : World) :
    Calls Try.prog 6 #[.int .i64 a, .int .i64 b] w fun e w' => e = .returned (.bool true) ∧ Grown w w' := by
  have W := hide (fun w => rootAwake w)
  have S1 := hide (fun w => rootSqrt a ha w)
  have S2 := hide (fun w => rootSqrt b hb w)
  by_cases ca : a < 0
  · rw [show sqN a = 0 from by unfold sqN; rw [if_pos ca], show decide (a < 0) = true from by simpa using ca] at S1
    generalize sqN b = y at *
    clear ha hb
    by_cases cb : b < 0
    · rw [show decide (b < 0) = true from by simpa using cb] at S2
      go_enter Try.func6, Try.ntmps6
      go_wp2_with fail
      refine (unhide W _).mono ?_
      rintro e w1 ⟨rfl, hg1⟩
      go_wp2_with fail
      refine (unhide S1 _).mono ?_
      rintro e w2 ⟨rfl, hg2⟩
      go_wp2_with fail
      refine (unhide S2 _).mono ?_
      rintro e w3 ⟨rfl, hg3⟩
      go_wp2
      go_ret
      exact ⟨rfl, gtrans hg1 (gtrans hg2 hg3)⟩
    · rw [show decide (b < 0) = false from by simpa using cb] at S2
      have cb' : 0 ≤ b := by omega
      clear cb
      go_enter Try.func6, Try.ntmps6
      go_wp2_with fail
      refine (unhide W _).mono ?_
      rintro e w1 ⟨rfl, hg1⟩
      go_wp2_with fail
      refine (unhide S1 _).mono ?_
      rintro e w2 ⟨rfl, hg2⟩
      go_wp2_with fail
      refine (unhide S2 _).mono ?_
      rintro e w3 ⟨rfl, hg3⟩
      go_wp2
      go_ret
      exact ⟨rfl, gtrans hg1 (gtrans hg2 hg3)⟩
  · have ca' : 0 ≤ a := by omega
    rw [show decide (a < 0) = false from by simpa using ca] at S1
    by_cases cb : b < 0
    · rw [show decide (b < 0) = true from by simpa using cb] at S2
      generalize sqN a = x at *
      generalize sqN b = y at *
      clear ha hb ca
      go_enter Try.func6, Try.ntmps6
      go_wp2_with fail
      refine (unhide W _).mono ?_
      rintro e w1 ⟨rfl, hg1⟩
      go_wp2_with fail
      refine (unhide S1 _).mono ?_
      rintro e w2 ⟨rfl, hg2⟩
      go_wp2_with fail
      refine (unhide S2 _).mono ?_
      rintro e w3 ⟨rfl, hg3⟩
      go_wp2
      go_ret
      exact ⟨rfl, gtrans hg1 (gtrans hg2 hg3)⟩
    · have cb' : 0 ≤ b := by omega
      rw [show decide (b < 0) = false from by simpa using cb] at S2
      have ex : sqN a = nr (a * 4294967296) := by unfold sqN; rw [if_neg ca]
      have ey : sqN b = nr (b * 4294967296) := by unfold sqN; rw [if_neg cb]
      rw [ex] at S1
      rw [ey] at S2
      have x0 := nr_nonneg (a * 4294967296)
      have x1 := sq_lt63 a ca' ha
      have hi := nr_high (a * 4294967296) (by omega)
      have lo := nr_low (a * 4294967296) (by omega)
      have mo := nr_mono (a * 4294967296) (b * 4294967296) (by omega)
      clear ex ey
      generalize nr (a * 4294967296) = x at *
      generalize nr (b * 4294967296) = y at *
      have Px := Int.mul_nonneg x0 x0
      have Pm : x * x ≤ x * 9223372036854775807 := Int.mul_le_mul_of_nonneg_left (by omega) x0
      have hP : a * 4294967296 < 39614081257132168796771975168 := by unfold I64 at ha; omega
      have K1 := hide (fun w => cmpV (a * 4294967296) (x * x + x) w)
      have K2 := hide (fun w => cmpV (a * 4294967296) (x * x + (1 - x)) w)
      rw [wrapW_in (a * 4294967296) (by omega), wrapW_in (x * x + x) (by omega)] at K1
      rw [wrapW_in (a * 4294967296) (by omega), wrapW_in (x * x + (1 - x)) (by omega)] at K2
      have x2 : I64 x := by unfold I64; omega
      have x3 : I64 (1 - x) := by unfold I64; omega
      have d1 := cmpI_le (a * 4294967296) (x * x + x) hi
      have hq : x = 0 ∨ (0 < x ∧ 0 ≤ cmpI (a * 4294967296) (x * x + (1 - x))) := by
        by_cases hx : x = 0
        · exact Or.inl hx
        · exact Or.inr ⟨by omega, cmpI_ge _ _ (lo hx)⟩
      refine rootNear_core a b x y (a * 4294967296) (x * x) _ _ ca' cb' x0 (by omega) d1 hq ?_ w W S1 S2 (hide fun w => wideMul a 4294967296 ha (by unfold I64; omega) w) (hide fun w => wideMul x x x2 x2 w) (hide fun w => wideOf x x2 w) (hide fun w => addV (x * x) x w) (hide fun w => wideOf (1 - x) x3 w) (hide fun w => addV (x * x) (1 - x) w) K1 K2
      by_cases o : b < a
      · exact Or.inl o
      · exact Or.inr ⟨by omega, mo (by omega)⟩

end Go.Proofs.Yticaiccocfoinaa
