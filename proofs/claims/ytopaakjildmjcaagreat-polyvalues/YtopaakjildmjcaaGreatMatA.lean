/- Package mat: fits, Check, at, part, rows, dot; the laws' long. -/
import Derived.Test.YtopaakjildmjcaaGreatVecRow
import Derived.Test.YtopaakjildmjcaaGreatMatMath
import Derived.Test.YtopaakjildmjcaaGreatUnitN
namespace Go.Proofs.YtopaakjildmjcaaGreat
open Go.RowKit Go.Proofs.Wd
set_option linter.unusedVariables false
set_option linter.unusedSimpArgs false
set_option maxRecDepth 10000

/-- A matrix has from 1 to 12 rows and columns, and as many numbers. -/
def okM (r c : Int) (len : Nat) : Prop := (1 ≤ r ∧ r ≤ 12) ∧ (1 ≤ c ∧ c ≤ 12) ∧ (len : Int) = r * c
open Classical in
noncomputable def chk (r c : Int) (len : Nat) : Int := if okM r c len then 0 else 3
theorem chk_ok {r c : Int} {len : Nat} (h : okM r c len) : chk r c len = 0 := if_pos h
theorem chk_bad {r c : Int} {len : Nat} (h : ¬ okM r c len) : chk r c len = 3 := if_neg h
theorem mul12 (r c : Int) (hr : 1 ≤ r ∧ r ≤ 12) (hc : 1 ≤ c ∧ c ≤ 12) : 1 ≤ r * c ∧ r * c ≤ 144 := by
  have h1 : 1 * 1 ≤ r * c := Int.mul_le_mul hr.1 hc.1 (by omega) (by omega)
  have h2 : r * c ≤ 12 * 12 := Int.mul_le_mul hr.2 hc.2 (by omega) (by omega)
  omega
theorem mul12n (r c : Nat) (hr : 1 ≤ r ∧ r ≤ 12) (hc : 1 ≤ c ∧ c ≤ 12) : 1 ≤ r * c ∧ r * c ≤ 144 := by
  have := mul12 r c (by omega) (by omega)
  rw [← Int.natCast_mul] at this
  omega

set_option maxHeartbeats 400000 in
theorem matFits (x : Int) (w : World) : Calls Tryz.prog 74 #[.int .i64 x] w fun e w' => e = .returned (.bool (decide (1 ≤ x ∧ x ≤ 12))) ∧ w' = w := by
  by_cases h1 : 1 ≤ x
  · by_cases h2 : x ≤ 12
    · go_enter Tryz.func74, Tryz.ntmps74
      go_wp2
      go_ret
      exact ⟨by simp [h1, h2], rfl⟩
    · go_enter Tryz.func74, Tryz.ntmps74
      go_wp2
      go_ret
      exact ⟨by simp [h1, h2], rfl⟩
  · go_enter Tryz.func74, Tryz.ntmps74
    go_wp2
    go_ret
    exact ⟨by simp; omega, rfl⟩

set_option maxHeartbeats 1000000 in
theorem matCheck (r c : Int) (ao : Option Addr) (len cap : Nat) (w : World) : Calls Tryz.prog 43 #[.agg #[.int .i64 r, .int .i64 c, .slice ao len cap]] w fun e w' => e = .returned (.int .i64 (chk r c len)) ∧ Grown w w' := by
  have F1 := hide (fun w => matFits r w)
  have F2 := hide (fun w => matFits c w)
  by_cases h1 : 1 ≤ r ∧ r ≤ 12
  · rw [decide_eq_true h1] at F1
    by_cases h2 : 1 ≤ c ∧ c ≤ 12
    · rw [decide_eq_true h2] at F2
      have hw : wrap64 (r * c) = r * c := by
        have := mul12 r c h1 h2
        unfold wrap64
        omega
      by_cases h3 : (len : Int) = r * c
      · have E := hide (chk_ok (r := r) (c := c) (len := len) ⟨h1, h2, h3⟩)
        have b3 : ((len : Int) != r * c) = false := by simpa using h3
        have H3 := hide h3
        clear h1 h2 h3
        go_enter Tryz.func43, Tryz.ntmps43
        go_wp2_with fail
        refine (unhide F1 _).mono ?_
        rintro e w1 ⟨rfl, rfl⟩
        go_wp2_with fail
        refine (unhide F2 _).mono ?_
        rintro e w1 ⟨rfl, rfl⟩
        go_wp2
        go_ret
        exact ⟨by rw [unhide E]; rfl, (Grown.refl _).alloc _ _⟩
      · have E := hide (chk_bad (r := r) (c := c) (len := len) (fun h => h3 h.2.2))
        have b3 : ((len : Int) != r * c) = true := by simpa using h3
        have H3 := hide h3
        clear h1 h2 h3
        go_enter Tryz.func43, Tryz.ntmps43
        go_wp2_with fail
        refine (unhide F1 _).mono ?_
        rintro e w1 ⟨rfl, rfl⟩
        go_wp2_with fail
        refine (unhide F2 _).mono ?_
        rintro e w1 ⟨rfl, rfl⟩
        go_wp2
        go_ret
        exact ⟨by rw [unhide E]; rfl, (Grown.refl _).alloc _ _⟩
    · rw [decide_eq_false h2] at F2
      have E := hide (chk_bad (r := r) (c := c) (len := len) (fun h => h2 h.2.1))
      clear h1 h2
      go_enter Tryz.func43, Tryz.ntmps43
      go_wp2_with fail
      refine (unhide F1 _).mono ?_
      rintro e w1 ⟨rfl, rfl⟩
      go_wp2_with fail
      refine (unhide F2 _).mono ?_
      rintro e w1 ⟨rfl, rfl⟩
      go_wp2
      go_ret
      exact ⟨by rw [unhide E]; rfl, (Grown.refl _).alloc _ _⟩
  · rw [decide_eq_false h1] at F1
    have E := hide (chk_bad (r := r) (c := c) (len := len) (fun h => h1 h.1))
    clear h1
    go_enter Tryz.func43, Tryz.ntmps43
    go_wp2_with fail
    refine (unhide F1 _).mono ?_
    rintro e w1 ⟨rfl, rfl⟩
    go_wp2
    go_ret
    exact ⟨by rw [unhide E]; rfl, (Grown.refl _).alloc _ _⟩

end Go.Proofs.YtopaakjildmjcaaGreat
