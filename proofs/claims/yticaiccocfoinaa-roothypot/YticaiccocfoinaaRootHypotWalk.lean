/- A hypotenuse is not less than either side, not more than both together, the same for sides turned or exchanged: the walk of the law RootHypot. -/
import Derived.Test.YticaiccocfoinaaRootE
namespace Go.Proofs.Yticaiccocfoinaa
open Go.RowKit Go.Proofs.Wd
set_option linter.unusedVariables false
set_option linter.unusedSimpArgs false

set_option maxHeartbeats 4000000 in
set_option maxRecDepth 100000 in
theorem rootHypot_core (a b A B h : Int) (c : Bool) (a0 : -9223372036854775807 ≤ a) (a1 : a ≤ 9223372036854775807) (b0 : -9223372036854775807 ≤ b) (b1 : b ≤ 9223372036854775807)
    (hA : (a < 0 ∧ A = -a) ∨ (0 ≤ a ∧ A = a)) (hB : (b < 0 ∧ B = -b) ∨ (0 ≤ b ∧ B = b)) (f1 : A ≤ h) (f2 : B ≤ h) (f3 : c = true → h = 9223372036854775807) (f4 : c = false → h ≤ A + B) (f5 : h ≤ 9223372036854775807) (w : World)
    (W : Hid (∀ w, Calls Try.prog 14 #[] w fun e w' => e = .returned (.bool true) ∧ Grown w w'))
    (P1 : Hid (∀ w, Calls Try.prog 12 #[.int .i64 a, .int .i64 b] w fun e w' => e = .returned (.tuple #[.int .i64 h, .bool c]) ∧ Grown w w'))
    (P2 : Hid (∀ w, Calls Try.prog 12 #[.int .i64 (-b), .int .i64 a] w fun e w' => e = .returned (.tuple #[.int .i64 h, .bool c]) ∧ Grown w w'))
    (P3 : Hid (∀ w, Calls Try.prog 12 #[.int .i64 a, .int .i64 0] w fun e w' => e = .returned (.tuple #[.int .i64 A, .bool false]) ∧ Grown w w')) :
    Calls Try.prog 7 #[.int .i64 a, .int .i64 b] w fun e w' => e = .returned (.bool true) ∧ Grown w w' := by
  by_cases mn : A < B <;> by_cases d : 9223372036854775807 - B < A <;> cases c <;> rcases hA with ⟨sa, hA⟩ | ⟨sa, hA⟩ <;> rcases hB with ⟨sb, hB⟩ | ⟨sb, hB⟩ <;> subst hA <;> subst hB <;> (try simp at f3) <;> (try simp at f4) <;> (try subst f3) <;> (
    go_enter Try.func7, Try.ntmps7
    go_wp2_with fail
    refine (unhide W _).mono ?_
    rintro e w1 ⟨rfl, hg1⟩
    go_wp2_with fail
    refine (unhide P1 _).mono ?_
    rintro e w2 ⟨rfl, hg2⟩
    go_wp2_with fail
    refine (unhide P2 _).mono ?_
    rintro e w3 ⟨rfl, hg3⟩
    go_wp2_with fail
    refine (unhide P3 _).mono ?_
    rintro e w4 ⟨rfl, hg4⟩
    have k4 : Grown w w4 := gtrans hg1 (gtrans hg2 (gtrans hg3 hg4))
    go_wp2
    go_ret
    exact ⟨rfl, k4⟩)

theorem abs_sq (a A : Int) (hA : (a < 0 ∧ A = -a) ∨ (0 ≤ a ∧ A = a)) : a * a = A * A := by
  rcases hA with ⟨-, rfl⟩ | ⟨-, rfl⟩
  · grind
  · rfl
theorem abs_of (a : Int) : ∃ A, (a < 0 ∧ A = -a) ∨ (0 ≤ a ∧ A = a) := by
  by_cases c : a < 0
  · exact ⟨-a, Or.inl ⟨c, rfl⟩⟩
  · exact ⟨a, Or.inr ⟨by omega, rfl⟩⟩

set_option maxHeartbeats 1000000 in
theorem lawRootHypot (a b : Int) (ha : I64 a) (hb : I64 b) (w : World) :
    Calls Try.prog 7 #[.int .i64 a, .int .i64 b] w fun e w' => e = .returned (.bool true) ∧ Grown w w' := by
  have W := hide (fun w => rootAwake w)
  have ha' := ha; have hb' := hb
  unfold I64 at ha' hb'
  by_cases n : a < -9223372036854775807 ∨ b < -9223372036854775807
  · have P := hide (fun w => rootHypot a b ha hb w)
    have e : (fitB (nr (hyp a b)) || nb a || nb b) = true := by
      rcases n with n | n
      · rw [show nb a = true from by unfold nb; simp; omega]; simp
      · rw [show nb b = true from by unfold nb; simp; omega]; simp
    rw [e] at P
    generalize fitI (nr (hyp a b)) = u at *
    clear e ha hb
    rcases n with n | n
    · go_enter Try.func7, Try.ntmps7
      go_wp2_with fail
      refine (unhide W _).mono ?_
      rintro e w1 ⟨rfl, hg1⟩
      go_wp2_with fail
      refine (unhide P _).mono ?_
      rintro e w2 ⟨rfl, hg2⟩
      go_wp2
      go_ret
      exact ⟨rfl, gtrans hg1 hg2⟩
    · by_cases m : a < -9223372036854775807
      · go_enter Try.func7, Try.ntmps7
        go_wp2_with fail
        refine (unhide W _).mono ?_
        rintro e w1 ⟨rfl, hg1⟩
        go_wp2_with fail
        refine (unhide P _).mono ?_
        rintro e w2 ⟨rfl, hg2⟩
        go_wp2
        go_ret
        exact ⟨rfl, gtrans hg1 hg2⟩
      · go_enter Try.func7, Try.ntmps7
        go_wp2_with fail
        refine (unhide W _).mono ?_
        rintro e w1 ⟨rfl, hg1⟩
        go_wp2_with fail
        refine (unhide P _).mono ?_
        rintro e w2 ⟨rfl, hg2⟩
        go_wp2
        go_ret
        exact ⟨rfl, gtrans hg1 hg2⟩
  · have fa : Fx a := by unfold Fx; omega
    have fb : Fx b := by unfold Fx; omega
    have fn : Fx (-b) := by unfold Fx; omega
    obtain ⟨A, hA⟩ := abs_of a
    obtain ⟨B, hB⟩ := abs_of b
    have A0 : 0 ≤ A := by omega
    have B0 : 0 ≤ B := by omega
    have e1 : hyp a b = A * A + B * B := by unfold hyp; rw [tk_of a fa, tk_of b fb, abs_sq a A hA, abs_sq b B hB]
    have e2 : hyp (-b) a = A * A + B * B := by
      unfold hyp; rw [tk_of (-b) fn, tk_of a fa, abs_sq a A hA]
      have := abs_sq b B hB
      have q : -b * -b = b * b := by grind
      omega
    have e3 : hyp a 0 = A * A := by unfold hyp; rw [tk_of a fa, show tk 0 = 0 from by decide, abs_sq a A hA]; omega
    have P1 := hide (fun w => rootHypot a b ha hb w)
    have P2 := hide (fun w => rootHypot (-b) a (Fx_I64 fn) ha w)
    have P3 := hide (fun w => rootHypot a 0 ha (by unfold I64; omega) w)
    have g := fit_inF A (by unfold Fx; omega)
    rw [e1, nb_of a fa, nb_of b fb, Bool.or_false, Bool.or_false] at P1
    rw [e2, nb_of a fa, nb_of (-b) fn, Bool.or_false, Bool.or_false] at P2
    rw [e3, nr_sq A A0, nb_of a fa, show nb 0 = false from by decide, Bool.or_false, Bool.or_false, g.1, g.2] at P3
    have sA := Int.mul_nonneg A0 A0; have sB := Int.mul_nonneg B0 B0; have sC := Int.mul_nonneg A0 B0
    have n1 := nr_mono (A * A) (A * A + B * B) sA (by omega)
    have n2 := nr_mono (B * B) (A * A + B * B) sB (by omega)
    have n3 := nr_mono (A * A + B * B) ((A + B) * (A + B)) (by omega) (by have : (A + B) * (A + B) = A * A + B * B + 2 * (A * B) := by grind
                                                                          omega)
    rw [nr_sq A A0] at n1
    rw [nr_sq B B0] at n2
    rw [nr_sq (A + B) (by omega)] at n3
    generalize nr (A * A + B * B) = r at *
    refine rootHypot_core a b A B (fitI r) (fitB r) (by omega) (by omega) (by omega) (by omega) hA hB ?_ ?_ ?_ ?_ ?_ w W P1 P2 P3
    · unfold fitI; split <;> (try split) <;> omega
    · unfold fitI; split <;> (try split) <;> omega
    · intro h; unfold fitB at h; simp at h; unfold fitI; split <;> (try split) <;> omega
    · intro h; unfold fitB at h; simp at h; unfold fitI; split <;> (try split) <;> omega
    · unfold fitI; split <;> (try split) <;> omega

end Go.Proofs.Yticaiccocfoinaa
