/- The document's answer for fix: what taken, fits, sum, Add, Half, Sub, Neg, Mul, Whole and Div return, in whole numbers. -/
import Derived.Test.YtmdclpjbpkfckaaRefQuo
import Derived.Test.YtmdclpjbpkfckaaRefMul
import Derived.Test.YtmdclpjbpkfckaaFixMath
namespace Go.Proofs.Ytmdclpjbpkfckaa
open Go.RowKit Go.Proofs.Wd
set_option linter.unusedVariables false
set_option linter.unusedSimpArgs false
attribute [local go_sem ↓] Go.wp_at_zero Go.wp_at_succ

theorem in_wideR (v : Int) (h : -39614081257132168796771975168 ≤ v ∧ v ≤ 39614081257132168796771975168) : wrapW v = v := wrapW_in _ (by omega)

set_option maxHeartbeats 400000 in
theorem refTaken (a : Int) (h : I64 a) (w : World) :
    Calls Try.prog 61 #[.int .i64 a] w fun e w' => e = .returned (.tuple #[.int .i64 (tk a), .bool (nb a)]) ∧ Grown w w' := by
  by_cases hs : a = -9223372036854775808
  · rw [show tk a = -9223372036854775807 from by unfold tk; rw [if_pos hs], show nb a = true from by unfold nb; simp [hs]]
    go_enter Try.func61, Try.ntmps61
    go_wp2
    go_ret2
    exact ⟨rfl, Grown.refl _⟩
  · rw [show tk a = a from by unfold tk; rw [if_neg hs], show nb a = false from by unfold nb; simp [hs]]
    have hs' : ¬ a < -9223372036854775807 := by unfold I64 at h; omega
    clear hs
    go_enter Try.func61, Try.ntmps61
    go_wp2
    go_ret2
    exact ⟨rfl, Grown.refl _⟩

set_option maxHeartbeats 400000 in
theorem refFits (A : Int) (c : Bool) (hA : wrapW A = A) (w : World) :
    Calls Try.prog 62 #[.agg #[.int .i64 (hiOf A), .int .u64 (loOf A)], .bool c] w fun e w' => e = .returned (.tuple #[.int .i64 (fitI A), .bool (fitB A || c)]) ∧ Grown w w' := by
  have R := hide (fun w => refFit (hiOf A) (loOf A) (hiOf_I64 _) (loOf_U64 _) w)
  rw [val_of, hA] at R
  clear hA
  generalize fitI A = u at *
  generalize fitB A = v at *
  go_enter Try.func62, Try.ntmps62
  go_wp2_with fail
  refine (unhide R _).mono ?_
  rintro e w1 ⟨rfl, hg⟩
  have k1 : Grown w w1 := gtrans ((Grown.refl _).alloc _ _) hg
  clear hg
  cases v <;> cases c <;> (go_wp2; go_ret2; exact ⟨rfl, k1⟩)

set_option maxHeartbeats 1000000 in
theorem refSum2 (a b n V : Int) (ha : I64 a) (hb : I64 b) (h3 : 0 ≤ n) (h4 : n ≤ 127) (hV : rdiv (tk a + tk b) (2 ^ n.toNat) = V) (hW : wrapW V = V) (w : World) :
    Calls Try.prog 76 #[.int .i64 a, .int .i64 b, .int .i64 n] w fun e w' => e = .returned (.tuple #[.int .i64 (fitI V), .bool (cutB V a b)]) ∧ Grown w w' := by
  have T1 := hide (fun w => refTaken a ha w)
  have T2 := hide (fun w => refTaken b hb w)
  have O1 := hide (fun w => refOf (tk a) (tk_I64 a ha) w)
  have O2 := hide (fun w => refOf (tk b) (tk_I64 b hb) w)
  have A1 := hide (fun w => refAddV (tk a) (tk b) w)
  have h1 := tk_Fx a ha; have h2 := tk_Fx b hb
  have R1 := hide (fun w => refRound (tk a + tk b) n (in_wideR _ (by unfold Fx at h1 h2; omega)) h3 h4 w)
  rw [hV] at R1
  have K1 := hide (fun w => refFits V (nb a || nb b) hW w)
  rw [show cutB V a b = (fitB V || (nb a || nb b)) from by unfold cutB; rw [Bool.or_assoc]]
  clear h1 h2 ha hb h3 h4 hV hW
  generalize tk a = x at *
  generalize tk b = y at *
  generalize nb a = p at *
  generalize nb b = q at *
  generalize x + y = s at *
  obtain ⟨u, hu⟩ : ∃ u, fitI V = u := ⟨_, rfl⟩
  obtain ⟨v, hv⟩ : ∃ v, (fitB V || (p || q)) = v := ⟨_, rfl⟩
  rw [hu, hv] at K1 ⊢
  clear hu hv
  go_enter Try.func76, Try.ntmps76
  go_wp2_with fail
  refine (unhide T1 _).mono ?_
  rintro e w1 ⟨rfl, g1⟩
  go_wp2_with fail
  refine (unhide T2 _).mono ?_
  rintro e w2 ⟨rfl, hg2⟩
  have g2 := gtrans g1 hg2
  clear g1 hg2
  go_wp2_with fail
  refine (unhide O1 _).mono ?_
  rintro e w3 ⟨rfl, hg3⟩
  have g3 := gtrans g2 hg3
  clear g2 hg3
  go_wp2_with fail
  refine (unhide O2 _).mono ?_
  rintro e w4 ⟨rfl, hg4⟩
  have g4 := gtrans g3 hg4
  clear g3 hg4
  go_wp2_with fail
  refine (unhide A1 _).mono ?_
  rintro e w5 ⟨rfl, hg5⟩
  have g5 := gtrans g4 hg5
  clear g4 hg5
  go_wp2_with fail
  refine (unhide R1 _).mono ?_
  rintro e w6 ⟨rfl, hg6⟩
  have g6 := gtrans g5 hg6
  clear g5 hg6
  cases p <;> cases q <;> (go_wp2_with fail; refine (unhide K1 _).mono ?_; rintro e w7 ⟨rfl, hg7⟩; have g7 := gtrans (g6.alloc _ _) hg7; go_wp2; go_ret2; exact ⟨rfl, g7⟩)

theorem rawq_one (m : Int) : rawq m 1 = m := by
  unfold rawq; rw [Int.emod_one, Int.ediv_one, if_neg (by omega)]
theorem rdiv_one (v : Int) : rdiv v 1 = v := by
  unfold rdiv
  rw [show (((1 : Int).natAbs : Nat) : Int) = 1 from rfl, rawq_one]
  by_cases h : v < 0
  · rw [if_pos (by simp [h])]; omega
  · rw [if_neg (by simp [h])]; omega

set_option maxHeartbeats 400000 in
theorem refAdd2 (a b : Int) (ha : I64 a) (hb : I64 b) (w : World) :
    Calls Try.prog 57 #[.int .i64 a, .int .i64 b] w fun e w' => e = .returned (.tuple #[.int .i64 (fitI (tk a + tk b)), .bool (cutB (tk a + tk b) a b)]) ∧ Grown w w' := by
  have h1 := tk_Fx a ha; have h2 := tk_Fx b hb
  have R := hide (fun w => refSum2 a b 0 (tk a + tk b) ha hb (by omega) (by omega) (by rw [show (2 : Int) ^ (0 : Int).toNat = 1 from by decide]; exact rdiv_one _) (in_wideR _ (by unfold Fx at h1 h2; omega)) w)
  clear h1 h2 ha hb
  generalize fitI (tk a + tk b) = u at *
  generalize cutB (tk a + tk b) a b = v at *
  go_enter Try.func57, Try.ntmps57
  go_wp2_with fail
  refine (unhide R _).mono ?_
  rintro e w1 ⟨rfl, hg⟩
  go_wp2
  go_ret2
  exact ⟨rfl, hg⟩

set_option maxHeartbeats 1000000 in
theorem refSub2 (a b : Int) (ha : I64 a) (hb : I64 b) (w : World) :
    Calls Try.prog 50 #[.int .i64 a, .int .i64 b] w fun e w' => e = .returned (.tuple #[.int .i64 (fitI (tk a - tk b)), .bool (cutB (tk a - tk b) a b)]) ∧ Grown w w' := by
  have T1 := hide (fun w => refTaken a ha w)
  have T2 := hide (fun w => refTaken b hb w)
  have O1 := hide (fun w => refOf (tk a) (tk_I64 a ha) w)
  have O2 := hide (fun w => refOf (tk b) (tk_I64 b hb) w)
  have N1 := hide (fun w => refNegV (tk b) w)
  have A1 := hide (fun w => refAddV (tk a) (-tk b) w)
  rw [show tk a + -tk b = tk a - tk b from by omega] at A1
  have h1 := tk_Fx a ha; have h2 := tk_Fx b hb
  have K1 := hide (fun w => refFits (tk a - tk b) (nb a || nb b) (in_wideR _ (by unfold Fx at h1 h2; omega)) w)
  rw [show cutB (tk a - tk b) a b = (fitB (tk a - tk b) || (nb a || nb b)) from by unfold cutB; rw [Bool.or_assoc]]
  clear h1 h2 ha hb
  generalize tk a = x at *
  generalize tk b = y at *
  generalize nb a = p at *
  generalize nb b = q at *
  generalize x - y = s at *
  obtain ⟨u, hu⟩ : ∃ u, fitI s = u := ⟨_, rfl⟩
  obtain ⟨v, hv⟩ : ∃ v, (fitB s || (p || q)) = v := ⟨_, rfl⟩
  rw [hu, hv] at K1 ⊢
  clear hu hv
  go_enter Try.func50, Try.ntmps50
  go_wp2_with fail
  refine (unhide T1 _).mono ?_
  rintro e w1 ⟨rfl, g1⟩
  go_wp2_with fail
  refine (unhide T2 _).mono ?_
  rintro e w2 ⟨rfl, hg2⟩
  have g2 := gtrans g1 hg2
  clear g1 hg2
  go_wp2_with fail
  refine (unhide O1 _).mono ?_
  rintro e w3 ⟨rfl, hg3⟩
  have g3 := gtrans g2 hg3
  clear g2 hg3
  go_wp2_with fail
  refine (unhide O2 _).mono ?_
  rintro e w4 ⟨rfl, hg4⟩
  have g4 := gtrans g3 hg4
  clear g3 hg4
  go_wp2_with fail
  refine (unhide N1 _).mono ?_
  rintro e w5 ⟨rfl, hg5⟩
  have g5 := gtrans g4 hg5
  clear g4 hg5
  go_wp2_with fail
  refine (unhide A1 _).mono ?_
  rintro e w6 ⟨rfl, hg6⟩
  have g6 := gtrans g5 hg6
  clear g5 hg6
  cases p <;> cases q <;> (go_wp2_with fail; refine (unhide K1 _).mono ?_; rintro e w7 ⟨rfl, hg7⟩; have g7 := gtrans g6 hg7; go_wp2; go_ret2; exact ⟨rfl, g7⟩)

set_option maxHeartbeats 1000000 in
theorem refMul2 (a b : Int) (ha : I64 a) (hb : I64 b) (w : World) :
    Calls Try.prog 72 #[.int .i64 a, .int .i64 b] w fun e w' => e = .returned (.tuple #[.int .i64 (fitI (rdiv (tk a * tk b) 4294967296)), .bool (cutB (rdiv (tk a * tk b) 4294967296) a b)]) ∧ Grown w w' := by
  have T1 := hide (fun w => refTaken a ha w)
  have T2 := hide (fun w => refTaken b hb w)
  have M1 := hide (fun w => refMul (tk a) (tk b) (tk_I64 a ha) (tk_I64 b hb) w)
  have h1 := tk_Fx a ha; have h2 := tk_Fx b hb
  have R1 := hide (fun w => refRound (tk a * tk b) 32 (wrapW_prod _ _ h1 h2) (by omega) (by omega) w)
  rw [show (2 : Int) ^ (32 : Int).toNat = 4294967296 from by decide] at R1
  have h0 := prod_range _ _ h1 h2
  have h3 := rdiv_abs (tk a * tk b) 4294967296 85070591730234615847396907784232501249 (by omega) h0
  have K1 := hide (fun w => refFits (rdiv (tk a * tk b) 4294967296) (nb a || nb b) (wrapW_in _ (by omega)) w)
  rw [show cutB (rdiv (tk a * tk b) 4294967296) a b = (fitB (rdiv (tk a * tk b) 4294967296) || (nb a || nb b)) from by unfold cutB; rw [Bool.or_assoc]]
  clear h0 h1 h2 h3 ha hb
  generalize rdiv (tk a * tk b) 4294967296 = V at *
  generalize tk a * tk b = s at *
  generalize tk a = x at *
  generalize tk b = y at *
  generalize nb a = p at *
  generalize nb b = q at *
  obtain ⟨u, hu⟩ : ∃ u, fitI V = u := ⟨_, rfl⟩
  obtain ⟨v, hv⟩ : ∃ v, (fitB V || (p || q)) = v := ⟨_, rfl⟩
  rw [hu, hv] at K1 ⊢
  clear hu hv
  go_enter Try.func72, Try.ntmps72
  go_wp2_with fail
  refine (unhide T1 _).mono ?_
  rintro e w1 ⟨rfl, g1⟩
  go_wp2_with fail
  refine (unhide T2 _).mono ?_
  rintro e w2 ⟨rfl, hg2⟩
  have g2 := gtrans g1 hg2
  clear g1 hg2
  go_wp2_with fail
  refine (unhide M1 _).mono ?_
  rintro e w5 ⟨rfl, hg5⟩
  have g5 := gtrans g2 hg5
  clear g2 hg5
  go_wp2_with fail
  refine (unhide R1 _).mono ?_
  rintro e w6 ⟨rfl, hg6⟩
  have g6 := gtrans g5 hg6
  clear g5 hg6
  cases p <;> cases q <;> (go_wp2_with fail; refine (unhide K1 _).mono ?_; rintro e w7 ⟨rfl, hg7⟩; have g7 := gtrans (g6.alloc _ _) hg7; go_wp2; go_ret2; exact ⟨rfl, g7⟩)

theorem tk_zero (b : Int) : tk b = 0 ↔ b = 0 := by unfold tk; split <;> omega

end Go.Proofs.Ytmdclpjbpkfckaa
