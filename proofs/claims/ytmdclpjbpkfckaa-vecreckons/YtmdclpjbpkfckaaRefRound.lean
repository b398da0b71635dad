/- The document's quotient, bit by bit, is the rounded quotient: the loop of its helper rounded walked. -/
import Derived.Test.YtmdclpjbpkfckaaRefA
import Derived.Test.YtmdclpjbpkfckaaNearMath
import Derived.Deep.DeepCutAuto
import Derived.Deep.RegionWith
namespace Go.Proofs.Ytmdclpjbpkfckaa
open Go.RowKit Go.Proofs.Wd
set_option linter.unusedVariables false
set_option linter.unusedSimpArgs false
attribute [local go_sem ↓] Go.wp_at_zero Go.wp_at_succ

theorem umag_small (A : Int) (h : 0 ≤ A ∧ A < 340282366920938463463374607431768211456) : umag A = A := by unfold umag; omega
theorem pow_half (a : Int) (k : Nat) : a / 2 ^ k = 2 * (a / 2 ^ (k + 1)) + a / 2 ^ k % 2 := by
  have e : a / 2 ^ (k + 1) = a / 2 ^ k / 2 := by rw [Int.ediv_ediv_of_nonneg (Int.le_of_lt (pow2_pos k))]; rw [Int.pow_succ]
  rw [e]; omega
/-- One step of a long division: the next bit is t. -/
theorem long_step (x d t : Int) (hd : 0 < d) (ht : t = 0 ∨ t = 1) :
    (2 * (x % d) + t < d → (2 * x + t) / d = 2 * (x / d) ∧ (2 * x + t) % d = 2 * (x % d) + t) ∧
    (¬ 2 * (x % d) + t < d → (2 * x + t) / d = 2 * (x / d) + 1 ∧ (2 * x + t) % d = 2 * (x % d) + t + -d) := by
  have e1 := Int.emod_add_mul_ediv x d
  have e2 := Int.emod_nonneg x (by omega : d ≠ 0)
  have e3 := Int.emod_lt_of_pos x hd
  constructor
  · intro h
    exact du hd (by grind) (by omega) h
  · intro h
    exact du hd (by grind) (by omega) (by omega)
theorem one_bit (a : Int) : one (decide (a % 2 = 1)) = a % 2 := by
  unfold one
  by_cases h : a % 2 = 1
  · simp [h]
  · simp [h]; omega

theorem next_of (Q : Int) : hiOf (wrapW Q + val 0 1) = hiOf (Q + 1) ∧ loOf (wrapW Q + val 0 1) = loOf (Q + 1) := by
  unfold hiOf loOf wrapW val; omega
theorem hilo_ne_u (A B : Int) (hA : 0 ≤ A ∧ A < 340282366920938463463374607431768211456) (hB : 0 ≤ B ∧ B < 340282366920938463463374607431768211456) (h : A ≠ B) : hiOf A ≠ hiOf B ∨ loOf A ≠ loOf B := by
  unfold hiOf loOf; omega
theorem even_next (Q : Int) : hiOf (2 * Q + one false) = hiOf (2 * Q + 1) ∧ IntKind.u64.wrap (loOf (2 * Q + one false) + 1) = loOf (2 * Q + 1) := by
  rw [IntKind.wrap_u64]; unfold one hiOf loOf; simp; omega
theorem div128 (A : Int) (h0 : 0 ≤ A) (h1 : A < 340282366920938463463374607431768211456) : A / 2 ^ 128 = 0 :=
  Int.ediv_eq_zero_of_lt h0 (Int.lt_of_lt_of_le h1 (by decide))

set_option maxHeartbeats 2000000 in
theorem refRounded_loop (A D : Int) (hA : 0 ≤ A ∧ A ≤ 170141183460469231731687303715884105728) (hD : 0 < D ∧ D ≤ 170141183460469231731687303715884105728) (w : World) :
    Calls Try.prog 93 #[.agg #[.int .i64 (hiOf A), .int .u64 (loOf A)], .agg #[.int .i64 (hiOf D), .int .u64 (loOf D)]] w fun e w' => e = .returned (.agg #[.int .i64 (hiOf (nearQ (A / D) (A % D) (D - A % D))), .int .u64 (loOf (nearQ (A / D) (A % D) (D - A % D)))]) ∧ Grown w w' := by
  go_enter Try.func93, Try.ntmps93
  go_wp2
  have u0 : A / 2 ^ 128 = 0 := div128 A hA.1 (by omega)
  have z0 : hiOf (A / 2 ^ 128 / D) = 0 ∧ loOf (A / 2 ^ 128 / D) = 0 := by rw [u0, Int.zero_ediv]; decide
  have z1 : hiOf (A / 2 ^ 128 % D) = 0 ∧ loOf (A / 2 ^ 128 % D) = 0 := by rw [u0, Int.zero_emod]; decide
  have Z0 := hide z0; have Z1 := hide z1
  clear u0 z0 z1
  go_loopw [7] (fun i wr => ∃ k : Nat, k ≤ 128 ∧ i = .int .i64 ((k : Int) - 1) ∧ (wr.cell? ⟨w.heap.size, 0, none⟩ = some (.int .i64 (hiOf (A))) ∧ wr.cell? ⟨w.heap.size, 1, none⟩ = some (.int .u64 (loOf (A)))) ∧ (wr.cell? ⟨w.heap.size + 1, 0, none⟩ = some (.int .i64 (hiOf (D))) ∧ wr.cell? ⟨w.heap.size + 1, 1, none⟩ = some (.int .u64 (loOf (D)))) ∧ (wr.cell? ⟨w.heap.size + 1 + 1, 0, none⟩ = some (.int .i64 0) ∧ wr.cell? ⟨w.heap.size + 1 + 1, 1, none⟩ = some (.int .u64 0)) ∧ (wr.cell? ⟨w.heap.size + 1 + 1 + 1, 0, none⟩ = some (.int .i64 (hiOf (A / 2 ^ k / D))) ∧ wr.cell? ⟨w.heap.size + 1 + 1 + 1, 1, none⟩ = some (.int .u64 (loOf (A / 2 ^ k / D)))) ∧ (wr.cell? ⟨w.heap.size + 1 + 1 + 1 + 1, 0, none⟩ = some (.int .i64 (hiOf (A / 2 ^ k % D))) ∧ wr.cell? ⟨w.heap.size + 1 + 1 + 1 + 1, 1, none⟩ = some (.int .u64 (loOf (A / 2 ^ k % D)))) ∧ Grown w wr) (fun i _ => (intOf i + 1).toNat)
  case atStart =>
    refine ⟨128, by omega, rfl, ⟨by simp [go_sem], by simp [go_sem]⟩, ⟨by simp [go_sem], by simp [go_sem]⟩, ⟨by simp [go_sem], by simp [go_sem]⟩, ⟨?_, ?_⟩, ⟨?_, ?_⟩, (((((Grown.refl _).alloc _ _).alloc _ _).alloc _ _).alloc _ _).alloc _ _⟩
    · rw [(unhide Z0).1]; simp [go_sem]
    · rw [(unhide Z0).2]; simp [go_sem]
    · rw [(unhide Z1).1]; simp [go_sem]
    · rw [(unhide Z1).2]; simp [go_sem]
  case round =>
    obtain ⟨k, hk, rfl, ⟨a00, a01⟩, ⟨d00, d01⟩, ⟨z00, z01⟩, ⟨q00, q01⟩, ⟨r00, r01⟩, hg0⟩ := hrel
    clear Z0 Z1
    by_cases hk0 : k = 0
    · subst hk0
      rw [show A / 2 ^ 0 = A from by simp] at q00 q01 r00 r01
      have hr0 := Int.emod_nonneg A (by omega : D ≠ 0)
      have hr1 := Int.emod_lt_of_pos A hD.1
      obtain ⟨Q, hQ⟩ : ∃ Q, A / D = Q := ⟨_, rfl⟩
      obtain ⟨R, hR⟩ : ∃ R, A % D = R := ⟨_, rfl⟩
      rw [hQ] at q00 q01
      rw [hR] at r00 r01 hr0 hr1
      have HQ := hide hQ; have HR := hide hR
      clear hQ hR
      have BL := hide (fun w => refBelow (D + -R) R w)
      rw [umag_small (D + -R) (by omega), umag_small R (by omega)] at BL
      have A1 := hide (fun w => refAdd (hiOf Q) (loOf Q) 0 1 (hiOf_I64 _) (loOf_U64 _) (by unfold I64; omega) (by unfold U64; omega) w)
      rw [val_of, (next_of Q).1, (next_of Q).2] at A1
      have hlo := loOf_U64 Q
      unfold U64 at hlo
      have hpar : loOf Q % 2 = Q % 2 := by unfold loOf; omega
      have HP := hide hpar
      have HNE := hide (fun h => hilo_ne_u (D + -R) R (by omega) (by omega) h)
      clear hpar
      go_upto_region 10 with fail
      go_cut [8] (fun s8 wx => ∃ g, s8 = .pointer (some ⟨g, 0, none⟩) ∧ (wx.cell? ⟨g, 0, none⟩ = some (.int .i64 (hiOf (D + -R))) ∧ wx.cell? ⟨g, 1, none⟩ = some (.int .u64 (loOf (D + -R)))) ∧ (wx.cell? ⟨w.heap.size, 0, none⟩ = some (.int .i64 (hiOf (A))) ∧ wx.cell? ⟨w.heap.size, 1, none⟩ = some (.int .u64 (loOf (A)))) ∧ (wx.cell? ⟨w.heap.size + 1, 0, none⟩ = some (.int .i64 (hiOf (D))) ∧ wx.cell? ⟨w.heap.size + 1, 1, none⟩ = some (.int .u64 (loOf (D)))) ∧ (wx.cell? ⟨w.heap.size + 1 + 1, 0, none⟩ = some (.int .i64 0) ∧ wx.cell? ⟨w.heap.size + 1 + 1, 1, none⟩ = some (.int .u64 0)) ∧ (wx.cell? ⟨w.heap.size + 1 + 1 + 1, 0, none⟩ = some (.int .i64 (hiOf (Q))) ∧ wx.cell? ⟨w.heap.size + 1 + 1 + 1, 1, none⟩ = some (.int .u64 (loOf (Q)))) ∧ (wx.cell? ⟨w.heap.size + 1 + 1 + 1 + 1, 0, none⟩ = some (.int .i64 (hiOf (R))) ∧ wx.cell? ⟨w.heap.size + 1 + 1 + 1 + 1, 1, none⟩ = some (.int .u64 (loOf (R)))) ∧ Grown w wx)
      case first =>
        have l0 := heap_gt r00; have nr1 : w.heap.size + 1 < wr.heap.size := (by omega); have nr2 : w.heap.size + 1 + 1 < wr.heap.size := (by omega); have nr3 : w.heap.size + 1 + 1 + 1 < wr.heap.size := (by omega); have nr0 : w.heap.size < wr.heap.size := (by omega); have mr0 : wr.heap.size ≠ w.heap.size := (by omega); have pr0 : w.heap.size ≠ wr.heap.size := (by omega); have mr1 : wr.heap.size ≠ w.heap.size + 1 := (by omega); have pr1 : w.heap.size + 1 ≠ wr.heap.size := (by omega); have mr2 : wr.heap.size ≠ w.heap.size + 1 + 1 := (by omega); have pr2 : w.heap.size + 1 + 1 ≠ wr.heap.size := (by omega); have mr3 : wr.heap.size ≠ w.heap.size + 1 + 1 + 1 := (by omega); have pr3 : w.heap.size + 1 + 1 + 1 ≠ wr.heap.size := (by omega); have mr4 : wr.heap.size ≠ w.heap.size + 1 + 1 + 1 + 1 := (by omega); have pr4 : w.heap.size + 1 + 1 + 1 + 1 ≠ wr.heap.size := (by omega)
        go_region_held3 (fun w' => (w'.cell? ⟨w.heap.size + 1, 0, none⟩ = some (.int .i64 (hiOf (D))) ∧ w'.cell? ⟨w.heap.size + 1, 1, none⟩ = some (.int .u64 (loOf (D)))) ∧ (w'.cell? ⟨w.heap.size + 1 + 1 + 1 + 1, 0, none⟩ = some (.int .i64 (hiOf (R))) ∧ w'.cell? ⟨w.heap.size + 1 + 1 + 1 + 1, 1, none⟩ = some (.int .u64 (loOf (R)))))
          (simp [go_sem, *])
          (first
            | (go_at_call 65; refine (refNegV _ _).mono ?_; rintro e wm ⟨rfl, hgm⟩; have hgwm : Grown w wm := gtrans (by first | exact Grown.drew hg0 | exact Grown.drew (Grown.alloc hg0 _ _)) hgm; obtain ⟨am0, am1⟩ := gat2 hgm (w.heap.size) (.int .i64 (hiOf (A))) (.int .u64 (loOf (A))) (by constructor <;> simp [go_sem, *]); obtain ⟨dm0, dm1⟩ := gat2 hgm (w.heap.size + 1) (.int .i64 (hiOf (D))) (.int .u64 (loOf (D))) (by constructor <;> simp [go_sem, *]); obtain ⟨zm0, zm1⟩ := gat2 hgm (w.heap.size + 1 + 1) (.int .i64 0) (.int .u64 0) (by constructor <;> simp [go_sem, *]); obtain ⟨qm0, qm1⟩ := gat2 hgm (w.heap.size + 1 + 1 + 1) (.int .i64 (hiOf (Q))) (.int .u64 (loOf (Q))) (by constructor <;> simp [go_sem, *]); obtain ⟨rm0, rm1⟩ := gat2 hgm (w.heap.size + 1 + 1 + 1 + 1) (.int .i64 (hiOf (R))) (.int .u64 (loOf (R))) (by constructor <;> simp [go_sem, *]); have lm := heap_gt rm0; have nm1 : w.heap.size + 1 < wm.heap.size := (by omega); have nm2 : w.heap.size + 1 + 1 < wm.heap.size := (by omega); have nm3 : w.heap.size + 1 + 1 + 1 < wm.heap.size := (by omega); have nm0 : w.heap.size < wm.heap.size := (by omega); have mm0 : wm.heap.size ≠ w.heap.size := (by omega); have pm0 : w.heap.size ≠ wm.heap.size := (by omega); have mm1 : wm.heap.size ≠ w.heap.size + 1 := (by omega); have pm1 : w.heap.size + 1 ≠ wm.heap.size := (by omega); have mm2 : wm.heap.size ≠ w.heap.size + 1 + 1 := (by omega); have pm2 : w.heap.size + 1 + 1 ≠ wm.heap.size := (by omega); have mm3 : wm.heap.size ≠ w.heap.size + 1 + 1 + 1 := (by omega); have pm3 : w.heap.size + 1 + 1 + 1 ≠ wm.heap.size := (by omega); have mm4 : wm.heap.size ≠ w.heap.size + 1 + 1 + 1 + 1 := (by omega); have pm4 : w.heap.size + 1 + 1 + 1 + 1 ≠ wm.heap.size := (by omega); (try (refine with_gat2 hgm wr.heap.size (.int .i64 0) (.int .u64 0) ?_ ?_ ?_; (focus (first | assumption | (simp [go_sem]; done))); (focus (first | assumption | (simp [go_sem]; done))); intro yu0 yu1)))
            | (go_at_call 63; refine (refAddV _ _ _).mono ?_; rintro e wa ⟨rfl, hga⟩; have hgwa : Grown w wa := gtrans (by first | exact hgwm | exact Grown.alloc hgwm _ _) hga; have zz0 := fun o => frz hgwa wr.heap.size o hg0.2.2; have zz1 := fun o => frz hgwa wm.heap.size o hgwm.2.2; obtain ⟨aa0, aa1⟩ := gat2 hga (w.heap.size) (.int .i64 (hiOf (A))) (.int .u64 (loOf (A))) (by constructor <;> simp [go_sem, *]); obtain ⟨da0, da1⟩ := gat2 hga (w.heap.size + 1) (.int .i64 (hiOf (D))) (.int .u64 (loOf (D))) (by constructor <;> simp [go_sem, *]); obtain ⟨za0, za1⟩ := gat2 hga (w.heap.size + 1 + 1) (.int .i64 0) (.int .u64 0) (by constructor <;> simp [go_sem, *]); obtain ⟨qa0, qa1⟩ := gat2 hga (w.heap.size + 1 + 1 + 1) (.int .i64 (hiOf (Q))) (.int .u64 (loOf (Q))) (by constructor <;> simp [go_sem, *]); obtain ⟨ra0, ra1⟩ := gat2 hga (w.heap.size + 1 + 1 + 1 + 1) (.int .i64 (hiOf (R))) (.int .u64 (loOf (R))) (by constructor <;> simp [go_sem, *]); have la := heap_gt ra0; have na1 : w.heap.size + 1 < wa.heap.size := (by omega); have na2 : w.heap.size + 1 + 1 < wa.heap.size := (by omega); have na3 : w.heap.size + 1 + 1 + 1 < wa.heap.size := (by omega); have na0 : w.heap.size < wa.heap.size := (by omega); have ma0 : wa.heap.size ≠ w.heap.size := (by omega); have pa0 : w.heap.size ≠ wa.heap.size := (by omega); have ma1 : wa.heap.size ≠ w.heap.size + 1 := (by omega); have pa1 : w.heap.size + 1 ≠ wa.heap.size := (by omega); have ma2 : wa.heap.size ≠ w.heap.size + 1 + 1 := (by omega); have pa2 : w.heap.size + 1 + 1 ≠ wa.heap.size := (by omega); have ma3 : wa.heap.size ≠ w.heap.size + 1 + 1 + 1 := (by omega); have pa3 : w.heap.size + 1 + 1 + 1 ≠ wa.heap.size := (by omega); have ma4 : wa.heap.size ≠ w.heap.size + 1 + 1 + 1 + 1 := (by omega); have pa4 : w.heap.size + 1 + 1 + 1 + 1 ≠ wa.heap.size := (by omega); (try (refine with_gat2 hga wr.heap.size (.int .i64 0) (.int .u64 0) ?_ ?_ ?_; (focus (first | assumption | (simp [go_sem]; done))); (focus (first | assumption | (simp [go_sem]; done))); intro yv0 yv1)); (try (refine with_gat2 hga wm.heap.size (.int .i64 0) (.int .u64 0) ?_ ?_ ?_; (focus (first | assumption | (simp [go_sem]; done))); (focus (first | assumption | (simp [go_sem]; done))); intro yx0 yx1))))
        all_goals go_wp2_with fail
        all_goals go_meet
        all_goals refine ⟨_, rfl, ⟨?_, ?_⟩, ⟨?_, ?_⟩, ⟨?_, ?_⟩, ⟨?_, ?_⟩, ⟨?_, ?_⟩, ⟨?_, ?_⟩, ?_⟩
        all_goals first | (simp [go_sem, *]; done) | exact Grown.alloc hgwa _ _ | exact Grown.setCell (Grown.setCell hgwa hg0.2.2 _) hg0.2.2 _ | exact Grown.setCell (Grown.setCell hgwa hgwm.2.2 _) hgwm.2.2 _
      case rest =>
      obtain ⟨g, rfl, ⟨g20, g21⟩, ⟨a20, a21⟩, ⟨d20, d21⟩, ⟨z20, z21⟩, ⟨q20, q21⟩, ⟨r20, r21⟩, k2⟩ := hcut
      clear a00 a01 d00 d01 z00 z01 q00 q01 r00 r01 hg0
      by_cases c1 : D + -R < R
      · have HN := hide (show nearQ Q R (D + -R) = Q + 1 from by unfold nearQ; rw [if_pos (Or.inl c1)])
        rw [show decide (D + -R < R) = true from by simpa using c1] at BL
        clear c1
        go_wp2_with fail
        refine (unhide BL _).mono ?_
        rintro e w3 ⟨rfl, hg3⟩
        obtain ⟨z30, z31⟩ := gat2 hg3 _ _ _ ⟨z20, z21⟩
        obtain ⟨q30, q31⟩ := gat2 hg3 _ _ _ ⟨q20, q21⟩
        obtain ⟨r30, r31⟩ := gat2 hg3 _ _ _ ⟨r20, r21⟩
        obtain ⟨g30, g31⟩ := gat2 hg3 _ _ _ ⟨g20, g21⟩
        have k3 : Grown w w3 := gtrans k2 hg3
        clear hg3 k2 a20 a21 d20 d21 z20 z21 q20 q21 r20 r21 g20 g21 BL
        go_wp2_with fail
        refine (unhide A1 _).mono ?_
        rintro e w4 ⟨rfl, hg4⟩
        obtain ⟨z40, z41⟩ := gat2 hg4 _ _ _ ⟨z30, z31⟩
        obtain ⟨q40, q41⟩ := gat2 hg4 _ _ _ ⟨q30, q31⟩
        have k4 : Grown w w4 := gtrans k3 hg4
        have f4 := fun o => frz k4 (w.heap.size + 1 + 1 + 1) o (by omega)
        have f5 := fun o => frz k4 (w.heap.size + 1 + 1) o (by omega)
        clear hg4 k3 z30 z31 q30 q31 r30 r31 g30 g31
        go_wp2
        simp [bodyPost, results, Try.results93, go_sem, *]
        rw [unhide HQ, unhide HR, Int.sub_eq_add_neg, unhide HN]
        exact ⟨⟨rfl, rfl⟩, Grown.setCell (Grown.setCell (Grown.setCell (Grown.setCell k4 (by dsimp only; omega) _) (by dsimp only; omega) _) (by dsimp only; omega) _) (by dsimp only; omega) _⟩
      rw [show decide (D + -R < R) = false from by simpa using c1] at BL
      by_cases c2 : D + -R = R
      · have c3 : (hiOf (D + -R) == hiOf R) = true := by rw [c2]; simp
        have c4 : (loOf (D + -R) == loOf R) = true := by rw [c2]; simp
        by_cases c5 : Q % 2 = 1
        · have HN := hide (show nearQ Q R (D + -R) = Q + 1 from by unfold nearQ; rw [if_pos (Or.inr ⟨c2, c5⟩)])
          have c6 : loOf Q % 2 = 1 := by rw [unhide HP]; exact c5
          clear c1 c2 c5
          go_wp2_with fail
          refine (unhide BL _).mono ?_
          rintro e w3 ⟨rfl, hg3⟩
          obtain ⟨z30, z31⟩ := gat2 hg3 _ _ _ ⟨z20, z21⟩
          obtain ⟨q30, q31⟩ := gat2 hg3 _ _ _ ⟨q20, q21⟩
          obtain ⟨r30, r31⟩ := gat2 hg3 _ _ _ ⟨r20, r21⟩
          obtain ⟨g30, g31⟩ := gat2 hg3 _ _ _ ⟨g20, g21⟩
          have k3 : Grown w w3 := gtrans k2 hg3
          clear hg3 k2 a20 a21 d20 d21 z20 z21 q20 q21 r20 r21 g20 g21 BL
          go_wp2_with fail
          refine (unhide A1 _).mono ?_
          rintro e w4 ⟨rfl, hg4⟩
          obtain ⟨z40, z41⟩ := gat2 hg4 _ _ _ ⟨z30, z31⟩
          obtain ⟨q40, q41⟩ := gat2 hg4 _ _ _ ⟨q30, q31⟩
          have k4 : Grown w w4 := gtrans k3 hg4
          have f4 := fun o => frz k4 (w.heap.size + 1 + 1 + 1) o (by omega)
          have f5 := fun o => frz k4 (w.heap.size + 1 + 1) o (by omega)
          clear hg4 k3 z30 z31 q30 q31 r30 r31 g30 g31
          go_wp2
          simp [bodyPost, results, Try.results93, go_sem, *]
          rw [unhide HQ, unhide HR, Int.sub_eq_add_neg, unhide HN]
          exact ⟨⟨rfl, rfl⟩, Grown.setCell (Grown.setCell (Grown.setCell (Grown.setCell k4 (by dsimp only; omega) _) (by dsimp only; omega) _) (by dsimp only; omega) _) (by dsimp only; omega) _⟩
        · have HN := hide (show nearQ Q R (D + -R) = Q from by unfold nearQ; rw [if_neg (by omega)])
          have c6 : loOf Q % 2 = 0 := by rw [unhide HP]; omega
          clear c1 c2 c5
          go_wp2_with fail
          refine (unhide BL _).mono ?_
          rintro e w3 ⟨rfl, hg3⟩
          obtain ⟨z30, z31⟩ := gat2 hg3 _ _ _ ⟨z20, z21⟩
          obtain ⟨q30, q31⟩ := gat2 hg3 _ _ _ ⟨q20, q21⟩
          obtain ⟨r30, r31⟩ := gat2 hg3 _ _ _ ⟨r20, r21⟩
          obtain ⟨g30, g31⟩ := gat2 hg3 _ _ _ ⟨g20, g21⟩
          have k3 : Grown w w3 := gtrans k2 hg3
          clear hg3 k2 a20 a21 d20 d21 z20 z21 q20 q21 r20 r21 g20 g21 BL
          have f5 := fun o => frz k3 (w.heap.size + 1 + 1) o (by omega)
          go_wp2
          simp [bodyPost, results, Try.results93, go_sem, *]
          rw [unhide HQ, unhide HR, Int.sub_eq_add_neg, unhide HN]
          exact ⟨⟨rfl, rfl⟩, Grown.setCell (Grown.setCell k3 (by dsimp only; omega) _) (by dsimp only; omega) _⟩
      · have HN := hide (show nearQ Q R (D + -R) = Q from by unfold nearQ; rw [if_neg (by omega)])
        have hne := unhide HNE c2
        by_cases g5 : (hiOf (D + -R) == hiOf R) = true
        · have g6 : (loOf (D + -R) == loOf R) = false := by
            rw [beq_eq_false_iff_ne]; rcases hne with h | h
            · exact absurd (by simpa using g5) h
            · exact h
          clear hne c1 c2
          go_wp2_with fail
          refine (unhide BL _).mono ?_
          rintro e w3 ⟨rfl, hg3⟩
          obtain ⟨z30, z31⟩ := gat2 hg3 _ _ _ ⟨z20, z21⟩
          obtain ⟨q30, q31⟩ := gat2 hg3 _ _ _ ⟨q20, q21⟩
          obtain ⟨r30, r31⟩ := gat2 hg3 _ _ _ ⟨r20, r21⟩
          obtain ⟨g30, g31⟩ := gat2 hg3 _ _ _ ⟨g20, g21⟩
          have k3 : Grown w w3 := gtrans k2 hg3
          clear hg3 k2 a20 a21 d20 d21 z20 z21 q20 q21 r20 r21 g20 g21 BL
          have f5 := fun o => frz k3 (w.heap.size + 1 + 1) o (by omega)
          go_wp2
          simp [bodyPost, results, Try.results93, go_sem, *]
          rw [unhide HQ, unhide HR, Int.sub_eq_add_neg, unhide HN]
          exact ⟨⟨rfl, rfl⟩, Grown.setCell (Grown.setCell k3 (by dsimp only; omega) _) (by dsimp only; omega) _⟩
        · have g6 : (hiOf (D + -R) == hiOf R) = false := by simpa using g5
          clear hne c1 c2 g5
          go_wp2_with fail
          refine (unhide BL _).mono ?_
          rintro e w3 ⟨rfl, hg3⟩
          obtain ⟨z30, z31⟩ := gat2 hg3 _ _ _ ⟨z20, z21⟩
          obtain ⟨q30, q31⟩ := gat2 hg3 _ _ _ ⟨q20, q21⟩
          obtain ⟨r30, r31⟩ := gat2 hg3 _ _ _ ⟨r20, r21⟩
          obtain ⟨g30, g31⟩ := gat2 hg3 _ _ _ ⟨g20, g21⟩
          have k3 : Grown w w3 := gtrans k2 hg3
          clear hg3 k2 a20 a21 d20 d21 z20 z21 q20 q21 r20 r21 g20 g21 BL
          have f5 := fun o => frz k3 (w.heap.size + 1 + 1) o (by omega)
          go_wp2
          simp [bodyPost, results, Try.results93, go_sem, *]
          rw [unhide HQ, unhide HR, Int.sub_eq_add_neg, unhide HN]
          exact ⟨⟨rfl, rfl⟩, Grown.setCell (Grown.setCell k3 (by dsimp only; omega) _) (by dsimp only; omega) _⟩
    · obtain ⟨j, rfl⟩ : ∃ j, k = j + 1 := ⟨k - 1, by omega⟩
      rw [show ((j + 1 : Nat) : Int) - 1 = (j : Int) from by omega]
      have BT := hide (fun w => refBit A j (by omega) (by omega) w)
      rw [Int.toNat_natCast] at BT
      have hob := one_bit (A / 2 ^ j)
      obtain ⟨bt, hbt⟩ : ∃ bt, decide (A / 2 ^ j % 2 = 1) = bt := ⟨_, rfl⟩
      rw [hbt] at BT hob
      have hls := long_step (A / 2 ^ (j + 1)) D (one bt) hD.1 (by rw [hob]; omega)
      rw [hob, ← pow_half A j, ← hob] at hls
      have hr0 := Int.emod_nonneg (A / 2 ^ (j + 1)) (by omega : D ≠ 0)
      have hr1 := Int.emod_lt_of_pos (A / 2 ^ (j + 1)) hD.1
      have ho : one bt = 0 ∨ one bt = 1 := by rw [hob]; omega
      generalize A / 2 ^ (j + 1) / D = Q at *
      generalize A / 2 ^ (j + 1) % D = R at *
      have hm1 := umag_small (2 * R + one bt) (by omega)
      have hm2 := umag_small D (by omega)
      have BL := hide (fun w => refBelow (2 * R + one bt) D w)
      rw [hm1, hm2] at BL
      have HLS := hide hls
      clear hbt hob hr0 hr1 ho hm1 hm2 hk0 hls
      go_upto_region 5 with fail
      go_cut [] (fun wx => (wx.cell? ⟨w.heap.size, 0, none⟩ = some (.int .i64 (hiOf (A))) ∧ wx.cell? ⟨w.heap.size, 1, none⟩ = some (.int .u64 (loOf (A)))) ∧ (wx.cell? ⟨w.heap.size + 1, 0, none⟩ = some (.int .i64 (hiOf (D))) ∧ wx.cell? ⟨w.heap.size + 1, 1, none⟩ = some (.int .u64 (loOf (D)))) ∧ (wx.cell? ⟨w.heap.size + 1 + 1, 0, none⟩ = some (.int .i64 0) ∧ wx.cell? ⟨w.heap.size + 1 + 1, 1, none⟩ = some (.int .u64 0)) ∧ (wx.cell? ⟨w.heap.size + 1 + 1 + 1, 0, none⟩ = some (.int .i64 (hiOf (Q))) ∧ wx.cell? ⟨w.heap.size + 1 + 1 + 1, 1, none⟩ = some (.int .u64 (loOf (Q)))) ∧ (wx.cell? ⟨w.heap.size + 1 + 1 + 1 + 1, 0, none⟩ = some (.int .i64 (hiOf (2 * R + one bt))) ∧ wx.cell? ⟨w.heap.size + 1 + 1 + 1 + 1, 1, none⟩ = some (.int .u64 (loOf (2 * R + one bt)))) ∧ Grown w wx)
      case first =>
        go_region_with
          (first
            | (go_at_call 95; refine (unhide BT _).mono ?_; rintro e w1 ⟨rfl, hg1⟩; obtain ⟨a10, a11⟩ := gat2 hg1 (w.heap.size) (.int .i64 (hiOf (A))) (.int .u64 (loOf (A))) (by constructor <;> simp [go_sem, *]); obtain ⟨d10, d11⟩ := gat2 hg1 (w.heap.size + 1) (.int .i64 (hiOf (D))) (.int .u64 (loOf (D))) (by constructor <;> simp [go_sem, *]); obtain ⟨z10, z11⟩ := gat2 hg1 (w.heap.size + 1 + 1) (.int .i64 0) (.int .u64 0) (by constructor <;> simp [go_sem, *]); obtain ⟨q10, q11⟩ := gat2 hg1 (w.heap.size + 1 + 1 + 1) (.int .i64 (hiOf (Q))) (.int .u64 (loOf (Q))) (by constructor <;> simp [go_sem, *]); obtain ⟨r10, r11⟩ := gat2 hg1 (w.heap.size + 1 + 1 + 1 + 1) (.int .i64 (hiOf (R))) (.int .u64 (loOf (R))) (by constructor <;> simp [go_sem, *]); have k1 : Grown w w1 := gtrans (by exact Grown.drew hg0) hg1)
            | (go_at_call 92; refine (refTwice _ _ _).mono ?_; rintro e w2 ⟨rfl, hg2⟩; obtain ⟨a20, a21⟩ := gat2 hg2 (w.heap.size) (.int .i64 (hiOf (A))) (.int .u64 (loOf (A))) (by constructor <;> simp [go_sem, *]); obtain ⟨d20, d21⟩ := gat2 hg2 (w.heap.size + 1) (.int .i64 (hiOf (D))) (.int .u64 (loOf (D))) (by constructor <;> simp [go_sem, *]); obtain ⟨z20, z21⟩ := gat2 hg2 (w.heap.size + 1 + 1) (.int .i64 0) (.int .u64 0) (by constructor <;> simp [go_sem, *]); obtain ⟨q20, q21⟩ := gat2 hg2 (w.heap.size + 1 + 1 + 1) (.int .i64 (hiOf (Q))) (.int .u64 (loOf (Q))) (by constructor <;> simp [go_sem, *]); obtain ⟨r20, r21⟩ := gat2 hg2 (w.heap.size + 1 + 1 + 1 + 1) (.int .i64 (hiOf (R))) (.int .u64 (loOf (R))) (by constructor <;> simp [go_sem, *]); have k2 : Grown w w2 := gtrans k1 hg2; have f2 := fun o => frz k2 (w.heap.size + 1 + 1 + 1 + 1) o (by omega)))
        all_goals go_wp2_with fail
        all_goals go_meet
        all_goals exact ⟨⟨by simp [go_sem, *], by simp [go_sem, *]⟩, ⟨by simp [go_sem, *], by simp [go_sem, *]⟩, ⟨by simp [go_sem, *], by simp [go_sem, *]⟩, ⟨by simp [go_sem, *], by simp [go_sem, *]⟩, ⟨by simp [go_sem, *], by simp [go_sem, *]⟩, Grown.setCell (Grown.setCell k2 (by dsimp only; omega) _) (by dsimp only; omega) _⟩
      case rest =>
      obtain ⟨⟨a20, a21⟩, ⟨d20, d21⟩, ⟨z20, z21⟩, ⟨q20, q21⟩, ⟨r20, r21⟩, k2⟩ := hcut
      clear a00 a01 d00 d01 z00 z01 q00 q01 r00 r01 hg0
      go_wp2_with fail
      refine (refTwice _ _ _).mono ?_
      rintro e w3 ⟨rfl, hg3⟩
      obtain ⟨a30, a31⟩ := gat2 hg3 (w.heap.size) (.int .i64 (hiOf (A))) (.int .u64 (loOf (A))) (by constructor <;> simp [go_sem, *])
      obtain ⟨d30, d31⟩ := gat2 hg3 (w.heap.size + 1) (.int .i64 (hiOf (D))) (.int .u64 (loOf (D))) (by constructor <;> simp [go_sem, *])
      obtain ⟨z30, z31⟩ := gat2 hg3 (w.heap.size + 1 + 1) (.int .i64 0) (.int .u64 0) (by constructor <;> simp [go_sem, *])
      obtain ⟨q30, q31⟩ := gat2 hg3 (w.heap.size + 1 + 1 + 1) (.int .i64 (hiOf (Q))) (.int .u64 (loOf (Q))) (by constructor <;> simp [go_sem, *])
      obtain ⟨r30, r31⟩ := gat2 hg3 (w.heap.size + 1 + 1 + 1 + 1) (.int .i64 (hiOf (2 * R + one bt))) (.int .u64 (loOf (2 * R + one bt))) (by constructor <;> simp [go_sem, *])
      have k3 : Grown w w3 := gtrans k2 hg3
      have f3 := fun o => frz k3 (w.heap.size + 1 + 1 + 1) o (by omega)
      clear hg3 k2 a20 a21 d20 d21 z20 z21 q20 q21 r20 r21
      go_wp2_with fail
      refine (unhide BL _).mono ?_
      rintro e w4 ⟨rfl, hg4⟩
      obtain ⟨a40, a41⟩ := gat2 hg4 (w.heap.size) (.int .i64 (hiOf (A))) (.int .u64 (loOf (A))) (by constructor <;> simp [go_sem, *])
      obtain ⟨d40, d41⟩ := gat2 hg4 (w.heap.size + 1) (.int .i64 (hiOf (D))) (.int .u64 (loOf (D))) (by constructor <;> simp [go_sem, *])
      obtain ⟨z40, z41⟩ := gat2 hg4 (w.heap.size + 1 + 1) (.int .i64 0) (.int .u64 0) (by constructor <;> simp [go_sem, *])
      obtain ⟨q40, q41⟩ := gat2 hg4 (w.heap.size + 1 + 1 + 1) (.int .i64 (hiOf (2 * Q + one false))) (.int .u64 (loOf (2 * Q + one false))) (by constructor <;> simp [go_sem, *])
      obtain ⟨r40, r41⟩ := gat2 hg4 (w.heap.size + 1 + 1 + 1 + 1) (.int .i64 (hiOf (2 * R + one bt))) (.int .u64 (loOf (2 * R + one bt))) (by constructor <;> simp [go_sem, *])
      have k4 : Grown w w4 := gtrans (Grown.setCell (Grown.setCell k3 (by dsimp only; omega) _) (by dsimp only; omega) _) hg4
      clear hg4 k3 f3 a30 a31 d30 d31 z30 z31 q30 q31 r30 r31
      by_cases hlt : 2 * R + one bt < D
      · obtain ⟨v1, v2⟩ := (unhide HLS).1 hlt
        have V1 := hide v1; have V2 := hide v2
        rw [show decide (2 * R + one bt < D) = true from by simpa using hlt]
        clear v1 v2 hlt HLS
        go_wp2
        go_roundw
        case rel =>
          refine ⟨j, by omega, by go_num, ⟨a40, a41⟩, ⟨d40, d41⟩, ⟨z40, z41⟩, ?_, ?_, k4⟩
          · rw [unhide V1, show 2 * Q = 2 * Q + one false from by unfold one; simp]; exact ⟨q40, q41⟩
          · rw [unhide V2]; exact ⟨r40, r41⟩
        case measure => simp [intOf]
      · obtain ⟨v1, v2⟩ := (unhide HLS).2 (by omega)
        have V1 := hide v1; have V2 := hide v2
        rw [show decide (2 * R + one bt < D) = false from by simpa using hlt]
        clear v1 v2 hlt HLS
        go_upto_region 8 with fail
        go_cut [] (fun wx => (wx.cell? ⟨w.heap.size, 0, none⟩ = some (.int .i64 (hiOf (A))) ∧ wx.cell? ⟨w.heap.size, 1, none⟩ = some (.int .u64 (loOf (A)))) ∧ (wx.cell? ⟨w.heap.size + 1, 0, none⟩ = some (.int .i64 (hiOf (D))) ∧ wx.cell? ⟨w.heap.size + 1, 1, none⟩ = some (.int .u64 (loOf (D)))) ∧ (wx.cell? ⟨w.heap.size + 1 + 1, 0, none⟩ = some (.int .i64 0) ∧ wx.cell? ⟨w.heap.size + 1 + 1, 1, none⟩ = some (.int .u64 0)) ∧ (wx.cell? ⟨w.heap.size + 1 + 1 + 1, 0, none⟩ = some (.int .i64 (hiOf (2 * Q + one false))) ∧ wx.cell? ⟨w.heap.size + 1 + 1 + 1, 1, none⟩ = some (.int .u64 (loOf (2 * Q + one false)))) ∧ (wx.cell? ⟨w.heap.size + 1 + 1 + 1 + 1, 0, none⟩ = some (.int .i64 (hiOf (2 * R + one bt + -D))) ∧ wx.cell? ⟨w.heap.size + 1 + 1 + 1 + 1, 1, none⟩ = some (.int .u64 (loOf (2 * R + one bt + -D)))) ∧ Grown w wx)
        case first =>
          go_region_with
            (first
              | (go_at_call 65; refine (refNegV _ _).mono ?_; rintro e w5 ⟨rfl, hg5⟩; obtain ⟨a50, a51⟩ := gat2 hg5 (w.heap.size) (.int .i64 (hiOf (A))) (.int .u64 (loOf (A))) (by constructor <;> simp [go_sem, *]); obtain ⟨d50, d51⟩ := gat2 hg5 (w.heap.size + 1) (.int .i64 (hiOf (D))) (.int .u64 (loOf (D))) (by constructor <;> simp [go_sem, *]); obtain ⟨z50, z51⟩ := gat2 hg5 (w.heap.size + 1 + 1) (.int .i64 0) (.int .u64 0) (by constructor <;> simp [go_sem, *]); obtain ⟨q50, q51⟩ := gat2 hg5 (w.heap.size + 1 + 1 + 1) (.int .i64 (hiOf (2 * Q + one false))) (.int .u64 (loOf (2 * Q + one false))) (by constructor <;> simp [go_sem, *]); obtain ⟨r50, r51⟩ := gat2 hg5 (w.heap.size + 1 + 1 + 1 + 1) (.int .i64 (hiOf (2 * R + one bt))) (.int .u64 (loOf (2 * R + one bt))) (by constructor <;> simp [go_sem, *]); have k5 : Grown w w5 := gtrans (by exact Grown.drew k4) hg5)
              | (go_at_call 63; refine (refAddV _ _ _).mono ?_; rintro e w6 ⟨rfl, hg6⟩; obtain ⟨a60, a61⟩ := gat2 hg6 (w.heap.size) (.int .i64 (hiOf (A))) (.int .u64 (loOf (A))) (by constructor <;> simp [go_sem, *]); obtain ⟨d60, d61⟩ := gat2 hg6 (w.heap.size + 1) (.int .i64 (hiOf (D))) (.int .u64 (loOf (D))) (by constructor <;> simp [go_sem, *]); obtain ⟨z60, z61⟩ := gat2 hg6 (w.heap.size + 1 + 1) (.int .i64 0) (.int .u64 0) (by constructor <;> simp [go_sem, *]); obtain ⟨q60, q61⟩ := gat2 hg6 (w.heap.size + 1 + 1 + 1) (.int .i64 (hiOf (2 * Q + one false))) (.int .u64 (loOf (2 * Q + one false))) (by constructor <;> simp [go_sem, *]); obtain ⟨r60, r61⟩ := gat2 hg6 (w.heap.size + 1 + 1 + 1 + 1) (.int .i64 (hiOf (2 * R + one bt))) (.int .u64 (loOf (2 * R + one bt))) (by constructor <;> simp [go_sem, *]); have k6 : Grown w w6 := gtrans k5 hg6; have f6 := fun o => frz k6 (w.heap.size + 1 + 1 + 1 + 1) o (by omega)))
          all_goals go_wp2_with fail
          all_goals go_meet
          all_goals exact ⟨⟨by simp [go_sem, *], by simp [go_sem, *]⟩, ⟨by simp [go_sem, *], by simp [go_sem, *]⟩, ⟨by simp [go_sem, *], by simp [go_sem, *]⟩, ⟨by simp [go_sem, *], by simp [go_sem, *]⟩, ⟨by simp [go_sem, *], by simp [go_sem, *]⟩, Grown.setCell (Grown.setCell k6 (by dsimp only; omega) _) (by dsimp only; omega) _⟩
        case rest =>
        obtain ⟨⟨a60, a61⟩, ⟨d60, d61⟩, ⟨z60, z61⟩, ⟨q60, q61⟩, ⟨r60, r61⟩, k6⟩ := hcut
        clear a40 a41 d40 d41 z40 z41 q40 q41 r40 r41 k4
        have f7 := fun o => frz k6 (w.heap.size + 1 + 1 + 1) o (by omega)
        go_wp2
        go_roundw
        case rel =>
          refine ⟨j, by omega, by go_num, ⟨by simp [go_sem, *], by simp [go_sem, *]⟩, ⟨by simp [go_sem, *], by simp [go_sem, *]⟩, ⟨by simp [go_sem, *], by simp [go_sem, *]⟩, ?_, ?_, Grown.setCell k6 (by dsimp only; omega) _⟩
          · rw [unhide V1, ← (even_next Q).1, ← (even_next Q).2]; constructor <;> simp [go_sem, *]
          · rw [unhide V2]; constructor <;> simp [go_sem, *]
        case measure => simp [intOf]

end Go.Proofs.Ytmdclpjbpkfckaa
