/- The document's Round and Div, walked over its helper rounded. -/
import Derived.Test.YtmdclpjbpkfckaaRefRound
namespace Go.Proofs.Ytmdclpjbpkfckaa
open Go.RowKit Go.Proofs.Wd
set_option linter.unusedVariables false
set_option linter.unusedSimpArgs false
attribute [local go_sem ↓] Go.wp_at_zero Go.wp_at_succ

theorem one_two (k : Nat) : 2 * (2 : Int) ^ k + one false = 2 ^ (k + 1) := by unfold one; rw [Int.pow_succ]; simp; omega
theorem abs_range (A : Int) (hA : wrapW A = A) : 0 ≤ absI A ∧ absI A ≤ 170141183460469231731687303715884105728 := by
  have : -170141183460469231731687303715884105728 ≤ A ∧ A < 170141183460469231731687303715884105728 := by rw [← hA]; unfold wrapW; omega
  unfold absI; split <;> omega
theorem hi_sign (A : Int) (hA : wrapW A = A) : (hiOf A < 0) = (A < 0) := by
  have : -170141183460469231731687303715884105728 ≤ A ∧ A < 170141183460469231731687303715884105728 := by rw [← hA]; unfold wrapW; omega
  unfold hiOf; apply propext; omega

set_option maxHeartbeats 4000000 in
theorem refRound (A n : Int) (hA : wrapW A = A) (h3 : 0 ≤ n) (h4 : n ≤ 127) (w : World) :
    Calls Try.prog 82 #[.agg #[.int .i64 (hiOf A), .int .u64 (loOf A)], .int .i64 n] w fun e w' => e = .returned (.tuple #[.agg #[.int .i64 (hiOf (rdiv A (2 ^ n.toNat))), .int .u64 (loOf (rdiv A (2 ^ n.toNat)))], .int .i64 0]) ∧ Grown w w' := by
  have hn0 : decide (n < 0) = false := by simp; omega
  have hn1 : decide (127 < n) = false := by simp; omega
  have hK := pow2_pos n.toNat
  have hK' := pow127 n h3 h4
  have hab := abs_range A hA
  have RD := hide (fun w => refRounded_loop (absI A) (2 ^ n.toNat) hab ⟨hK, hK'⟩ w)
  have HS := hide (sg_near A (2 ^ n.toNat) (decide (A < 0)) hK rfl)
  have HI := hide (hi_sign A hA)
  have HA := hide hA
  clear hK hK' hab hA
  go_enter Try.func82, Try.ntmps82
  go_wp2
  go_loopw [7] (fun i wr => ∃ k : Nat, (k : Int) ≤ n ∧ i = .int .i64 (k : Int) ∧ (wr.cell? ⟨w.heap.size, 0, none⟩ = some (.int .i64 (hiOf (A))) ∧ wr.cell? ⟨w.heap.size, 1, none⟩ = some (.int .u64 (loOf (A)))) ∧ (wr.cell? ⟨w.heap.size + 1, 0, none⟩ = some (.int .i64 0) ∧ wr.cell? ⟨w.heap.size + 1, 1, none⟩ = some (.int .u64 0)) ∧ (wr.cell? ⟨w.heap.size + 1 + 1, 0, none⟩ = some (.int .i64 (hiOf (2 ^ k))) ∧ wr.cell? ⟨w.heap.size + 1 + 1, 1, none⟩ = some (.int .u64 (loOf (2 ^ k)))) ∧ Grown w wr) (fun i _ => (n - intOf i).toNat)
  case atStart => exact ⟨0, by omega, rfl, ⟨by simp [go_sem], by simp [go_sem]⟩, ⟨by simp [go_sem], by simp [go_sem]⟩, ⟨by rw [show hiOf (2 ^ 0) = 0 from by decide]; simp [go_sem], by rw [show loOf (2 ^ 0) = 1 from by decide]; simp [go_sem]⟩, (((Grown.refl _).alloc _ _).alloc _ _).alloc _ _⟩
  case round =>
    obtain ⟨k, hk, rfl, ⟨a0, a1⟩, ⟨z0, z1⟩, ⟨d0, d1⟩, gr⟩ := hrel
    by_cases hlt : (k : Int) < n
    · have HT := hide (one_two k)
      go_wp2_with fail
      refine (refTwice _ _ _).mono ?_
      rintro e w1 ⟨rfl, hg1⟩
      obtain ⟨a10, a11⟩ := gat2 hg1 _ _ _ ⟨a0, a1⟩
      obtain ⟨z10, z11⟩ := gat2 hg1 _ _ _ ⟨z0, z1⟩
      obtain ⟨d10, d11⟩ := gat2 hg1 _ _ _ ⟨d0, d1⟩
      have k1 : Grown w w1 := gtrans gr hg1
      have f1 := fun o => frz k1 (w.heap.size + 1 + 1) o (by omega)
      clear hg1 a0 a1 z0 z1 d0 d1 gr
      go_wp2
      go_roundw
      case rel =>
        refine ⟨k + 1, by omega, by go_num, ⟨by simp [go_sem, *], by simp [go_sem, *]⟩, ⟨by simp [go_sem, *], by simp [go_sem, *]⟩, ?_, Grown.setCell (Grown.setCell k1 (by dsimp only; omega) _) (by dsimp only; omega) _⟩
        rw [← unhide HT]; constructor <;> simp [go_sem, *]
      case measure => simp [intOf]; omega
    · obtain rfl : n = (k : Int) := by omega
      rw [Int.toNat_natCast] at RD HS
      obtain ⟨D, hD⟩ : ∃ D, (2 : Int) ^ k = D := ⟨_, rfl⟩
      have HD := hide hD
      rw [hD] at d0 d1 RD HS
      clear hD
      obtain ⟨V, hV⟩ : ∃ V, nearQ (absI A / D) (absI A % D) (D - absI A % D) = V := ⟨_, rfl⟩
      rw [hV] at RD HS
      have HW := hide (show absI (wrapW A) = absI A from by rw [unhide HA])
      rw [← unhide HW] at RD
      clear hV
      go_upto_region 8 with fail
      go_cut [8] (fun s8 wx => ∃ g, s8 = .pointer (some ⟨g, 0, none⟩) ∧ (wx.cell? ⟨g, 0, none⟩ = some (.int .i64 (hiOf (V))) ∧ wx.cell? ⟨g, 1, none⟩ = some (.int .u64 (loOf (V)))) ∧ (wx.cell? ⟨w.heap.size, 0, none⟩ = some (.int .i64 (hiOf (A))) ∧ wx.cell? ⟨w.heap.size, 1, none⟩ = some (.int .u64 (loOf (A)))) ∧ (wx.cell? ⟨w.heap.size + 1, 0, none⟩ = some (.int .i64 0) ∧ wx.cell? ⟨w.heap.size + 1, 1, none⟩ = some (.int .u64 0)) ∧ Grown w wx)
      case first =>
        have lwr := heap_gt d0; have nwr0 : w.heap.size < wr.heap.size := (by omega); have mwr0 : wr.heap.size ≠ w.heap.size := (by omega); have pwr0 : w.heap.size ≠ wr.heap.size := (by omega); have nwr1 : w.heap.size + 1 < wr.heap.size := (by omega); have mwr1 : wr.heap.size ≠ w.heap.size + 1 := (by omega); have pwr1 : w.heap.size + 1 ≠ wr.heap.size := (by omega); have nwr2 : w.heap.size + 1 + 1 < wr.heap.size := (by omega); have mwr2 : wr.heap.size ≠ w.heap.size + 1 + 1 := (by omega); have pwr2 : w.heap.size + 1 + 1 ≠ wr.heap.size := (by omega)
        go_region_held3 (fun w' => (w'.cell? ⟨w.heap.size, 0, none⟩ = some (.int .i64 (hiOf (A))) ∧ w'.cell? ⟨w.heap.size, 1, none⟩ = some (.int .u64 (loOf (A)))) ∧ (w'.cell? ⟨w.heap.size + 1 + 1, 0, none⟩ = some (.int .i64 (hiOf (D))) ∧ w'.cell? ⟨w.heap.size + 1 + 1, 1, none⟩ = some (.int .u64 (loOf (D)))))
          (simp [go_sem, *])
          (first
            | (go_at_call 94; refine (refWhole _ _).mono ?_; rintro e wm ⟨rfl, hwm⟩; have gwm : Grown w wm := gtrans (by first | exact Grown.drew gr | exact Grown.drew (Grown.alloc gr _ _)) hwm; obtain ⟨awm0, awm1⟩ := gat2 hwm (w.heap.size) (.int .i64 (hiOf (A))) (.int .u64 (loOf (A))) (by constructor <;> simp [go_sem, *]); obtain ⟨zwm0, zwm1⟩ := gat2 hwm (w.heap.size + 1) (.int .i64 0) (.int .u64 0) (by constructor <;> simp [go_sem, *]); obtain ⟨dwm0, dwm1⟩ := gat2 hwm (w.heap.size + 1 + 1) (.int .i64 (hiOf (D))) (.int .u64 (loOf (D))) (by constructor <;> simp [go_sem, *]); have lwm := heap_gt dwm0; have nwm0 : w.heap.size < wm.heap.size := (by omega); have mwm0 : wm.heap.size ≠ w.heap.size := (by omega); have pwm0 : w.heap.size ≠ wm.heap.size := (by omega); have nwm1 : w.heap.size + 1 < wm.heap.size := (by omega); have mwm1 : wm.heap.size ≠ w.heap.size + 1 := (by omega); have pwm1 : w.heap.size + 1 ≠ wm.heap.size := (by omega); have nwm2 : w.heap.size + 1 + 1 < wm.heap.size := (by omega); have mwm2 : wm.heap.size ≠ w.heap.size + 1 + 1 := (by omega); have pwm2 : w.heap.size + 1 + 1 ≠ wm.heap.size := (by omega); (try (refine with_gat2 hwm wr.heap.size (.int .i64 0) (.int .u64 0) ?_ ?_ ?_; (focus (first | assumption | (simp [go_sem]; done))); (focus (first | assumption | (simp [go_sem]; done))); intro ywm00 ywm01)))
            | (go_at_call 93; refine (unhide RD _).mono ?_; rintro e wa ⟨rfl, hwa⟩; have gwa : Grown w wa := gtrans (by first | exact gwm | exact Grown.alloc gwm _ _) hwa; obtain ⟨awa0, awa1⟩ := gat2 hwa (w.heap.size) (.int .i64 (hiOf (A))) (.int .u64 (loOf (A))) (by constructor <;> simp [go_sem, *]); obtain ⟨zwa0, zwa1⟩ := gat2 hwa (w.heap.size + 1) (.int .i64 0) (.int .u64 0) (by constructor <;> simp [go_sem, *]); obtain ⟨dwa0, dwa1⟩ := gat2 hwa (w.heap.size + 1 + 1) (.int .i64 (hiOf (D))) (.int .u64 (loOf (D))) (by constructor <;> simp [go_sem, *]); have lwa := heap_gt dwa0; have nwa0 : w.heap.size < wa.heap.size := (by omega); have mwa0 : wa.heap.size ≠ w.heap.size := (by omega); have pwa0 : w.heap.size ≠ wa.heap.size := (by omega); have nwa1 : w.heap.size + 1 < wa.heap.size := (by omega); have mwa1 : wa.heap.size ≠ w.heap.size + 1 := (by omega); have pwa1 : w.heap.size + 1 ≠ wa.heap.size := (by omega); have nwa2 : w.heap.size + 1 + 1 < wa.heap.size := (by omega); have mwa2 : wa.heap.size ≠ w.heap.size + 1 + 1 := (by omega); have pwa2 : w.heap.size + 1 + 1 ≠ wa.heap.size := (by omega); have zz0 := fun o => frz gwa wr.heap.size o gr.2.2; have zz1 := fun o => frz gwa wm.heap.size o gwm.2.2; (try (refine with_gat2 hwa wr.heap.size (.int .i64 0) (.int .u64 0) ?_ ?_ ?_; (focus (first | assumption | (simp [go_sem]; done))); (focus (first | assumption | (simp [go_sem]; done))); intro ywa00 ywa01)); (try (refine with_gat2 hwa wm.heap.size (.int .i64 0) (.int .u64 0) ?_ ?_ ?_; (focus (first | assumption | (simp [go_sem]; done))); (focus (first | assumption | (simp [go_sem]; done))); intro ywa10 ywa11))))
        all_goals go_wp2_with fail
        all_goals go_meet
        all_goals refine ⟨_, rfl, ⟨?_, ?_⟩, ⟨?_, ?_⟩, ⟨?_, ?_⟩, ?_⟩
        all_goals first | (simp [go_sem, *]; done) | exact Grown.alloc gwa _ _ | exact Grown.setCell (Grown.setCell gwa gr.2.2 _) gr.2.2 _ | exact Grown.setCell (Grown.setCell gwa gwm.2.2 _) gwm.2.2 _
      case rest =>
      obtain ⟨g, rfl, ⟨g20, g21⟩, ⟨a20, a21⟩, ⟨z20, z21⟩, k2⟩ := hcut
      clear a0 a1 d0 d1 z0 z1 gr
      by_cases hs : hiOf A < 0
      · have hs' : A < 0 := by rw [← unhide HI]; exact hs
        rw [show sg (decide (A < 0)) V = -V from by unfold sg; simp [hs']] at HS
        go_wp2_with fail
        refine (refNegV _ _).mono ?_
        rintro e w3 ⟨rfl, hg3⟩
        obtain ⟨z30, z31⟩ := gat2 hg3 _ _ _ ⟨z20, z21⟩
        have k3 : Grown w w3 := gtrans k2 hg3
        have f5 := fun o => frz k3 (w.heap.size + 1) o (by omega)
        clear z20 z21
        go_wp2
        simp [bodyPost, results, Try.results82, go_sem, *]
        rw [unhide HD, ← unhide HS]
        exact ⟨⟨rfl, rfl⟩, Grown.setCell (Grown.setCell k3 (by dsimp only; omega) _) (by dsimp only; omega) _⟩
      · have hs' : ¬ A < 0 := by rw [← unhide HI]; omega
        rw [show sg (decide (A < 0)) V = V from by unfold sg; simp [hs']] at HS
        have z30 := z20; have z31 := z21; have k3 := k2
        have f5 := fun o => frz k3 (w.heap.size + 1) o (by omega)
        clear z20 z21
        go_wp2
        simp [bodyPost, results, Try.results82, go_sem, *]
        rw [unhide HD, ← unhide HS]
        exact ⟨⟨rfl, rfl⟩, Grown.setCell (Grown.setCell k3 (by dsimp only; omega) _) (by dsimp only; omega) _⟩

set_option maxHeartbeats 400000 in
theorem refRound_bad (ah al n : Int) (h : n < 0 ∨ 127 < n) (w : World) :
    Calls Try.prog 82 #[.agg #[.int .i64 ah, .int .u64 al], .int .i64 n] w fun e w' => e = .returned (.tuple #[.agg #[.int .i64 0, .int .u64 0], .int .i64 2]) ∧ Grown w w' := by
  rcases h with h | h
  · go_enter Try.func82, Try.ntmps82
    go_wp2
    simp [bodyPost, results, Try.results82, go_sem]
    exact ((Grown.refl _).alloc _ _).alloc _ _
  · have h' : ¬ n < 0 := by omega
    go_enter Try.func82, Try.ntmps82
    go_wp2
    simp [bodyPost, results, Try.results82, go_sem]
    exact ((Grown.refl _).alloc _ _).alloc _ _

end Go.Proofs.Ytmdclpjbpkfckaa
