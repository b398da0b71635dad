/- The document's quotient and Div, walked. -/
import Derived.Test.YtecelkneiffceaaGreatRefDiv
namespace Go.Proofs.YtecelkneiffceaaGreat
open Go.RowKit Go.Proofs.Wd
set_option linter.unusedVariables false
set_option linter.unusedSimpArgs false
set_option maxRecDepth 10000
attribute [local go_sem ↓] Go.wp_at_zero Go.wp_at_succ

set_option maxHeartbeats 4000000 in
theorem refQuotient (A D : Int) (hA : wrapW A = A) (hD : wrapW D = D) (h0 : D ≠ 0) (w : World) :
    Calls Tryz.prog 88 #[.agg #[.int .i64 (hiOf A), .int .u64 (loOf A)], .agg #[.int .i64 (hiOf D), .int .u64 (loOf D)]] w fun e w' => e = .returned (.agg #[.int .i64 (hiOf (rdiv A D)), .int .u64 (loOf (rdiv A D))]) ∧ Grown w w' := by
  have hd0 : 0 < absI D := by unfold absI; split <;> omega
  have RD := hide (fun w => refRounded_loop (absI A) (absI D) (abs_range A hA) ⟨hd0, (abs_range D hD).2⟩ w)
  have HS := hide (sg_near2 A D h0)
  obtain ⟨V, hV⟩ : ∃ V, nearQ (absI A / absI D) (absI A % absI D) (absI D - absI A % absI D) = V := ⟨_, rfl⟩
  rw [hV] at RD HS
  rw [← show absI (wrapW A) = absI A from by rw [hA], ← show absI (wrapW D) = absI D from by rw [hD]] at RD
  have hap : apartS A D = apartS (hiOf A) (hiOf D) := by unfold apartS; rw [decide_eq_decide.2 (Iff.of_eq (hi_sign A hA)), decide_eq_decide.2 (Iff.of_eq (hi_sign D hD))]
  rw [hap] at HS
  clear hV hd0 hap hA hD h0
  go_enter Tryz.func88, Tryz.ntmps88
  go_upto_region 1 with fail
  go_cut [5] (fun s5 wx => ∃ g, s5 = .pointer (some ⟨g, 0, none⟩) ∧ (wx.cell? ⟨g, 0, none⟩ = some (.int .i64 (hiOf (V))) ∧ wx.cell? ⟨g, 1, none⟩ = some (.int .u64 (loOf (V)))) ∧ (wx.cell? ⟨w.heap.size, 0, none⟩ = some (.int .i64 (hiOf (A))) ∧ wx.cell? ⟨w.heap.size, 1, none⟩ = some (.int .u64 (loOf (A)))) ∧ (wx.cell? ⟨w.heap.size + 1, 0, none⟩ = some (.int .i64 (hiOf (D))) ∧ wx.cell? ⟨w.heap.size + 1, 1, none⟩ = some (.int .u64 (loOf (D)))) ∧ (wx.cell? ⟨w.heap.size + 1 + 1, 0, none⟩ = some (.int .i64 0) ∧ wx.cell? ⟨w.heap.size + 1 + 1, 1, none⟩ = some (.int .u64 0)) ∧ Grown w wx)
  case first =>
    go_region_held3 (fun w' => (w'.cell? ⟨w.heap.size, 0, none⟩ = some (.int .i64 (hiOf (A))) ∧ w'.cell? ⟨w.heap.size, 1, none⟩ = some (.int .u64 (loOf (A)))) ∧ (w'.cell? ⟨w.heap.size + 1, 0, none⟩ = some (.int .i64 (hiOf (D))) ∧ w'.cell? ⟨w.heap.size + 1, 1, none⟩ = some (.int .u64 (loOf (D)))))
      (simp [go_sem, *])
      (first
        | (go_at_call_of 105 (hiOf A); refine (refWhole A _).mono ?_; rintro e wm ⟨rfl, hwm⟩; have gwm : Grown w wm := gtrans (by first | exact Grown.drew ((((Grown.refl _).alloc _ _).alloc _ _).alloc _ _) | exact Grown.drew (Grown.alloc ((((Grown.refl _).alloc _ _).alloc _ _).alloc _ _) _ _)) hwm; obtain ⟨awm0, awm1⟩ := gat2 hwm (w.heap.size) (.int .i64 (hiOf (A))) (.int .u64 (loOf (A))) (by constructor <;> simp [go_sem, *]); obtain ⟨dwm0, dwm1⟩ := gat2 hwm (w.heap.size + 1) (.int .i64 (hiOf (D))) (.int .u64 (loOf (D))) (by constructor <;> simp [go_sem, *]); obtain ⟨zwm0, zwm1⟩ := gat2 hwm (w.heap.size + 1 + 1) (.int .i64 0) (.int .u64 0) (by constructor <;> simp [go_sem, *]); have lwm := heap_gt zwm0; have nwm0 : w.heap.size < wm.heap.size := (by omega); have mwm0 : wm.heap.size ≠ w.heap.size := (by omega); have pwm0 : w.heap.size ≠ wm.heap.size := (by omega); have nwm1 : w.heap.size + 1 < wm.heap.size := (by omega); have mwm1 : wm.heap.size ≠ w.heap.size + 1 := (by omega); have pwm1 : w.heap.size + 1 ≠ wm.heap.size := (by omega); have nwm2 : w.heap.size + 1 + 1 < wm.heap.size := (by omega); have mwm2 : wm.heap.size ≠ w.heap.size + 1 + 1 := (by omega); have pwm2 : w.heap.size + 1 + 1 ≠ wm.heap.size := (by omega); (try (refine with_gat2 hwm (w.heap.size + 1 + 1 + 1) (.int .i64 0) (.int .u64 0) ?_ ?_ ?_; (focus (first | assumption | (simp [go_sem]; done))); (focus (first | assumption | (simp [go_sem]; done))); intro ywms0 ywms1)))
        | (go_at_call_of 105 (hiOf D); refine (refWhole D _).mono ?_; rintro e wn ⟨rfl, hwn⟩; have gwn : Grown w wn := gtrans (by first | exact gwm | exact Grown.alloc gwm _ _) hwn; obtain ⟨awn0, awn1⟩ := gat2 hwn (w.heap.size) (.int .i64 (hiOf (A))) (.int .u64 (loOf (A))) (by constructor <;> simp [go_sem, *]); obtain ⟨dwn0, dwn1⟩ := gat2 hwn (w.heap.size + 1) (.int .i64 (hiOf (D))) (.int .u64 (loOf (D))) (by constructor <;> simp [go_sem, *]); obtain ⟨zwn0, zwn1⟩ := gat2 hwn (w.heap.size + 1 + 1) (.int .i64 0) (.int .u64 0) (by constructor <;> simp [go_sem, *]); have lwn := heap_gt zwn0; have nwn0 : w.heap.size < wn.heap.size := (by omega); have mwn0 : wn.heap.size ≠ w.heap.size := (by omega); have pwn0 : w.heap.size ≠ wn.heap.size := (by omega); have nwn1 : w.heap.size + 1 < wn.heap.size := (by omega); have mwn1 : wn.heap.size ≠ w.heap.size + 1 := (by omega); have pwn1 : w.heap.size + 1 ≠ wn.heap.size := (by omega); have nwn2 : w.heap.size + 1 + 1 < wn.heap.size := (by omega); have mwn2 : wn.heap.size ≠ w.heap.size + 1 + 1 := (by omega); have pwn2 : w.heap.size + 1 + 1 ≠ wn.heap.size := (by omega); (try (refine with_gat2 hwn (w.heap.size + 1 + 1 + 1) (.int .i64 0) (.int .u64 0) ?_ ?_ ?_; (focus (first | assumption | (simp [go_sem]; done))); (focus (first | assumption | (simp [go_sem]; done))); intro ywns0 ywns1)); (try (refine with_gat2 hwn wm.heap.size (.int .i64 0) (.int .u64 0) ?_ ?_ ?_; (focus (first | assumption | (simp [go_sem]; done))); (focus (first | assumption | (simp [go_sem]; done))); intro ywn00 ywn01)))
        | (go_at_call 104; refine (unhide RD _).mono ?_; rintro e wa ⟨rfl, hwa⟩; have gwa : Grown w wa := gtrans (by first | exact gwn | exact Grown.alloc gwn _ _) hwa; obtain ⟨awa0, awa1⟩ := gat2 hwa (w.heap.size) (.int .i64 (hiOf (A))) (.int .u64 (loOf (A))) (by constructor <;> simp [go_sem, *]); obtain ⟨dwa0, dwa1⟩ := gat2 hwa (w.heap.size + 1) (.int .i64 (hiOf (D))) (.int .u64 (loOf (D))) (by constructor <;> simp [go_sem, *]); obtain ⟨zwa0, zwa1⟩ := gat2 hwa (w.heap.size + 1 + 1) (.int .i64 0) (.int .u64 0) (by constructor <;> simp [go_sem, *]); have lwa := heap_gt zwa0; have nwa0 : w.heap.size < wa.heap.size := (by omega); have mwa0 : wa.heap.size ≠ w.heap.size := (by omega); have pwa0 : w.heap.size ≠ wa.heap.size := (by omega); have nwa1 : w.heap.size + 1 < wa.heap.size := (by omega); have mwa1 : wa.heap.size ≠ w.heap.size + 1 := (by omega); have pwa1 : w.heap.size + 1 ≠ wa.heap.size := (by omega); have nwa2 : w.heap.size + 1 + 1 < wa.heap.size := (by omega); have mwa2 : wa.heap.size ≠ w.heap.size + 1 + 1 := (by omega); have pwa2 : w.heap.size + 1 + 1 ≠ wa.heap.size := (by omega); (try (refine with_gat2 hwa (w.heap.size + 1 + 1 + 1) (.int .i64 0) (.int .u64 0) ?_ ?_ ?_; (focus (first | assumption | (simp [go_sem]; done))); (focus (first | assumption | (simp [go_sem]; done))); intro ywas0 ywas1)); (try (refine with_gat2 hwa wm.heap.size (.int .i64 0) (.int .u64 0) ?_ ?_ ?_; (focus (first | assumption | (simp [go_sem]; done))); (focus (first | assumption | (simp [go_sem]; done))); intro ywa00 ywa01)); (try (refine with_gat2 hwa wn.heap.size (.int .i64 0) (.int .u64 0) ?_ ?_ ?_; (focus (first | assumption | (simp [go_sem]; done))); (focus (first | assumption | (simp [go_sem]; done))); intro ywa10 ywa11)); have zs := fun o => frz gwa (w.heap.size + 1 + 1 + 1) o (by omega); have zz0 := fun o => frz gwa wm.heap.size o gwm.2.2; have zz1 := fun o => frz gwa wn.heap.size o gwn.2.2))
    all_goals go_wp2_with fail
    all_goals go_meet
    all_goals refine ⟨_, rfl, ⟨?_, ?_⟩, ⟨?_, ?_⟩, ⟨?_, ?_⟩, ⟨?_, ?_⟩, ?_⟩
    all_goals first | (simp [go_sem, *]; done) | exact Grown.alloc gwa _ _ | exact Grown.setCell (Grown.setCell gwa (by dsimp only; omega) _) (by dsimp only; omega) _ | exact Grown.setCell (Grown.setCell gwa gwm.2.2 _) gwm.2.2 _ | exact Grown.setCell (Grown.setCell gwa gwn.2.2 _) gwn.2.2 _
  case rest =>
  obtain ⟨g, rfl, ⟨g20, g21⟩, ⟨a20, a21⟩, ⟨d20, d21⟩, ⟨z20, z21⟩, k2⟩ := hcut
  by_cases s1 : hiOf A < 0 <;> by_cases s2 : hiOf D < 0
  · have t1 : decide (hiOf A < 0) = true := by simpa using s1
    have t2 : decide (hiOf D < 0) = true := by simpa using s2
    rw [show sg (apartS (hiOf A) (hiOf D)) V = V from by unfold sg apartS; rw [t1, t2]; simp] at HS
    have z30 := z20; have z31 := z21; have k3 := k2
    have f5 := fun o => frz k3 (w.heap.size + 1 + 1) o (by omega)
    clear z20 z21
    go_wp2
    simp [bodyPost, results, Tryz.results88, go_sem, *]
    rw [← unhide HS]
    exact ⟨⟨rfl, rfl⟩, Grown.setCell (Grown.setCell k3 (by dsimp only; omega) _) (by dsimp only; omega) _⟩
  · have t1 : decide (hiOf A < 0) = true := by simpa using s1
    have t2 : decide (hiOf D < 0) = false := by simpa using s2
    rw [show sg (apartS (hiOf A) (hiOf D)) V = -V from by unfold sg apartS; rw [t1, t2]; simp] at HS
    go_wp2_with fail
    refine (refNegV _ _).mono ?_
    rintro e w3 ⟨rfl, hg3⟩
    obtain ⟨z30, z31⟩ := gat2 hg3 _ _ _ ⟨z20, z21⟩
    have k3 : Grown w w3 := gtrans k2 hg3
    have f5 := fun o => frz k3 (w.heap.size + 1 + 1) o (by omega)
    clear z20 z21
    go_wp2
    simp [bodyPost, results, Tryz.results88, go_sem, *]
    rw [← unhide HS]
    exact ⟨⟨rfl, rfl⟩, Grown.setCell (Grown.setCell k3 (by dsimp only; omega) _) (by dsimp only; omega) _⟩
  · have t1 : decide (hiOf A < 0) = false := by simpa using s1
    have t2 : decide (hiOf D < 0) = true := by simpa using s2
    rw [show sg (apartS (hiOf A) (hiOf D)) V = -V from by unfold sg apartS; rw [t1, t2]; simp] at HS
    go_wp2_with fail
    refine (refNegV _ _).mono ?_
    rintro e w3 ⟨rfl, hg3⟩
    obtain ⟨z30, z31⟩ := gat2 hg3 _ _ _ ⟨z20, z21⟩
    have k3 : Grown w w3 := gtrans k2 hg3
    have f5 := fun o => frz k3 (w.heap.size + 1 + 1) o (by omega)
    clear z20 z21
    go_wp2
    simp [bodyPost, results, Tryz.results88, go_sem, *]
    rw [← unhide HS]
    exact ⟨⟨rfl, rfl⟩, Grown.setCell (Grown.setCell k3 (by dsimp only; omega) _) (by dsimp only; omega) _⟩
  · have t1 : decide (hiOf A < 0) = false := by simpa using s1
    have t2 : decide (hiOf D < 0) = false := by simpa using s2
    rw [show sg (apartS (hiOf A) (hiOf D)) V = V from by unfold sg apartS; rw [t1, t2]; simp] at HS
    have z30 := z20; have z31 := z21; have k3 := k2
    have f5 := fun o => frz k3 (w.heap.size + 1 + 1) o (by omega)
    clear z20 z21
    go_wp2
    simp [bodyPost, results, Tryz.results88, go_sem, *]
    rw [← unhide HS]
    exact ⟨⟨rfl, rfl⟩, Grown.setCell (Grown.setCell k3 (by dsimp only; omega) _) (by dsimp only; omega) _⟩

set_option maxHeartbeats 2000000 in
theorem refDiv (A d : Int) (hA : wrapW A = A) (h3 : I64 d) (hd : d ≠ 0) (w : World) :
    Calls Tryz.prog 71 #[.agg #[.int .i64 (hiOf A), .int .u64 (loOf A)], .int .i64 d] w fun e w' => e = .returned (.tuple #[.agg #[.int .i64 (hiOf (rdiv A d)), .int .u64 (loOf (rdiv A d))], .int .i64 0]) ∧ Grown w w' := by
  have QU := hide (fun w => refQuotient A d hA (wrapW_in d (by unfold I64 at h3; omega)) hd w)
  have hd' : (d == 0) = false := by simpa using hd
  clear hA
  go_enter Tryz.func71, Tryz.ntmps71
  go_wp2
  go_region_held3 (fun w' => (w'.cell? ⟨w.heap.size, 0, none⟩ = some (.int .i64 (hiOf (A))) ∧ w'.cell? ⟨w.heap.size, 1, none⟩ = some (.int .u64 (loOf (A)))))
    (simp [go_sem, *])
    (first
      | (go_at_call 69; refine (refOf d h3 _).mono ?_; rintro e w1 ⟨rfl, hg1⟩; obtain ⟨a10, a11⟩ := gat2 hg1 w.heap.size (.int .i64 (hiOf A)) (.int .u64 (loOf A)) (by constructor <;> simp [go_sem, *]); obtain ⟨z10, z11⟩ := gat2 hg1 (w.heap.size + 1) (.int .i64 0) (.int .u64 0) (by constructor <;> simp [go_sem, *]); have k1 : Grown w w1 := gtrans (by exact Grown.drew (((Grown.refl _).alloc _ _).alloc _ _)) hg1)
      | (go_at_call 88; refine (unhide QU _).mono ?_; rintro e w2 ⟨rfl, hg2⟩; obtain ⟨a20, a21⟩ := gat2 hg2 w.heap.size (.int .i64 (hiOf A)) (.int .u64 (loOf A)) (by constructor <;> simp [go_sem, *]); obtain ⟨z20, z21⟩ := gat2 hg2 (w.heap.size + 1) (.int .i64 0) (.int .u64 0) (by constructor <;> simp [go_sem, *]); have k2 : Grown w w2 := gtrans k1 hg2; have f2 := fun o => frz k2 (w.heap.size + 1) o (by omega)))
  go_wp2
  simp [bodyPost, results, Tryz.results71, go_sem, *]
  exact Grown.setCell (Grown.setCell k2 (by dsimp only; omega) _) (by dsimp only; omega) _

set_option maxHeartbeats 400000 in
theorem refDiv_bad (ah al : Int) (w : World) :
    Calls Tryz.prog 71 #[.agg #[.int .i64 ah, .int .u64 al], .int .i64 0] w fun e w' => e = .returned (.tuple #[.agg #[.int .i64 0, .int .u64 0], .int .i64 2]) ∧ Grown w w' := by
  go_enter Tryz.func71, Tryz.ntmps71
  go_wp2
  simp [bodyPost, results, Tryz.results71, go_sem]
  exact ((Grown.refl _).alloc _ _).alloc _ _

end Go.Proofs.YtecelkneiffceaaGreat
