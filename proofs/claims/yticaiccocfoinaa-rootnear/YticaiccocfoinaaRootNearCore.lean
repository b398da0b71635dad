/- The walk of the law RootNear for two numbers from 0 on, over the contracts of what it calls. -/
import Derived.Test.YticaiccocfoinaaRootE
namespace Go.Proofs.Yticaiccocfoinaa
open Go.RowKit Go.Proofs.Wd
set_option linter.unusedVariables false
set_option linter.unusedSimpArgs false

set_option maxHeartbeats 4000000 in
set_option maxRecDepth 100000 in
theorem rootNear_core (a b x y P Q c1 c2 : Int) (a0 : 0 ≤ a) (b0 : 0 ≤ b) (x0 : 0 ≤ x) (x1 : x ≤ 9223372036854775807) (hq1 : c1 ≤ 0) (hq2 : x = 0 ∨ (0 < x ∧ 0 ≤ c2)) (hm : b < a ∨ (a ≤ b ∧ x ≤ y)) (w : World)
    (W : (Hid (∀ w, Calls Try.prog 14 #[] w fun e w' => e = .returned (.bool true) ∧ Grown w w')))
    (S1 : (Hid (∀ w, Calls Try.prog 10 #[.int .i64 a] w fun e w' => e = .returned (.tuple #[.int .i64 x, .bool false]) ∧ Grown w w')))
    (S2 : (Hid (∀ w, Calls Try.prog 10 #[.int .i64 b] w fun e w' => e = .returned (.tuple #[.int .i64 y, .bool false]) ∧ Grown w w')))
    (M1 : (Hid (∀ w, Calls Try.prog 16 #[.int .i64 a, .int .i64 4294967296] w fun e w' => e = .returned (.agg #[.int .i64 (hiOf (P)), .int .u64 (loOf (P))]) ∧ Grown w w')))
    (M2 : (Hid (∀ w, Calls Try.prog 16 #[.int .i64 x, .int .i64 x] w fun e w' => e = .returned (.agg #[.int .i64 (hiOf (Q)), .int .u64 (loOf (Q))]) ∧ Grown w w')))
    (O1 : (Hid (∀ w, Calls Try.prog 15 #[.int .i64 x] w fun e w' => e = .returned (.agg #[.int .i64 (hiOf (x)), .int .u64 (loOf (x))]) ∧ Grown w w')))
    (A1 : (Hid (∀ w, Calls Try.prog 19 #[.agg #[.int .i64 (hiOf (Q)), .int .u64 (loOf (Q))], .agg #[.int .i64 (hiOf (x)), .int .u64 (loOf (x))]] w fun e w' => e = .returned (.agg #[.int .i64 (hiOf (Q + x)), .int .u64 (loOf (Q + x))]) ∧ Grown w w')))
    (O2 : (Hid (∀ w, Calls Try.prog 15 #[.int .i64 (1 - x)] w fun e w' => e = .returned (.agg #[.int .i64 (hiOf (1 - x)), .int .u64 (loOf (1 - x))]) ∧ Grown w w')))
    (A2 : (Hid (∀ w, Calls Try.prog 19 #[.agg #[.int .i64 (hiOf (Q)), .int .u64 (loOf (Q))], .agg #[.int .i64 (hiOf (1 - x)), .int .u64 (loOf (1 - x))]] w fun e w' => e = .returned (.agg #[.int .i64 (hiOf (Q + (1 - x))), .int .u64 (loOf (Q + (1 - x)))]) ∧ Grown w w')))
    (K1 : (Hid (∀ w, Calls Try.prog 18 #[.agg #[.int .i64 (hiOf (P)), .int .u64 (loOf (P))], .agg #[.int .i64 (hiOf (Q + x)), .int .u64 (loOf (Q + x))]] w fun e w' => e = .returned (.int .i64 c1) ∧ Grown w w')))
    (K2 : (Hid (∀ w, Calls Try.prog 18 #[.agg #[.int .i64 (hiOf (P)), .int .u64 (loOf (P))], .agg #[.int .i64 (hiOf (Q + (1 - x))), .int .u64 (loOf (Q + (1 - x)))]] w fun e w' => e = .returned (.int .i64 c2) ∧ Grown w w'))) :
    Calls Try.prog 6 #[.int .i64 a, .int .i64 b] w fun e w' => e = .returned (.bool true) ∧ Grown w w' := by
  obtain ⟨H, hH⟩ : ∃ H, Q + x = H := ⟨_, rfl⟩
  obtain ⟨L, hL⟩ : ∃ L, Q + (1 - x) = L := ⟨_, rfl⟩
  rw [hH] at A1 K1
  rw [hL] at A2 K2
  clear hH hL
  have hw1 : IntKind.i64.wrap (1 - x) = 1 - x := by rw [IntKind.wrap_i64]; omega
  go_enter Try.func6, Try.ntmps6
  go_wp2_with fail
  refine (unhide W _).mono ?_
  rintro e w1 ⟨rfl, hg1⟩
  have k1 : Grown w w1 := hg1
  clear hg1
  go_wp2_with fail
  refine (unhide S1 _).mono ?_
  rintro e w2 ⟨rfl, hg2⟩
  have k2 : Grown w w2 := gtrans k1 hg2
  clear hg2 k1
  go_wp2_with fail
  refine (unhide S2 _).mono ?_
  rintro e w3 ⟨rfl, hg3⟩
  have k3 : Grown w w3 := gtrans k2 hg3
  clear hg3 k2
  go_wp2_with fail
  refine (unhide M1 _).mono ?_
  rintro e w4 ⟨rfl, hg4⟩
  have k4 : Grown w w4 := gtrans k3 hg4
  clear hg4 k3
  go_wp2_with fail
  refine (unhide M2 _).mono ?_
  rintro e w5 ⟨rfl, hg5⟩
  have k5 : Grown w w5 := gtrans k4 hg5
  clear hg5 k4
  have g5 : Grown w ((w5.alloc (.cells #[.int .i64 (hiOf P), .int .u64 (loOf P)] 24)).alloc (.cells #[.int .i64 (hiOf Q), .int .u64 (loOf Q)] 24)) := (k5.alloc _ _).alloc _ _
  go_upto_region 9 with fail
  obtain ⟨pp0, pp1⟩ : (((w5.alloc (.cells #[.int .i64 (hiOf P), .int .u64 (loOf P)] 24)).alloc (.cells #[.int .i64 (hiOf Q), .int .u64 (loOf Q)] 24)).cell? ⟨w5.heap.size, 0, none⟩ = some (.int .i64 (hiOf (P))) ∧ ((w5.alloc (.cells #[.int .i64 (hiOf P), .int .u64 (loOf P)] 24)).alloc (.cells #[.int .i64 (hiOf Q), .int .u64 (loOf Q)] 24)).cell? ⟨w5.heap.size, 1, none⟩ = some (.int .u64 (loOf (P)))) := by constructor <;> simp [go_sem]
  obtain ⟨qq0, qq1⟩ : (((w5.alloc (.cells #[.int .i64 (hiOf P), .int .u64 (loOf P)] 24)).alloc (.cells #[.int .i64 (hiOf Q), .int .u64 (loOf Q)] 24)).cell? ⟨w5.heap.size + 1, 0, none⟩ = some (.int .i64 (hiOf (Q))) ∧ ((w5.alloc (.cells #[.int .i64 (hiOf P), .int .u64 (loOf P)] 24)).alloc (.cells #[.int .i64 (hiOf Q), .int .u64 (loOf Q)] 24)).cell? ⟨w5.heap.size + 1, 1, none⟩ = some (.int .u64 (loOf (Q)))) := by constructor <;> simp [go_sem]
  obtain ⟨i, hi⟩ : ∃ i, w5.heap.size = i := ⟨_, rfl⟩
  rw [hi] at pp0 pp1 qq0 qq1 ⊢
  obtain ⟨j, hj⟩ : ∃ j, i + 1 = j := ⟨_, rfl⟩
  have hij : i ≠ j := by omega
  have hji : j ≠ i := by omega
  rw [hj] at qq0 qq1 ⊢
  generalize (w5.alloc (.cells #[.int .i64 (hiOf P), .int .u64 (loOf P)] 24)).alloc (.cells #[.int .i64 (hiOf Q), .int .u64 (loOf Q)] 24) = W5 at *
  clear hi hj k5
  go_cut [12] (fun s wx => ∃ gN, s = .pointer (some ⟨gN, 0, none⟩) ∧ (wx.cell? ⟨gN, 0, none⟩ = some (.int .i64 (hiOf (H))) ∧ wx.cell? ⟨gN, 1, none⟩ = some (.int .u64 (loOf (H)))) ∧ (wx.cell? ⟨i, 0, none⟩ = some (.int .i64 (hiOf (P))) ∧ wx.cell? ⟨i, 1, none⟩ = some (.int .u64 (loOf (P)))) ∧ (wx.cell? ⟨j, 0, none⟩ = some (.int .i64 (hiOf (Q))) ∧ wx.cell? ⟨j, 1, none⟩ = some (.int .u64 (loOf (Q)))) ∧ Grown w wx)
  case first =>
    have lppz := heap_gt pp0; have mppz := Nat.ne_of_lt lppz; have nppz := Nat.ne_of_gt lppz
    have lqqz := heap_gt qq0; have mqqz := Nat.ne_of_lt lqqz; have nqqz := Nat.ne_of_gt lqqz
    go_region_held3 (fun w' => (w'.cell? ⟨j, 0, none⟩ = some (.int .i64 (hiOf (Q))) ∧ w'.cell? ⟨j, 1, none⟩ = some (.int .u64 (loOf (Q)))))
      (simp [go_sem, *])
      (first
        | (go_at_call 15; refine (unhide O1 _).mono ?_; rintro e wm ⟨rfl, hgm⟩; have hgwm : Grown w wm := gtrans (by first | exact Grown.drew g5 | exact Grown.drew (Grown.alloc g5 _ _)) hgm; obtain ⟨ppm0, ppm1⟩ := gat2 hgm i (.int .i64 (hiOf (P))) (.int .u64 (loOf (P))) (by constructor <;> simp [go_sem, *]); have lppm := heap_gt ppm0; have mppm := Nat.ne_of_lt lppm; have nppm := Nat.ne_of_gt lppm; obtain ⟨qqm0, qqm1⟩ := gat2 hgm j (.int .i64 (hiOf (Q))) (.int .u64 (loOf (Q))) (by constructor <;> simp [go_sem, *]); have lqqm := heap_gt qqm0; have mqqm := Nat.ne_of_lt lqqm; have nqqm := Nat.ne_of_gt lqqm; (try (refine with_gat2 hgm W5.heap.size (.int .i64 0) (.int .u64 0) ?_ ?_ ?_; (focus (first | assumption | (simp [go_sem]; done))); (focus (first | assumption | (simp [go_sem]; done))); intro yu0 yu1)))
        | (go_at_call 19; refine (unhide A1 _).mono ?_; rintro e wa ⟨rfl, hga⟩; have hgwa : Grown w wa := gtrans (by first | exact hgwm | exact Grown.alloc hgwm _ _) hga; have zz0 := fun o => frz hgwa W5.heap.size o g5.2.2; have zz1 := fun o => frz hgwa wm.heap.size o hgwm.2.2; obtain ⟨ppa0, ppa1⟩ := gat2 hga i (.int .i64 (hiOf (P))) (.int .u64 (loOf (P))) (by constructor <;> simp [go_sem, *]); have lppa := heap_gt ppa0; have mppa := Nat.ne_of_lt lppa; have nppa := Nat.ne_of_gt lppa; obtain ⟨qqa0, qqa1⟩ := gat2 hga j (.int .i64 (hiOf (Q))) (.int .u64 (loOf (Q))) (by constructor <;> simp [go_sem, *]); have lqqa := heap_gt qqa0; have mqqa := Nat.ne_of_lt lqqa; have nqqa := Nat.ne_of_gt lqqa; (try (refine with_gat2 hga W5.heap.size (.int .i64 0) (.int .u64 0) ?_ ?_ ?_; (focus (first | assumption | (simp [go_sem]; done))); (focus (first | assumption | (simp [go_sem]; done))); intro yv0 yv1)); (try (refine with_gat2 hga wm.heap.size (.int .i64 0) (.int .u64 0) ?_ ?_ ?_; (focus (first | assumption | (simp [go_sem]; done))); (focus (first | assumption | (simp [go_sem]; done))); intro yx0 yx1))))
    all_goals go_wp2_with fail
    all_goals go_meet
    all_goals refine ⟨_, rfl, ⟨?_, ?_⟩, ⟨?_, ?_⟩, ⟨?_, ?_⟩, ?_⟩
    all_goals first | (simp [go_sem, *]; done) | exact Grown.alloc hgwa _ _ | exact Grown.setCell (Grown.setCell hgwa g5.2.2 _) g5.2.2 _ | exact Grown.setCell (Grown.setCell hgwa hgwm.2.2 _) hgwm.2.2 _
  case rest =>
  obtain ⟨g, rfl, ⟨gg0, gg1⟩, ⟨ii0, ii1⟩, ⟨jj0, jj1⟩, g6⟩ := hcut
  clear g5 pp0 pp1 qq0 qq1
  go_upto_region 10 with fail
  go_cut [13] (fun s wx => ∃ gN, s = .pointer (some ⟨gN, 0, none⟩) ∧ (wx.cell? ⟨gN, 0, none⟩ = some (.int .i64 (hiOf (L))) ∧ wx.cell? ⟨gN, 1, none⟩ = some (.int .u64 (loOf (L)))) ∧ (wx.cell? ⟨g, 0, none⟩ = some (.int .i64 (hiOf (H))) ∧ wx.cell? ⟨g, 1, none⟩ = some (.int .u64 (loOf (H)))) ∧ (wx.cell? ⟨i, 0, none⟩ = some (.int .i64 (hiOf (P))) ∧ wx.cell? ⟨i, 1, none⟩ = some (.int .u64 (loOf (P)))) ∧ (wx.cell? ⟨j, 0, none⟩ = some (.int .i64 (hiOf (Q))) ∧ wx.cell? ⟨j, 1, none⟩ = some (.int .u64 (loOf (Q)))) ∧ Grown w wx)
  case first =>
    have lggz := heap_gt gg0; have mggz := Nat.ne_of_lt lggz; have nggz := Nat.ne_of_gt lggz
    have liiz := heap_gt ii0; have miiz := Nat.ne_of_lt liiz; have niiz := Nat.ne_of_gt liiz
    have ljjz := heap_gt jj0; have mjjz := Nat.ne_of_lt ljjz; have njjz := Nat.ne_of_gt ljjz
    go_region_held3 (fun w' => (w'.cell? ⟨j, 0, none⟩ = some (.int .i64 (hiOf (Q))) ∧ w'.cell? ⟨j, 1, none⟩ = some (.int .u64 (loOf (Q)))))
      (simp [go_sem, *])
      (first
        | (go_at_call 15; refine (unhide O2 _).mono ?_; rintro e wm ⟨rfl, hgm⟩; have hgwm : Grown w wm := gtrans (by first | exact Grown.drew g6 | exact Grown.drew (Grown.alloc g6 _ _)) hgm; obtain ⟨ggm0, ggm1⟩ := gat2 hgm g (.int .i64 (hiOf (H))) (.int .u64 (loOf (H))) (by constructor <;> simp [go_sem, *]); have lggm := heap_gt ggm0; have mggm := Nat.ne_of_lt lggm; have nggm := Nat.ne_of_gt lggm; obtain ⟨iim0, iim1⟩ := gat2 hgm i (.int .i64 (hiOf (P))) (.int .u64 (loOf (P))) (by constructor <;> simp [go_sem, *]); have liim := heap_gt iim0; have miim := Nat.ne_of_lt liim; have niim := Nat.ne_of_gt liim; obtain ⟨jjm0, jjm1⟩ := gat2 hgm j (.int .i64 (hiOf (Q))) (.int .u64 (loOf (Q))) (by constructor <;> simp [go_sem, *]); have ljjm := heap_gt jjm0; have mjjm := Nat.ne_of_lt ljjm; have njjm := Nat.ne_of_gt ljjm; (try (refine with_gat2 hgm wc.heap.size (.int .i64 0) (.int .u64 0) ?_ ?_ ?_; (focus (first | assumption | (simp [go_sem]; done))); (focus (first | assumption | (simp [go_sem]; done))); intro yu0 yu1)))
        | (go_at_call 19; refine (unhide A2 _).mono ?_; rintro e wa ⟨rfl, hga⟩; have hgwa : Grown w wa := gtrans (by first | exact hgwm | exact Grown.alloc hgwm _ _) hga; have zz0 := fun o => frz hgwa wc.heap.size o g6.2.2; have zz1 := fun o => frz hgwa wm.heap.size o hgwm.2.2; obtain ⟨gga0, gga1⟩ := gat2 hga g (.int .i64 (hiOf (H))) (.int .u64 (loOf (H))) (by constructor <;> simp [go_sem, *]); have lgga := heap_gt gga0; have mgga := Nat.ne_of_lt lgga; have ngga := Nat.ne_of_gt lgga; obtain ⟨iia0, iia1⟩ := gat2 hga i (.int .i64 (hiOf (P))) (.int .u64 (loOf (P))) (by constructor <;> simp [go_sem, *]); have liia := heap_gt iia0; have miia := Nat.ne_of_lt liia; have niia := Nat.ne_of_gt liia; obtain ⟨jja0, jja1⟩ := gat2 hga j (.int .i64 (hiOf (Q))) (.int .u64 (loOf (Q))) (by constructor <;> simp [go_sem, *]); have ljja := heap_gt jja0; have mjja := Nat.ne_of_lt ljja; have njja := Nat.ne_of_gt ljja; (try (refine with_gat2 hga wc.heap.size (.int .i64 0) (.int .u64 0) ?_ ?_ ?_; (focus (first | assumption | (simp [go_sem]; done))); (focus (first | assumption | (simp [go_sem]; done))); intro yv0 yv1)); (try (refine with_gat2 hga wm.heap.size (.int .i64 0) (.int .u64 0) ?_ ?_ ?_; (focus (first | assumption | (simp [go_sem]; done))); (focus (first | assumption | (simp [go_sem]; done))); intro yx0 yx1))))
    all_goals go_wp2_with fail
    all_goals go_meet
    all_goals refine ⟨_, rfl, ⟨?_, ?_⟩, ⟨?_, ?_⟩, ⟨?_, ?_⟩, ⟨?_, ?_⟩, ?_⟩
    all_goals first | (simp [go_sem, *]; done) | exact Grown.alloc hgwa _ _ | exact Grown.setCell (Grown.setCell hgwa g6.2.2 _) g6.2.2 _ | exact Grown.setCell (Grown.setCell hgwa hgwm.2.2 _) hgwm.2.2 _
  case rest =>
  obtain ⟨o, rfl, ⟨oo0, oo1⟩, ⟨gh0, gh1⟩, ⟨ih0, ih1⟩, ⟨jh0, jh1⟩, g7⟩ := hcut
  clear g6 gg0 gg1 ii0 ii1 jj0 jj1
  go_wp2_with fail
  refine (unhide K1 _).mono ?_
  rintro e w8 ⟨rfl, hg8⟩
  obtain ⟨os0, os1⟩ := gat2 hg8 _ _ _ ⟨oo0, oo1⟩
  obtain ⟨is0, is1⟩ := gat2 hg8 _ _ _ ⟨ih0, ih1⟩
  have g8 : Grown w w8 := gtrans g7 hg8
  clear hg8 g7 oo0 oo1 ih0 ih1
  rcases hq2 with rfl | ⟨hx, hq2⟩
  · rcases hm with hm | ⟨hm, hm2⟩
    · go_wp2
      go_ret
      exact ⟨rfl, g8⟩
    · go_wp2
      go_ret
      exact ⟨rfl, g8⟩
  · rcases hm with hm | ⟨hm, hm2⟩
    · go_wp2_with fail
      refine (unhide K2 _).mono ?_
      rintro e w9 ⟨rfl, hg9⟩
      go_wp2
      go_ret
      exact ⟨rfl, gtrans g8 hg9⟩
    · go_wp2_with fail
      refine (unhide K2 _).mono ?_
      rintro e w9 ⟨rfl, hg9⟩
      go_wp2
      go_ret
      exact ⟨rfl, gtrans g8 hg9⟩

end Go.Proofs.Yticaiccocfoinaa
