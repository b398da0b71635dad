/- The document's answer for layer 3: square, above, root, Whole, nearest, Sqrt and Hypot, walked: what each returns, in whole numbers. -/
import Derived.Test.YtecelkneiffceaaGreatRefMul
import Derived.Test.YtecelkneiffceaaGreatRootB
namespace Go.Proofs.YtecelkneiffceaaGreat
open Go.RowKit Go.Proofs.Wd
set_option linter.unusedVariables false
set_option linter.unusedSimpArgs false
set_option maxRecDepth 10000

theorem refCmpV (A B : Int) (w : World) :
    Calls Tryz.prog 93 #[.agg #[.int .i64 (hiOf A), .int .u64 (loOf A)], .agg #[.int .i64 (hiOf B), .int .u64 (loOf B)]] w fun e w' => e = .returned (.int .i64 (cmpI (wrapW A) (wrapW B))) ∧ Grown w w' := by
  have q := refCmp (hiOf A) (loOf A) (hiOf B) (loOf B) (hiOf_I64 _) (loOf_U64 _) (hiOf_I64 _) (loOf_U64 _) w
  rw [val_of, val_of] at q
  exact q

theorem sq_even (n : Int) (h : n % 2 = 0) : n / 2 * (n / 2) + n / 2 * (n / 2) + (n / 2 * (n / 2) + n / 2 * (n / 2)) = n * n := by
  obtain ⟨k, hk⟩ : ∃ k, n / 2 = k := ⟨_, rfl⟩
  rw [hk]
  have : n = 2 * k := by omega
  rw [this]; grind
theorem sq_odd (n : Int) (h : n % 2 = 1) : n / 2 * (n / 2) + n / 2 * (n / 2) + n / 2 * 2 + (n / 2 * (n / 2) + n / 2 * (n / 2) + n / 2 * 2) + 1 = n * n := by
  obtain ⟨k, hk⟩ : ∃ k, n / 2 = k := ⟨_, rfl⟩
  rw [hk]
  have : n = 2 * k + 1 := by omega
  rw [this]; grind

set_option maxHeartbeats 2000000 in
theorem refSquare (n : Int) (hn : U64 n) (w : World) :
    Calls Tryz.prog 92 #[.int .u64 n] w fun e w' => e = .returned (.agg #[.int .i64 (hiOf (n * n)), .int .u64 (loOf (n * n))]) ∧ Grown w w' := by
  unfold U64 at hn
  have h2 : I64 (n / 2) := by unfold I64; omega
  have hw : IntKind.i64.wrap (n / 2) = n / 2 := by rw [IntKind.wrap_i64]; omega
  have M := hide (fun w => refMul (n / 2) (n / 2) h2 h2 w)
  obtain ⟨k, hk⟩ : ∃ k, n / 2 = k := ⟨_, rfl⟩
  by_cases c : n % 2 = 1
  · have E := hide (sq_odd n c)
    have TT := hide (fun w => refMul (n / 2) 2 h2 (by unfold I64; omega) w)
    have A1 := hide (fun A w => refAddV A 1 w)
    rw [show hiOf 1 = 0 from by decide, show loOf 1 = 1 from by decide] at A1
    have hc : (n % 2 == 1) = true := by simp [c]
    rw [hk] at E M h2 TT
    rw [hk] at hw
    clear c h2
    obtain ⟨P, hP⟩ : ∃ P, k * k = P := ⟨_, rfl⟩
    rw [hP] at M E
    obtain ⟨T, hT⟩ : ∃ T, k * 2 = T := ⟨_, rfl⟩
    rw [hT] at TT E
    clear hP hT
    go_enter Tryz.func92, Tryz.ntmps92
    go_wp2_with fail
    refine (unhide M _).mono ?_
    rintro e w1 ⟨rfl, hg1⟩
    obtain ⟨r10, r11⟩ := gat2 hg1 w.heap.size (.int .i64 0) (.int .u64 0) (by constructor <;> simp [go_sem])
    have k1 : Grown w w1 := gtrans ((Grown.refl _).alloc _ _) hg1
    have l1 := heap_gt r10; have n1 := Nat.ne_of_gt l1; have o1 := Nat.ne_of_lt l1
    clear hg1
    go_wp2_with fail
    refine (refAddV _ _ _).mono ?_
    rintro e w2 ⟨rfl, hg2⟩
    obtain ⟨r20, r21⟩ := gat2 hg2 w.heap.size (.int .i64 0) (.int .u64 0) (by constructor <;> simp [go_sem, *])
    obtain ⟨b20, b21⟩ := gat2 hg2 w1.heap.size (.int .i64 (hiOf P)) (.int .u64 (loOf P)) (by constructor <;> simp [go_sem, *])
    have k2 : Grown w w2 := gtrans (k1.alloc _ _) hg2
    have f2 := fun o => frz k2 w1.heap.size o k1.2.2
    have m2 := k1.2.2
    clear hg2 r10 r11 k1
    go_upto_region 5 with fail
    go_cut [] (fun wx => (wx.cell? ⟨w.heap.size, 0, none⟩ = some (.int .i64 0) ∧ wx.cell? ⟨w.heap.size, 1, none⟩ = some (.int .u64 0)) ∧ (wx.cell? ⟨w1.heap.size, 0, none⟩ = some (.int .i64 (hiOf (P + P + T))) ∧ wx.cell? ⟨w1.heap.size, 1, none⟩ = some (.int .u64 (loOf (P + P + T)))) ∧ Grown w wx)
    case first =>
      have g2 : Grown w ((w2.setCell ⟨w1.heap.size, 0, none⟩ (.int .i64 (hiOf (P + P)))).setCell ⟨w1.heap.size, 1, none⟩ (.int .u64 (loOf (P + P)))) := Grown.setCell (Grown.setCell k2 (by dsimp only; omega) _) (by dsimp only; omega) _
      go_region_with
        (first
          | (go_at_call 72; refine (unhide TT _).mono ?_; rintro e w3 ⟨rfl, hg3⟩; obtain ⟨r30, r31⟩ := gat2 hg3 w.heap.size (.int .i64 0) (.int .u64 0) (by constructor <;> simp [go_sem, *]); obtain ⟨b30, b31⟩ := gat2 hg3 w1.heap.size (.int .i64 (hiOf (P + P))) (.int .u64 (loOf (P + P))) (by constructor <;> simp [go_sem, *]); have k3 : Grown w w3 := gtrans (by exact Grown.drew g2) hg3)
          | (go_at_call 68; refine (refAddV _ _ _).mono ?_; rintro e w4 ⟨rfl, hg4⟩; obtain ⟨r40, r41⟩ := gat2 hg4 w.heap.size (.int .i64 0) (.int .u64 0) (by constructor <;> simp [go_sem, *]); obtain ⟨b40, b41⟩ := gat2 hg4 w1.heap.size (.int .i64 (hiOf (P + P))) (.int .u64 (loOf (P + P))) (by constructor <;> simp [go_sem, *]); have k4 : Grown w w4 := gtrans k3 hg4; have f4 := fun o => frz k4 w1.heap.size o m2))
      all_goals go_wp2_with fail
      all_goals go_meet
      all_goals exact ⟨⟨by simp [go_sem, *], by simp [go_sem, *]⟩, ⟨by simp [go_sem, *], by simp [go_sem, *]⟩, Grown.setCell (Grown.setCell k4 (by dsimp only; omega) _) (by dsimp only; omega) _⟩
    case rest =>
    obtain ⟨⟨r50, r51⟩, ⟨b50, b51⟩, k5⟩ := hcut
    have f5 := fun o => frz k5 w1.heap.size o m2
    clear k2 f2 r20 r21 b20 b21
    go_wp2_with fail
    refine (refAddV _ _ _).mono ?_
    rintro e w6 ⟨rfl, hg6⟩
    obtain ⟨r60, r61⟩ := gat2 hg6 _ _ _ ⟨r50, r51⟩
    obtain ⟨b60, b61⟩ := gat2 hg6 _ _ _ ⟨b50, b51⟩
    have k6 : Grown w w6 := gtrans k5 hg6
    have f6 := fun o => frz k6 w1.heap.size o m2
    clear hg6 k5 r50 r51 b50 b51 f5
    go_wp2_with fail
    refine (unhide A1 _ _).mono ?_
    rintro e w7 ⟨rfl, hg7⟩
    obtain ⟨r70, r71⟩ := gat2 hg7 w.heap.size (.int .i64 0) (.int .u64 0) (by constructor <;> simp [go_sem, *])
    obtain ⟨b70, b71⟩ := gat2 hg7 w1.heap.size (.int .i64 (hiOf (P + P + T + (P + P + T)))) (.int .u64 (loOf (P + P + T + (P + P + T)))) (by constructor <;> simp [go_sem, *])
    have k7 : Grown w w7 := gtrans (Grown.setCell (Grown.setCell k6 (by dsimp only; omega) _) (by dsimp only; omega) _) hg7
    have f7 := fun o => frz k7 w1.heap.size o m2
    have f8 := fun o => frz k7 w.heap.size o (by omega)
    clear hg7 k6 r60 r61 b60 b61 f6
    go_wp2
    simp [bodyPost, results, Tryz.results92, go_sem, *]
    rw [unhide E]
    exact ⟨⟨rfl, rfl⟩, Grown.setCell (Grown.setCell (Grown.setCell (Grown.setCell k7 (by dsimp only; omega) _) (by dsimp only; omega) _) (by dsimp only; omega) _) (by dsimp only; omega) _⟩
  · have E := hide (sq_even n (by omega))
    have hc : (n % 2 == 1) = false := by simp [c]
    rw [hk] at E M h2
    rw [hk] at hw
    clear c h2
    obtain ⟨P, hP⟩ : ∃ P, k * k = P := ⟨_, rfl⟩
    rw [hP] at M E
    clear hP
    go_enter Tryz.func92, Tryz.ntmps92
    go_wp2_with fail
    refine (unhide M _).mono ?_
    rintro e w1 ⟨rfl, hg1⟩
    obtain ⟨r10, r11⟩ := gat2 hg1 w.heap.size (.int .i64 0) (.int .u64 0) (by constructor <;> simp [go_sem])
    have k1 : Grown w w1 := gtrans ((Grown.refl _).alloc _ _) hg1
    have l1 := heap_gt r10; have n1 := Nat.ne_of_gt l1; have o1 := Nat.ne_of_lt l1
    clear hg1
    go_wp2_with fail
    refine (refAddV _ _ _).mono ?_
    rintro e w2 ⟨rfl, hg2⟩
    obtain ⟨r20, r21⟩ := gat2 hg2 w.heap.size (.int .i64 0) (.int .u64 0) (by constructor <;> simp [go_sem, *])
    obtain ⟨b20, b21⟩ := gat2 hg2 w1.heap.size (.int .i64 (hiOf P)) (.int .u64 (loOf P)) (by constructor <;> simp [go_sem, *])
    have k2 : Grown w w2 := gtrans (k1.alloc _ _) hg2
    have f2 := fun o => frz k2 w1.heap.size o k1.2.2
    have m2 := k1.2.2
    clear hg2 r10 r11 k1
    go_wp2_with fail
    refine (refAddV _ _ _).mono ?_
    rintro e w3 ⟨rfl, hg3⟩
    obtain ⟨r30, r31⟩ := gat2 hg3 w.heap.size (.int .i64 0) (.int .u64 0) (by constructor <;> simp [go_sem, *])
    obtain ⟨b30, b31⟩ := gat2 hg3 w1.heap.size (.int .i64 (hiOf (P + P))) (.int .u64 (loOf (P + P))) (by constructor <;> simp [go_sem, *])
    have k3 : Grown w w3 := gtrans (Grown.setCell (Grown.setCell k2 (by dsimp only; omega) _) (by dsimp only; omega) _) hg3
    have f3 := fun o => frz k3 w1.heap.size o m2
    have f4 := fun o => frz k3 w.heap.size o (by omega)
    clear hg3 k2 r20 r21 b20 b21 f2
    go_wp2
    simp [bodyPost, results, Tryz.results92, go_sem, *]
    rw [unhide E]
    exact ⟨⟨rfl, rfl⟩, Grown.setCell (Grown.setCell (Grown.setCell (Grown.setCell k3 (by dsimp only; omega) _) (by dsimp only; omega) _) (by dsimp only; omega) _) (by dsimp only; omega) _⟩

end Go.Proofs.YtecelkneiffceaaGreat
