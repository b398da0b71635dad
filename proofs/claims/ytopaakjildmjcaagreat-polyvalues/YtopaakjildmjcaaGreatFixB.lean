/- The operations of package fix, as funcs of two wide numbers: what each returns. -/
import Derived.Test.YtopaakjildmjcaaGreatFixA
import Derived.Test.YtopaakjildmjcaaGreatDiv64
namespace Go.Proofs.YtopaakjildmjcaaGreat
open Go.RowKit Go.Proofs.Wd
set_option linter.unusedVariables false
set_option linter.unusedSimpArgs false
set_option maxRecDepth 10000
attribute [local go_sem ↓] Go.wp_at_zero Go.wp_at_succ

set_option maxRecDepth 10000 in
set_option maxHeartbeats 2000000 in
theorem fixMul1 (A B : Int) (hA : Fx A) (hB : Fx B) (w : World) :
    Calls Tryz.prog 97 #[.agg #[.int .i64 (hiOf A), .int .u64 (loOf A)], .agg #[.int .i64 (hiOf B), .int .u64 (loOf B)]] w fun e w' => e = .returned (.agg #[.int .i64 (hiOf (rdiv (A * B) 4294967296)), .int .u64 (loOf (rdiv (A * B) 4294967296))]) ∧ Grown w w' := by
  have N1 := hide (fun w => fixNarrow A (Fx_I64 hA) w)
  have N2 := hide (fun w => fixNarrow B (Fx_I64 hB) w)
  have M1 := hide (fun w => wideMul A B (Fx_I64 hA) (Fx_I64 hB) w)
  have S1 := hide (fun w => fixShifted (A * B) 32 (by omega) (by omega) w)
  rw [wrapW_prod A B hA hB, show (2 : Int) ^ (32 : Int).toNat = 4294967296 from by decide] at S1
  clear hA hB
  generalize A * B = C at *
  generalize rdiv C 4294967296 = D at *
  go_enter Tryz.func97, Tryz.ntmps97
  go_wp2
  go_region_held3 (fun w' => (w'.cell? ⟨w.heap.size, 0, none⟩ = some (.int .i64 (hiOf A)) ∧ w'.cell? ⟨w.heap.size, 1, none⟩ = some (.int .u64 (loOf A))) ∧ (w'.cell? ⟨w.heap.size + 1, 0, none⟩ = some (.int .i64 (hiOf B)) ∧ w'.cell? ⟨w.heap.size + 1, 1, none⟩ = some (.int .u64 (loOf B))))
    (simp [go_sem, *])
    (first
      | (go_at_call 100; refine (unhide N1 _).mono ?_; rintro e w1 ⟨rfl, hg1⟩; obtain ⟨a0, a1⟩ := gat2 hg1 w.heap.size (.int .i64 (hiOf A)) (.int .u64 (loOf A)) (by constructor <;> simp [go_sem, *]); obtain ⟨b0, b1⟩ := gat2 hg1 (w.heap.size + 1) (.int .i64 (hiOf B)) (.int .u64 (loOf B)) (by constructor <;> simp [go_sem, *]); obtain ⟨c0, c1⟩ := gat2 hg1 (w.heap.size + 1 + 1) (.int .i64 0) (.int .u64 0) (by constructor <;> simp [go_sem, *]); have k1 : Grown w w1 := gtrans (by exact Grown.drew ((((Grown.refl _).alloc _ _).alloc _ _).alloc _ _)) hg1)
      | (go_at_call 100; refine (unhide N2 _).mono ?_; rintro e w2 ⟨rfl, hg2⟩; obtain ⟨a20, a21⟩ := gat2 hg2 w.heap.size (.int .i64 (hiOf A)) (.int .u64 (loOf A)) (by constructor <;> simp [go_sem, *]); obtain ⟨b20, b21⟩ := gat2 hg2 (w.heap.size + 1) (.int .i64 (hiOf B)) (.int .u64 (loOf B)) (by constructor <;> simp [go_sem, *]); obtain ⟨c20, c21⟩ := gat2 hg2 (w.heap.size + 1 + 1) (.int .i64 0) (.int .u64 0) (by constructor <;> simp [go_sem, *]); have k2 : Grown w w2 := gtrans k1 hg2)
      | (go_at_call 99; refine (unhide M1 _).mono ?_; rintro e w3 ⟨rfl, hg3⟩; obtain ⟨a30, a31⟩ := gat2 hg3 w.heap.size (.int .i64 (hiOf A)) (.int .u64 (loOf A)) (by constructor <;> simp [go_sem, *]); obtain ⟨b30, b31⟩ := gat2 hg3 (w.heap.size + 1) (.int .i64 (hiOf B)) (.int .u64 (loOf B)) (by constructor <;> simp [go_sem, *]); obtain ⟨c30, c31⟩ := gat2 hg3 (w.heap.size + 1 + 1) (.int .i64 0) (.int .u64 0) (by constructor <;> simp [go_sem, *]); have k3 : Grown w w3 := gtrans k2 hg3)
      | (go_at_call 98; refine (unhide S1 _).mono ?_; rintro e w4 ⟨rfl, hg4⟩; obtain ⟨a40, a41⟩ := gat2 hg4 w.heap.size (.int .i64 (hiOf A)) (.int .u64 (loOf A)) (by constructor <;> simp [go_sem, *]); obtain ⟨b40, b41⟩ := gat2 hg4 (w.heap.size + 1) (.int .i64 (hiOf B)) (.int .u64 (loOf B)) (by constructor <;> simp [go_sem, *]); obtain ⟨c40, c41⟩ := gat2 hg4 (w.heap.size + 1 + 1) (.int .i64 0) (.int .u64 0) (by constructor <;> simp [go_sem, *]); have k4 : Grown w w4 := gtrans k3 hg4; have f4 := fun o => frz k4 (w.heap.size + 1 + 1) o (by omega)))
  go_wp2
  simp [bodyPost, results, Tryz.results97, go_sem, *]
  exact Grown.setCell (Grown.setCell k4 (by dsimp only; omega) _) (by dsimp only; omega) _

set_option maxHeartbeats 1000000 in
theorem fixFar (A : Int) (b : Nat) (hA : wrapW A = A) (w : World) (h0 : w.cell? ⟨b, 0, none⟩ = some (.int .i64 (hiOf A))) (h1 : w.cell? ⟨b, 1, none⟩ = some (.int .u64 (loOf A))) :
    Calls Tryz.prog 123 #[.pointer (some ⟨b, 0, none⟩)] w fun e w' => e = .returned (.agg #[.int .i64 (hiOf (quoR A 0)), .int .u64 (loOf (quoR A 0))]) ∧ Grown w w' := by
  have z := heap_gt h0
  have C1 := hide (fun w => cmpV A 0 w)
  rw [hA, show wrapW 0 = 0 from by decide, show hiOf 0 = 0 from by decide, show loOf 0 = 0 from by decide] at C1
  rcases (show A < 0 ∨ A = 0 ∨ 0 < A from by omega) with hs | hs | hs
  · rw [show cmpI A 0 = -1 from by unfold cmpI; rw [if_pos hs]] at C1
    rw [show quoR A 0 = -18446744073709551616 from by unfold quoR; rw [if_pos rfl, if_pos hs], show hiOf (-18446744073709551616) = -1 from by decide, show loOf (-18446744073709551616) = 0 from by decide]
    clear hs hA
    go_enter Tryz.func123, Tryz.ntmps123
    go_wp2_with fail
    refine (unhide C1 _).mono ?_
    rintro e w1 ⟨rfl, hg⟩
    obtain ⟨d0, d1⟩ := gat2 hg w.heap.size (.int .i64 0) (.int .u64 0) (by constructor <;> simp [go_sem])
    have k : Grown w w1 := gtrans ((Grown.refl _).alloc _ _) hg
    have f := fun o => frz k w.heap.size o (by omega)
    go_wp2
    simp [bodyPost, results, Tryz.results123, go_sem, d0, d1]
    exact Grown.setCell (Grown.setCell k (by dsimp only; omega) _) (by dsimp only; omega) _
  · subst hs
    rw [show cmpI 0 0 = 0 from by decide] at C1
    rw [show quoR 0 0 = 0 from by decide, show hiOf 0 = 0 from by decide, show loOf 0 = 0 from by decide]
    rw [show hiOf 0 = 0 from by decide] at h0
    rw [show loOf 0 = 0 from by decide] at h1
    clear hA
    go_enter Tryz.func123, Tryz.ntmps123
    go_wp2_with fail
    refine (unhide C1 _).mono ?_
    rintro e w1 ⟨rfl, hg⟩
    obtain ⟨d0, d1⟩ := gat2 hg w.heap.size (.int .i64 0) (.int .u64 0) (by constructor <;> simp [go_sem])
    have k : Grown w w1 := gtrans ((Grown.refl _).alloc _ _) hg
    have f := fun o => frz k w.heap.size o (by omega)
    go_wp2
    simp [bodyPost, results, Tryz.results123, go_sem, d0, d1]
    exact Grown.setCell (Grown.setCell k (by dsimp only; omega) _) (by dsimp only; omega) _
  · rw [show cmpI A 0 = 1 from by unfold cmpI; rw [if_neg (by omega), if_neg (by omega)]] at C1
    rw [show quoR A 0 = 18446744073709551616 from by unfold quoR; rw [if_pos rfl, if_neg (by omega), if_pos hs], show hiOf (18446744073709551616) = 1 from by decide, show loOf (18446744073709551616) = 0 from by decide]
    clear hs hA
    go_enter Tryz.func123, Tryz.ntmps123
    go_wp2_with fail
    refine (unhide C1 _).mono ?_
    rintro e w1 ⟨rfl, hg⟩
    obtain ⟨d0, d1⟩ := gat2 hg w.heap.size (.int .i64 0) (.int .u64 0) (by constructor <;> simp [go_sem])
    have k : Grown w w1 := gtrans ((Grown.refl _).alloc _ _) hg
    have f := fun o => frz k w.heap.size o (by omega)
    go_wp2
    simp [bodyPost, results, Tryz.results123, go_sem, d0, d1]
    exact Grown.setCell (Grown.setCell k (by dsimp only; omega) _) (by dsimp only; omega) _

end Go.Proofs.YtopaakjildmjcaaGreat
