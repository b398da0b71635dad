/- Package fix's over: what it returns. -/
import Derived.Test.YtopaakjildmjcaaGreatFixB
namespace Go.Proofs.YtopaakjildmjcaaGreat
open Go.RowKit Go.Proofs.Wd
set_option linter.unusedVariables false
set_option linter.unusedSimpArgs false
set_option maxRecDepth 10000
attribute [local go_sem ↓] Go.wp_at_zero Go.wp_at_succ

set_option maxHeartbeats 4000000 in
theorem fixOver_core (A B P Q er V : Int) (hE : (er = 0 ∧ Q = V) ∨ er = 2)
    (N1 : Hid (∀ w, Calls Tryz.prog 100 #[.agg #[.int .i64 (hiOf A), .int .u64 (loOf A)]] w fun e w' => e = .returned (.int .i64 A) ∧ Grown w w'))
    (N2 : Hid (∀ w, Calls Tryz.prog 100 #[.agg #[.int .i64 (hiOf B), .int .u64 (loOf B)]] w fun e w' => e = .returned (.int .i64 B) ∧ Grown w w'))
    (M1 : Hid (∀ w, Calls Tryz.prog 99 #[.int .i64 A, .int .i64 4294967296] w fun e w' => e = .returned (.agg #[.int .i64 (hiOf P), .int .u64 (loOf P)]) ∧ Grown w w'))
    (D1 : Hid (∀ w, Calls Tryz.prog 125 #[.agg #[.int .i64 (hiOf P), .int .u64 (loOf P)], .int .i64 B] w fun e w' => e = .returned (.tuple #[.agg #[.int .i64 (hiOf Q), .int .u64 (loOf Q)], .int .i64 er]) ∧ Grown w w'))
    (F1 : er = 2 → Hid (∀ (b : Nat) (w : World), w.cell? ⟨b, 0, none⟩ = some (.int .i64 (hiOf A)) → w.cell? ⟨b, 1, none⟩ = some (.int .u64 (loOf A)) → Calls Tryz.prog 123 #[.pointer (some ⟨b, 0, none⟩)] w fun e w' => e = .returned (.agg #[.int .i64 (hiOf V), .int .u64 (loOf V)]) ∧ Grown w w')) (w : World) :
    Calls Tryz.prog 104 #[.agg #[.int .i64 (hiOf A), .int .u64 (loOf A)], .agg #[.int .i64 (hiOf B), .int .u64 (loOf B)]] w fun e w' => e = .returned (.agg #[.int .i64 (hiOf V), .int .u64 (loOf V)]) ∧ Grown w w' := by
  have HE := hide hE
  have F2 := hide F1
  clear hE F1
  have hmf : ∀ (fn : Fn) (first cap : Array Value) (w : World), (Instr.makeFunc fn first cap).run Tryz.prog w = .ok (.func fn first cap) w := fun _ _ _ _ => rfl
  go_enter Tryz.func104, Tryz.ntmps104
  go_upto_region 2 with fail
  go_cut [6, 7] (fun s6 s7 wx => s7 = .int .i64 er ∧ ∃ g, s6 = .pointer (some ⟨g, 0, none⟩) ∧ (wx.cell? ⟨g, 0, none⟩ = some (.int .i64 (hiOf Q)) ∧ wx.cell? ⟨g, 1, none⟩ = some (.int .u64 (loOf Q))) ∧ (wx.cell? ⟨w.heap.size, 0, none⟩ = some (.int .i64 (hiOf A)) ∧ wx.cell? ⟨w.heap.size, 1, none⟩ = some (.int .u64 (loOf A))) ∧ (wx.cell? ⟨w.heap.size + 1 + 1, 0, none⟩ = some (.int .i64 0) ∧ wx.cell? ⟨w.heap.size + 1 + 1, 1, none⟩ = some (.int .u64 0)) ∧ Grown w wx)
  case first =>
    go_region_held3 (fun w' => (w'.cell? ⟨w.heap.size, 0, none⟩ = some (.int .i64 (hiOf A)) ∧ w'.cell? ⟨w.heap.size, 1, none⟩ = some (.int .u64 (loOf A))) ∧ (w'.cell? ⟨w.heap.size + 1, 0, none⟩ = some (.int .i64 (hiOf B)) ∧ w'.cell? ⟨w.heap.size + 1, 1, none⟩ = some (.int .u64 (loOf B))))
      (simp [go_sem, *])
      (first
        | (go_at_call 100; refine (unhide N1 _).mono ?_; rintro e w1 ⟨rfl, hg1⟩; obtain ⟨a10, a11⟩ := gat2 hg1 w.heap.size (.int .i64 (hiOf A)) (.int .u64 (loOf A)) (by constructor <;> simp [go_sem, *]); obtain ⟨b10, b11⟩ := gat2 hg1 (w.heap.size + 1) (.int .i64 (hiOf B)) (.int .u64 (loOf B)) (by constructor <;> simp [go_sem, *]); obtain ⟨c10, c11⟩ := gat2 hg1 (w.heap.size + 1 + 1) (.int .i64 0) (.int .u64 0) (by constructor <;> simp [go_sem, *]); have k1 : Grown w w1 := gtrans (by first | exact Grown.drew ((((Grown.refl _).alloc _ _).alloc _ _).alloc _ _) | exact Grown.alloc (Grown.drew ((((Grown.refl _).alloc _ _).alloc _ _).alloc _ _)) _ _ | exact Grown.drew (((((Grown.refl _).alloc _ _).alloc _ _).alloc _ _).alloc _ _)) hg1; have l1 := heap_gt c10; have n10 : w.heap.size < w1.heap.size := (by omega); have m10 : w1.heap.size ≠ w.heap.size := (by omega); have p10 : w.heap.size ≠ w1.heap.size := (by omega); have n11 : w.heap.size + 1 < w1.heap.size := (by omega); have m11 : w1.heap.size ≠ w.heap.size + 1 := (by omega); have p11 : w.heap.size + 1 ≠ w1.heap.size := (by omega); have n12 : w.heap.size + 1 + 1 < w1.heap.size := (by omega); have m12 : w1.heap.size ≠ w.heap.size + 1 + 1 := (by omega); have p12 : w.heap.size + 1 + 1 ≠ w1.heap.size := (by omega); (try (refine with_gat2 hg1 (w.heap.size + 1 + 1 + 1) (.int .i64 0) (.int .u64 0) ?_ ?_ ?_; (focus (first | assumption | (simp [go_sem]; done))); (focus (first | assumption | (simp [go_sem]; done))); intro y100 y101)))
        | (go_at_call 99; refine (unhide M1 _).mono ?_; rintro e w2 ⟨rfl, hg2⟩; obtain ⟨a20, a21⟩ := gat2 hg2 w.heap.size (.int .i64 (hiOf A)) (.int .u64 (loOf A)) (by constructor <;> simp [go_sem, *]); obtain ⟨b20, b21⟩ := gat2 hg2 (w.heap.size + 1) (.int .i64 (hiOf B)) (.int .u64 (loOf B)) (by constructor <;> simp [go_sem, *]); obtain ⟨c20, c21⟩ := gat2 hg2 (w.heap.size + 1 + 1) (.int .i64 0) (.int .u64 0) (by constructor <;> simp [go_sem, *]); have k2 : Grown w w2 := gtrans (by first | exact k1 | exact Grown.alloc k1 _ _) hg2; have l2 := heap_gt c20; have n20 : w.heap.size < w2.heap.size := (by omega); have m20 : w2.heap.size ≠ w.heap.size := (by omega); have p20 : w.heap.size ≠ w2.heap.size := (by omega); have n21 : w.heap.size + 1 < w2.heap.size := (by omega); have m21 : w2.heap.size ≠ w.heap.size + 1 := (by omega); have p21 : w.heap.size + 1 ≠ w2.heap.size := (by omega); have n22 : w.heap.size + 1 + 1 < w2.heap.size := (by omega); have m22 : w2.heap.size ≠ w.heap.size + 1 + 1 := (by omega); have p22 : w.heap.size + 1 + 1 ≠ w2.heap.size := (by omega); (try (refine with_gat2 hg2 (w.heap.size + 1 + 1 + 1) (.int .i64 0) (.int .u64 0) ?_ ?_ ?_; (focus (first | assumption | (simp [go_sem]; done))); (focus (first | assumption | (simp [go_sem]; done))); intro y200 y201)); (try (refine with_gat2 hg2 w1.heap.size (.int .i64 0) (.int .u64 0) ?_ ?_ ?_; (focus (first | assumption | (simp [go_sem]; done))); (focus (first | assumption | (simp [go_sem]; done))); intro y210 y211)))
        | (go_at_call 100; refine (unhide N2 _).mono ?_; rintro e w3 ⟨rfl, hg3⟩; obtain ⟨a30, a31⟩ := gat2 hg3 w.heap.size (.int .i64 (hiOf A)) (.int .u64 (loOf A)) (by constructor <;> simp [go_sem, *]); obtain ⟨b30, b31⟩ := gat2 hg3 (w.heap.size + 1) (.int .i64 (hiOf B)) (.int .u64 (loOf B)) (by constructor <;> simp [go_sem, *]); obtain ⟨c30, c31⟩ := gat2 hg3 (w.heap.size + 1 + 1) (.int .i64 0) (.int .u64 0) (by constructor <;> simp [go_sem, *]); have k3 : Grown w w3 := gtrans (by first | exact k2 | exact Grown.alloc k2 _ _) hg3; have l3 := heap_gt c30; have n30 : w.heap.size < w3.heap.size := (by omega); have m30 : w3.heap.size ≠ w.heap.size := (by omega); have p30 : w.heap.size ≠ w3.heap.size := (by omega); have n31 : w.heap.size + 1 < w3.heap.size := (by omega); have m31 : w3.heap.size ≠ w.heap.size + 1 := (by omega); have p31 : w.heap.size + 1 ≠ w3.heap.size := (by omega); have n32 : w.heap.size + 1 + 1 < w3.heap.size := (by omega); have m32 : w3.heap.size ≠ w.heap.size + 1 + 1 := (by omega); have p32 : w.heap.size + 1 + 1 ≠ w3.heap.size := (by omega); (try (refine with_gat2 hg3 (w.heap.size + 1 + 1 + 1) (.int .i64 0) (.int .u64 0) ?_ ?_ ?_; (focus (first | assumption | (simp [go_sem]; done))); (focus (first | assumption | (simp [go_sem]; done))); intro y300 y301)); (try (refine with_gat2 hg3 w1.heap.size (.int .i64 0) (.int .u64 0) ?_ ?_ ?_; (focus (first | assumption | (simp [go_sem]; done))); (focus (first | assumption | (simp [go_sem]; done))); intro y310 y311)); (try (refine with_gat2 hg3 w2.heap.size (.int .i64 0) (.int .u64 0) ?_ ?_ ?_; (focus (first | assumption | (simp [go_sem]; done))); (focus (first | assumption | (simp [go_sem]; done))); intro y320 y321)))
        | (go_at_call 125; refine (unhide D1 _).mono ?_; rintro e w4 ⟨rfl, hg4⟩; obtain ⟨a40, a41⟩ := gat2 hg4 w.heap.size (.int .i64 (hiOf A)) (.int .u64 (loOf A)) (by constructor <;> simp [go_sem, *]); obtain ⟨b40, b41⟩ := gat2 hg4 (w.heap.size + 1) (.int .i64 (hiOf B)) (.int .u64 (loOf B)) (by constructor <;> simp [go_sem, *]); obtain ⟨c40, c41⟩ := gat2 hg4 (w.heap.size + 1 + 1) (.int .i64 0) (.int .u64 0) (by constructor <;> simp [go_sem, *]); have k4 : Grown w w4 := gtrans (by first | exact k3 | exact Grown.alloc k3 _ _) hg4; have l4 := heap_gt c40; have n40 : w.heap.size < w4.heap.size := (by omega); have m40 : w4.heap.size ≠ w.heap.size := (by omega); have p40 : w.heap.size ≠ w4.heap.size := (by omega); have n41 : w.heap.size + 1 < w4.heap.size := (by omega); have m41 : w4.heap.size ≠ w.heap.size + 1 := (by omega); have p41 : w.heap.size + 1 ≠ w4.heap.size := (by omega); have n42 : w.heap.size + 1 + 1 < w4.heap.size := (by omega); have m42 : w4.heap.size ≠ w.heap.size + 1 + 1 := (by omega); have p42 : w.heap.size + 1 + 1 ≠ w4.heap.size := (by omega); (try (refine with_gat2 hg4 (w.heap.size + 1 + 1 + 1) (.int .i64 0) (.int .u64 0) ?_ ?_ ?_; (focus (first | assumption | (simp [go_sem]; done))); (focus (first | assumption | (simp [go_sem]; done))); intro y400 y401)); (try (refine with_gat2 hg4 w1.heap.size (.int .i64 0) (.int .u64 0) ?_ ?_ ?_; (focus (first | assumption | (simp [go_sem]; done))); (focus (first | assumption | (simp [go_sem]; done))); intro y410 y411)); (try (refine with_gat2 hg4 w2.heap.size (.int .i64 0) (.int .u64 0) ?_ ?_ ?_; (focus (first | assumption | (simp [go_sem]; done))); (focus (first | assumption | (simp [go_sem]; done))); intro y420 y421)); (try (refine with_gat2 hg4 w3.heap.size (.int .i64 0) (.int .u64 0) ?_ ?_ ?_; (focus (first | assumption | (simp [go_sem]; done))); (focus (first | assumption | (simp [go_sem]; done))); intro y430 y431)); have zz0 := fun o => frz k4 (w.heap.size + 1 + 1 + 1) o (by omega); have zz1 := fun o => frz k4 w1.heap.size o k1.2.2; have zz2 := fun o => frz k4 w2.heap.size o k2.2.2; have zz3 := fun o => frz k4 w3.heap.size o k3.2.2))
    all_goals go_wp2_with fail
    all_goals go_meet
    all_goals refine ⟨rfl, _, rfl, ⟨?_, ?_⟩, ⟨?_, ?_⟩, ⟨?_, ?_⟩, ?_⟩
    all_goals first | (simp [go_sem, *]; done) | exact Grown.alloc k4 _ _ | exact Grown.setCell (Grown.setCell k4 (by dsimp only; omega) _) (by dsimp only; omega) _ | exact Grown.setCell (Grown.setCell k4 k1.2.2 _) k1.2.2 _ | exact Grown.setCell (Grown.setCell k4 k2.2.2 _) k2.2.2 _ | exact Grown.setCell (Grown.setCell k4 k3.2.2 _) k3.2.2 _
  case rest =>
  obtain ⟨rfl, g, rfl, ⟨g0, g1⟩, ⟨a0, a1⟩, ⟨c0, c1⟩, k⟩ := hcut
  have f := fun o => frz k (w.heap.size + 1 + 1) o (by omega)
  rcases unhide HE with ⟨rfl, rfl⟩ | rfl
  · go_wp2
    simp [bodyPost, results, Tryz.results104, go_sem, *]
    exact Grown.setCell (Grown.setCell k (by dsimp only; omega) _) (by dsimp only; omega) _
  · have F3 := hide (unhide F2 rfl)
    clear F2 f
    go_wp2_with fail
    refine (unhide (unhide F3) _ _ a0 a1).mono ?_
    rintro e w1 ⟨rfl, hg⟩
    obtain ⟨d0, d1⟩ := gat2 hg _ _ _ ⟨c0, c1⟩
    have k1 : Grown w w1 := gtrans k hg
    have f := fun o => frz k1 (w.heap.size + 1 + 1) o (by omega)
    clear g0 g1 a0 a1 c0 c1 k hg
    go_wp2
    simp [bodyPost, results, Tryz.results104, go_sem, *]
    exact Grown.setCell (Grown.setCell k1 (by dsimp only; omega) _) (by dsimp only; omega) _

theorem fixOver (A B : Int) (hA : Fx A) (hB : Fx B) (w : World) :
    Calls Tryz.prog 104 #[.agg #[.int .i64 (hiOf A), .int .u64 (loOf A)], .agg #[.int .i64 (hiOf B), .int .u64 (loOf B)]] w fun e w' => e = .returned (.agg #[.int .i64 (hiOf (quoR A B)), .int .u64 (loOf (quoR A B))]) ∧ Grown w w' := by
  have hp : wrapW (A * 4294967296) = A * 4294967296 := wrapW_in _ (by unfold Fx at hA; omega)
  have M1 := hide (fun w => wideMul A 4294967296 (Fx_I64 hA) (by unfold I64; omega) w)
  by_cases hz : B = 0
  · subst hz
    refine fixOver_core A 0 (A * 4294967296) 0 2 (quoR A 0) (Or.inr rfl) (hide fun w => fixNarrow A (Fx_I64 hA) w) (hide fun w => fixNarrow 0 (Fx_I64 hB) w) M1 (hide fun w => ?_) (fun _ => hide fun b w h0 h1 => fixFar A b (wrapW_in _ (by unfold Fx at hA; omega)) w h0 h1) w
    exact wideDiv_bad _ _ w
  · have D := fun w => wideDiv (hiOf (A * 4294967296)) (loOf (A * 4294967296)) B (hiOf_I64 _) (loOf_U64 _) (Fx_I64 hB) hz (by
      have hn : 0 < absI B := by unfold absI; split <;> omega
      exact div64_all _ _ _ (Int.emod_nonneg _ (by omega)) (Int.emod_lt_of_pos _ hn) (absI_U64 B (Fx_I64 hB)) (loOf_U64 _)) w
    rw [val_of, hp] at D
    exact fixOver_core A B (A * 4294967296) (rdiv (A * 4294967296) B) 0 (quoR A B) (Or.inl ⟨rfl, by unfold quoR; rw [if_neg hz]⟩) (hide fun w => fixNarrow A (Fx_I64 hA) w) (hide fun w => fixNarrow B (Fx_I64 hB) w) M1 (hide D) (fun h => by omega) w

end Go.Proofs.YtopaakjildmjcaaGreat
