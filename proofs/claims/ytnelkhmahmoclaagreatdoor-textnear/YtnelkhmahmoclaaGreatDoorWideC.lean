/- Package wide's rounding: what shift, shifted, nearest and Round return, in whole numbers. -/
import Derived.Test.YtnelkhmahmoclaaGreatDoorWideB
import Derived.Deep.RegionHeld3
import Derived.Deep.DrawnRows
import Derived.WalkSmall
import Derived.ChangeKeysEq
namespace Go.Proofs.YtnelkhmahmoclaaGreatDoor
open Go.RowKit Go.Proofs.Wd
set_option linter.unusedVariables false
set_option linter.unusedSimpArgs false
set_option maxRecDepth 10000
attribute [local go_sem ↓] Go.wp_at_zero Go.wp_at_succ

theorem gfr {W w1 : World} (h : Grown W w1) {a : Addr} (hv : W.frozen? a = false) : w1.frozen? a = false := (h.2.1 a).trans hv

theorem heap_gt {W : World} {b o : Nat} {v : Value} (hv : W.cell? ⟨b, o, none⟩ = some v) : b < W.heap.size := by
  by_cases hb : b < W.heap.size
  · exact hb
  · rw [World.cell?] at hv
    simp [Array.getElem?_eq_none (Nat.le_of_not_lt hb)] at hv
theorem frz {W w1 : World} (h : Grown W w1) : ∀ b o, W.heap.size ≤ b → w1.frozen? ⟨b, o, none⟩ = false := by
  intro b o hb
  rw [h.2.1]
  simp [World.frozen?, Array.getElem?_eq_none hb]
theorem gat2 {W w1 : World} (h : Grown W w1) (b : Nat) (x y : Value) (hv : W.cell? ⟨b, 0, none⟩ = some x ∧ W.cell? ⟨b, 1, none⟩ = some y) : w1.cell? ⟨b, 0, none⟩ = some x ∧ w1.cell? ⟨b, 1, none⟩ = some y := ⟨gat h hv.1, gat h hv.2⟩

theorem arrEq (a b c d : Int) (w : World) : (Op.equalIn 9999 106 (.agg #[.int .u64 a, .int .u64 b]) (.agg #[.int .u64 c, .int .u64 d])).run Tryz.prog w = .ok (a == c && b == d) w := by
  obtain ⟨i, hi⟩ : ∃ i, Tryz.prog.info? 41 = some i := Option.isSome_iff_exists.1 (by kernel_rfl)
  rw [show (9999 : Nat) = 9998 + 1 from rfl, run_equalIn_array w 9998 _ _ Tryz.underlying106 hi, show Tryz.prog.cellsOf 41 = 1 from by kernel_rfl, show List.range 2 = [0, 1] from rfl]
  simp only [Op.eqItems]
  simp [go_sem, Tryz.underlying41]
  by_cases h : a = c <;> by_cases h' : b = d <;> simp [h, h']
theorem arrEq_no (a b c d : Int) (h : a ≠ c ∨ b ≠ d) (w : World) : (Op.equalIn 9999 106 (.agg #[.int .u64 a, .int .u64 b]) (.agg #[.int .u64 c, .int .u64 d])).run Tryz.prog w = .ok false w := by
  rw [arrEq, show (a == c && b == d) = false from by rcases h with h | h <;> simp [h]]
theorem arrEq_yes (a b : Int) (w : World) : (Op.equalIn 9999 106 (.agg #[.int .u64 a, .int .u64 b]) (.agg #[.int .u64 a, .int .u64 b])).run Tryz.prog w = .ok true w := by
  rw [arrEq]; simp

set_option maxHeartbeats 1000000 in
theorem wideNearest (wl wh rl rh ll lh : Int) (b : Bool) (h1 : U64 wl) (h2 : U64 wh) (h3 : U64 rl) (h4 : U64 rh) (h5 : U64 ll) (h6 : U64 lh) (hw : val wh wl < 340282366920938463463374607431768211455) (w : World) :
    Calls Tryz.prog 89 #[.agg #[.int .u64 wl, .int .u64 wh], .agg #[.int .u64 rl, .int .u64 rh], .agg #[.int .u64 ll, .int .u64 lh], .bool b] w fun e w' => e = .returned (.agg #[.int .i64 (hiOf (sg b (nearQ (val wh wl) (val rh rl) (val lh ll)))), .int .u64 (loOf (sg b (nearQ (val wh wl) (val rh rl) (val lh ll))))]) ∧ Grown w w' := by
  have hand := and_one_u64 wl h1.1 (by have := h1.2; omega)
  have hpar : val wh wl % 2 = wl % 2 := by unfold val; omega
  have hx : val (mhi (val wh wl + 1)) (loOf (val wh wl + 1)) = val wh wl + 1 := val_size _ (by have := size_range wh wl h2 h1; omega)
  have HX := hide hx; have HP := hide hpar
  clear hx hpar
  by_cases g1 : val lh ll < val rh rl
  · have HQ : Hid (nearQ (val wh wl) (val rh rl) (val lh ll) = val wh wl + 1) := by unfold nearQ; rw [if_pos (Or.inl g1)]; exact hide rfl
    have g1' : decide (val lh ll < val rh rl) = true := by simpa using g1
    clear g1
    go_enter Tryz.func89, Tryz.ntmps89
    go_wp2_with fail
    refine (wideLess ll lh rl rh h5 h6 h3 h4 _).mono ?_
    rintro e w1 ⟨rfl, hg1⟩
    rw [g1']
    obtain ⟨a0, a1⟩ := gat2 hg1 w.heap.size (.int .u64 wl) (.int .u64 wh) (by constructor <;> simp [go_sem])
    obtain ⟨b0, b1⟩ := gat2 hg1 (w.heap.size + 1) (.int .u64 rl) (.int .u64 rh) (by constructor <;> simp [go_sem])
    obtain ⟨c0, c1⟩ := gat2 hg1 (w.heap.size + 1 + 1) (.int .u64 ll) (.int .u64 lh) (by constructor <;> simp [go_sem])
    obtain ⟨d0, d1⟩ := gat2 hg1 (w.heap.size + 1 + 1 + 1) (.int .i64 0) (.int .u64 0) (by constructor <;> simp [go_sem])
    have hgw1 : Grown w w1 := gtrans ((((((Grown.refl _).alloc _ _).alloc _ _).alloc _ _).alloc _ _)) hg1
    clear hg1
    go_wp2_with fail
    refine (wideNext wl wh h1 h2 _).mono ?_
    rintro e w2 ⟨rfl, hg2⟩
    obtain ⟨a2, a3⟩ := gat2 hg2 w.heap.size (.int .u64 wl) (.int .u64 wh) ⟨a0, a1⟩
    obtain ⟨d2, d3⟩ := gat2 hg2 (w.heap.size + 1 + 1 + 1) (.int .i64 0) (.int .u64 0) ⟨d0, d1⟩
    have hgw2 : Grown w w2 := gtrans hgw1 hg2
    have f0 := fun o => frz hgw2 w.heap.size o (by omega)
    clear hg2 a0 a1 b0 b1 c0 c1 d0 d1
    go_wp2_with fail
    refine (wideSigned _ _ b (loOf_U64 _) (mhi_U64 _) _).mono ?_
    rintro e w3 ⟨rfl, hg3⟩
    obtain ⟨d4, d5⟩ := gat2 hg3 (w.heap.size + 1 + 1 + 1) (.int .i64 0) (.int .u64 0) (by constructor <;> simp [go_sem, *])
    have hgw3 : Grown w w3 := gtrans (Grown.setCell (Grown.setCell hgw2 (by dsimp only; omega) _) (by dsimp only; omega) _) hg3
    have f1 := fun o => frz hgw3 (w.heap.size + 1 + 1 + 1) o (by omega)
    rw [unhide HX]
    clear hg3 d2 d3 a2 a3 f0
    go_wp2
    simp [bodyPost, results, Tryz.results89, go_sem, d4, d5]
    rw [unhide HQ]
    exact ⟨⟨rfl, rfl⟩, Grown.setCell (Grown.setCell hgw3 (by dsimp only; omega) _) (by dsimp only; omega) _⟩
  · by_cases g2 : rh < lh
    · have EQ := arrEq_no ll lh rl rh (Or.inr (by omega))
      have HQ : Hid (nearQ (val wh wl) (val rh rl) (val lh ll) = val wh wl) := by unfold nearQ; rw [if_neg (by unfold U64 at *; unfold val at *; omega)]; exact hide rfl
      have g1' : decide (val lh ll < val rh rl) = false := by simp; unfold U64 at *; unfold val at *; omega
      clear g1
      go_enter Tryz.func89, Tryz.ntmps89
      go_wp2_with fail
      refine (wideLess ll lh rl rh h5 h6 h3 h4 _).mono ?_
      rintro e w1 ⟨rfl, hg1⟩
      rw [g1']
      obtain ⟨a0, a1⟩ := gat2 hg1 w.heap.size (.int .u64 wl) (.int .u64 wh) (by constructor <;> simp [go_sem])
      obtain ⟨b0, b1⟩ := gat2 hg1 (w.heap.size + 1) (.int .u64 rl) (.int .u64 rh) (by constructor <;> simp [go_sem])
      obtain ⟨c0, c1⟩ := gat2 hg1 (w.heap.size + 1 + 1) (.int .u64 ll) (.int .u64 lh) (by constructor <;> simp [go_sem])
      obtain ⟨d0, d1⟩ := gat2 hg1 (w.heap.size + 1 + 1 + 1) (.int .i64 0) (.int .u64 0) (by constructor <;> simp [go_sem])
      have hgw1 : Grown w w1 := gtrans ((((((Grown.refl _).alloc _ _).alloc _ _).alloc _ _).alloc _ _)) hg1
      clear hg1
      go_wp2_with fail
      refine (wideSigned _ _ b h1 h2 _).mono ?_
      rintro e w3 ⟨rfl, hg3⟩
      obtain ⟨d4, d5⟩ := gat2 hg3 (w.heap.size + 1 + 1 + 1) (.int .i64 0) (.int .u64 0) ⟨d0, d1⟩
      have hgw3 : Grown w w3 := gtrans hgw1 hg3
      have f1 := fun o => frz hgw3 (w.heap.size + 1 + 1 + 1) o (by omega)
      clear hg3 a0 a1 b0 b1 c0 c1 d0 d1
      go_wp2
      simp [bodyPost, results, Tryz.results89, go_sem, d4, d5]
      rw [unhide HQ]
      exact ⟨⟨rfl, rfl⟩, Grown.setCell (Grown.setCell hgw3 (by dsimp only; omega) _) (by dsimp only; omega) _⟩
    · obtain rfl : rh = lh := by unfold val at g1; unfold U64 at *; omega
      by_cases g3 : rl < ll
      · have EQ := arrEq_no ll rh rl rh (Or.inl (by omega))
        have HQ : Hid (nearQ (val wh wl) (val rh rl) (val rh ll) = val wh wl) := by unfold nearQ; rw [if_neg (by unfold U64 at *; unfold val at *; omega)]; exact hide rfl
        have g1' : decide (val rh ll < val rh rl) = false := by simp; unfold U64 at *; unfold val at *; omega
        clear g1
        go_enter Tryz.func89, Tryz.ntmps89
        go_wp2_with fail
        refine (wideLess ll rh rl rh h5 h6 h3 h4 _).mono ?_
        rintro e w1 ⟨rfl, hg1⟩
        rw [g1']
        obtain ⟨a0, a1⟩ := gat2 hg1 w.heap.size (.int .u64 wl) (.int .u64 wh) (by constructor <;> simp [go_sem])
        obtain ⟨b0, b1⟩ := gat2 hg1 (w.heap.size + 1) (.int .u64 rl) (.int .u64 rh) (by constructor <;> simp [go_sem])
        obtain ⟨c0, c1⟩ := gat2 hg1 (w.heap.size + 1 + 1) (.int .u64 ll) (.int .u64 rh) (by constructor <;> simp [go_sem])
        obtain ⟨d0, d1⟩ := gat2 hg1 (w.heap.size + 1 + 1 + 1) (.int .i64 0) (.int .u64 0) (by constructor <;> simp [go_sem])
        have hgw1 : Grown w w1 := gtrans ((((((Grown.refl _).alloc _ _).alloc _ _).alloc _ _).alloc _ _)) hg1
        clear hg1
        go_wp2_with fail
        refine (wideSigned _ _ b h1 h2 _).mono ?_
        rintro e w3 ⟨rfl, hg3⟩
        obtain ⟨d4, d5⟩ := gat2 hg3 (w.heap.size + 1 + 1 + 1) (.int .i64 0) (.int .u64 0) ⟨d0, d1⟩
        have hgw3 : Grown w w3 := gtrans hgw1 hg3
        have f1 := fun o => frz hgw3 (w.heap.size + 1 + 1 + 1) o (by omega)
        clear hg3 a0 a1 b0 b1 c0 c1 d0 d1
        go_wp2
        simp [bodyPost, results, Tryz.results89, go_sem, d4, d5]
        rw [unhide HQ]
        exact ⟨⟨rfl, rfl⟩, Grown.setCell (Grown.setCell hgw3 (by dsimp only; omega) _) (by dsimp only; omega) _⟩
      · obtain rfl : rl = ll := by unfold val at g1; omega
        have g1' : decide (val rh rl < val rh rl) = false := by simp
        clear g1 g2 g3
        have EQ := arrEq_yes rl rh
        by_cases g4 : wl % 2 = 1
        · have HQ : Hid (nearQ (val wh wl) (val rh rl) (val rh rl) = val wh wl + 1) := by unfold nearQ; rw [if_pos (Or.inr ⟨rfl, by rw [unhide HP]; exact g4⟩)]; exact hide rfl
          go_enter Tryz.func89, Tryz.ntmps89
          go_wp2_with fail
          refine (wideLess rl rh rl rh h3 h4 h3 h4 _).mono ?_
          rintro e w1 ⟨rfl, hg1⟩
          rw [g1']
          obtain ⟨a0, a1⟩ := gat2 hg1 w.heap.size (.int .u64 wl) (.int .u64 wh) (by constructor <;> simp [go_sem])
          obtain ⟨b0, b1⟩ := gat2 hg1 (w.heap.size + 1) (.int .u64 rl) (.int .u64 rh) (by constructor <;> simp [go_sem])
          obtain ⟨c0, c1⟩ := gat2 hg1 (w.heap.size + 1 + 1) (.int .u64 rl) (.int .u64 rh) (by constructor <;> simp [go_sem])
          obtain ⟨d0, d1⟩ := gat2 hg1 (w.heap.size + 1 + 1 + 1) (.int .i64 0) (.int .u64 0) (by constructor <;> simp [go_sem])
          have hgw1 : Grown w w1 := gtrans ((((((Grown.refl _).alloc _ _).alloc _ _).alloc _ _).alloc _ _)) hg1
          clear hg1
          go_wp2_with fail
          refine (wideNext wl wh h1 h2 _).mono ?_
          rintro e w2 ⟨rfl, hg2⟩
          obtain ⟨a2, a3⟩ := gat2 hg2 w.heap.size (.int .u64 wl) (.int .u64 wh) ⟨a0, a1⟩
          obtain ⟨d2, d3⟩ := gat2 hg2 (w.heap.size + 1 + 1 + 1) (.int .i64 0) (.int .u64 0) ⟨d0, d1⟩
          have hgw2 : Grown w w2 := gtrans hgw1 hg2
          have f0 := fun o => frz hgw2 w.heap.size o (by omega)
          clear hg2 a0 a1 b0 b1 c0 c1 d0 d1
          go_wp2_with fail
          refine (wideSigned _ _ b (loOf_U64 _) (mhi_U64 _) _).mono ?_
          rintro e w3 ⟨rfl, hg3⟩
          obtain ⟨d4, d5⟩ := gat2 hg3 (w.heap.size + 1 + 1 + 1) (.int .i64 0) (.int .u64 0) (by constructor <;> simp [go_sem, *])
          have hgw3 : Grown w w3 := gtrans (Grown.setCell (Grown.setCell hgw2 (by dsimp only; omega) _) (by dsimp only; omega) _) hg3
          have f1 := fun o => frz hgw3 (w.heap.size + 1 + 1 + 1) o (by omega)
          rw [unhide HX]
          clear hg3 d2 d3 a2 a3 f0
          go_wp2
          simp [bodyPost, results, Tryz.results89, go_sem, d4, d5]
          rw [unhide HQ]
          exact ⟨⟨rfl, rfl⟩, Grown.setCell (Grown.setCell hgw3 (by dsimp only; omega) _) (by dsimp only; omega) _⟩
        · have HQ : Hid (nearQ (val wh wl) (val rh rl) (val rh rl) = val wh wl) := by unfold nearQ; rw [if_neg (by rw [unhide HP]; omega)]; exact hide rfl
          have g5 : (wl % 2 == 1) = false := by simpa using g4
          go_enter Tryz.func89, Tryz.ntmps89
          go_wp2_with fail
          refine (wideLess rl rh rl rh h3 h4 h3 h4 _).mono ?_
          rintro e w1 ⟨rfl, hg1⟩
          rw [g1']
          obtain ⟨a0, a1⟩ := gat2 hg1 w.heap.size (.int .u64 wl) (.int .u64 wh) (by constructor <;> simp [go_sem])
          obtain ⟨b0, b1⟩ := gat2 hg1 (w.heap.size + 1) (.int .u64 rl) (.int .u64 rh) (by constructor <;> simp [go_sem])
          obtain ⟨c0, c1⟩ := gat2 hg1 (w.heap.size + 1 + 1) (.int .u64 rl) (.int .u64 rh) (by constructor <;> simp [go_sem])
          obtain ⟨d0, d1⟩ := gat2 hg1 (w.heap.size + 1 + 1 + 1) (.int .i64 0) (.int .u64 0) (by constructor <;> simp [go_sem])
          have hgw1 : Grown w w1 := gtrans ((((((Grown.refl _).alloc _ _).alloc _ _).alloc _ _).alloc _ _)) hg1
          clear hg1
          go_wp2_with fail
          refine (wideSigned _ _ b h1 h2 _).mono ?_
          rintro e w3 ⟨rfl, hg3⟩
          obtain ⟨d4, d5⟩ := gat2 hg3 (w.heap.size + 1 + 1 + 1) (.int .i64 0) (.int .u64 0) ⟨d0, d1⟩
          have hgw3 : Grown w w3 := gtrans hgw1 hg3
          have f1 := fun o => frz hgw3 (w.heap.size + 1 + 1 + 1) o (by omega)
          clear hg3 a0 a1 b0 b1 c0 c1 d0 d1
          go_wp2
          simp [bodyPost, results, Tryz.results89, go_sem, d4, d5]
          rw [unhide HQ]
          exact ⟨⟨rfl, rfl⟩, Grown.setCell (Grown.setCell hgw3 (by dsimp only; omega) _) (by dsimp only; omega) _⟩

theorem sg_near (a d : Int) (b : Bool) (hd : 0 < d) (hb : b = decide (a < 0)) : sg b (nearQ (absI a / d) (absI a % d) (d - absI a % d)) = rdiv a d := by
  have e1 : ((a.natAbs : Nat) : Int) = absI a := by unfold absI; split <;> omega
  have e2 : ((d.natAbs : Nat) : Int) = d := by omega
  subst hb
  unfold rdiv rawq sg nearQ
  rw [e1, e2]
  by_cases h : a < 0
  · simp [h, show ¬ d < 0 from by omega]
  · simp [h, show ¬ d < 0 from by omega]

end Go.Proofs.YtnelkhmahmoclaaGreatDoor
