/- Package wide's rounding: what shift, shifted, nearest and Round return, in whole numbers. -/
import Derived.Test.YtopaakjildmjcaaGreatWideB
import Derived.Deep.RegionHeld3
import Derived.Deep.DrawnRows
import Derived.WalkSmall
import Derived.ChangeKeysEq
namespace Go.Proofs.YtopaakjildmjcaaGreat
open Go.RowKit Go.Proofs.Wd
set_option linter.unusedVariables false
set_option linter.unusedSimpArgs false
set_option maxRecDepth 10000
attribute [local go_sem ↓] Go.wp_at_zero Go.wp_at_succ

theorem gfr {W w1 : World} (h : Grown W w1) {a : Addr} (hv : W.frozen? a = false) : w1.frozen? a = false := (h.2.1 a).trans hv

theorem heap_gt {W : World} {b o : Nat} {v : Value} (hv : W.cell? ⟨b, o, none⟩ = some v) : b < W.heap.size := by
  by_cases hb : b < W.heap.size
  · exact hb
  · rw [World.cell?] at hv
    simp [Array.getElem?_eq_none (Nat.le_of_not_lt hb)] at hv
theorem frz {W w1 : World} (h : Grown W w1) : ∀ b o, W.heap.size ≤ b → w1.frozen? ⟨b, o, none⟩ = false := by
  intro b o hb
  rw [h.2.1]
  simp [World.frozen?, Array.getElem?_eq_none hb]
theorem gat2 {W w1 : World} (h : Grown W w1) (b : Nat) (x y : Value) (hv : W.cell? ⟨b, 0, none⟩ = some x ∧ W.cell? ⟨b, 1, none⟩ = some y) : w1.cell? ⟨b, 0, none⟩ = some x ∧ w1.cell? ⟨b, 1, none⟩ = some y := ⟨gat h hv.1, gat h hv.2⟩

set_option maxHeartbeats 1000000 in
theorem wideShift (ah al n : Int) (h1 : I64 ah) (h2 : U64 al) (h3 : 0 ≤ n) (h4 : n ≤ 127) (w : World) :
    Calls Tryz.prog 133 #[.agg #[.int .i64 ah, .int .u64 al], .int .i64 n] w fun e w' => e = .returned (.tuple #[.agg #[.int .u64 (loOf (absI (val ah al))), .int .u64 (mhi (absI (val ah al)))], .int .u64 n, .bool (decide (ah < 0))]) ∧ Grown w w' := by
  go_enter Tryz.func133, Tryz.ntmps133
  go_wp2
  go_region_held3 (fun w' => w'.cell? ⟨w.heap.size, 0, none⟩ = some (.int .i64 ah) ∧ w'.cell? ⟨w.heap.size, 1, none⟩ = some (.int .u64 al))
    (first | (go_split_ands; exact ⟨gat hg (by assumption), gat hg (by assumption)⟩) | (simp [go_sem, *]; done))
    (first | (go_at_call 144; refine (wideSizeOf ah al h1 h2 _).mono ?_; rintro e w1 ⟨rfl, hg⟩; have d0 := gat hg (b := w.heap.size + 1) (o := 0) (v := .int .u64 0) (by simp [go_sem]); have d1 := gat hg (b := w.heap.size + 1) (o := 1) (v := .int .u64 0) (by simp [go_sem]); have hf := hg.2.1))
  go_wp2
  simp [bodyPost, results, Tryz.results133, go_sem, d0, d1]
  exact ⟨by rw [IntKind.wrap_u64]; omega, ((gtrans (Grown.drew (((Grown.refl _).alloc _ _).alloc _ _)) hg).setCell (by simp) _).setCell (by simp) _⟩

set_option maxHeartbeats 400000 in
theorem wideShifted_core (ml mh n Q P R K L : Int) (b : Bool)
    (DN : Hid (∀ w, Calls Tryz.prog 141 #[.agg #[.int .u64 ml, .int .u64 mh], .int .u64 n] w fun e w' => e = .returned (.agg #[.int .u64 (loOf Q), .int .u64 (mhi Q)]) ∧ Grown w w'))
    (U1 : Hid (∀ w, Calls Tryz.prog 143 #[.agg #[.int .u64 (loOf Q), .int .u64 (mhi Q)], .int .u64 n] w fun e w' => e = .returned (.agg #[.int .u64 (loOf P), .int .u64 (mhi P)]) ∧ Grown w w'))
    (M1 : Hid (∀ w, Calls Tryz.prog 142 #[.agg #[.int .u64 ml, .int .u64 mh], .agg #[.int .u64 (loOf P), .int .u64 (mhi P)]] w fun e w' => e = .returned (.agg #[.int .u64 (loOf R), .int .u64 (mhi R)]) ∧ Grown w w'))
    (U2 : Hid (∀ w, Calls Tryz.prog 143 #[.agg #[.int .u64 1, .int .u64 0], .int .u64 n] w fun e w' => e = .returned (.agg #[.int .u64 (loOf K), .int .u64 (mhi K)]) ∧ Grown w w'))
    (M2 : Hid (∀ w, Calls Tryz.prog 142 #[.agg #[.int .u64 (loOf K), .int .u64 (mhi K)], .agg #[.int .u64 (loOf R), .int .u64 (mhi R)]] w fun e w' => e = .returned (.agg #[.int .u64 (loOf L), .int .u64 (mhi L)]) ∧ Grown w w'))
    (w : World) :
    Calls Tryz.prog 132 #[.agg #[.int .u64 ml, .int .u64 mh], .int .u64 n, .bool b] w fun e w' => e = .returned (.tuple #[.agg #[.int .u64 (loOf Q), .int .u64 (mhi Q)], .agg #[.int .u64 (loOf R), .int .u64 (mhi R)], .agg #[.int .u64 (loOf L), .int .u64 (mhi L)], .bool b]) ∧ Grown w w' := by
  go_enter Tryz.func132, Tryz.ntmps132
  go_wp2_with fail
  refine (unhide DN _).mono ?_
  rintro e w1 ⟨rfl, hg1⟩
  obtain ⟨a0, a1⟩ := gat2 hg1 w.heap.size (.int .u64 ml) (.int .u64 mh) (by constructor <;> simp [go_sem])
  obtain ⟨b0, b1⟩ := gat2 hg1 (w.heap.size + 1) (.int .u64 0) (.int .u64 0) (by constructor <;> simp [go_sem])
  obtain ⟨c0, c1⟩ := gat2 hg1 (w.heap.size + 1 + 1) (.int .u64 0) (.int .u64 0) (by constructor <;> simp [go_sem])
  obtain ⟨d0, d1⟩ := gat2 hg1 (w.heap.size + 1 + 1 + 1) (.int .u64 0) (.int .u64 0) (by constructor <;> simp [go_sem])
  have hf := hg1.2.1
  go_wp2
  go_region_held3 (fun w' => w'.cell? ⟨w.heap.size, 0, none⟩ = some (.int .u64 ml) ∧ w'.cell? ⟨w.heap.size, 1, none⟩ = some (.int .u64 mh) ∧ w'.cell? ⟨w.heap.size + 1, 0, none⟩ = some (.int .u64 (loOf Q)) ∧ w'.cell? ⟨w.heap.size + 1, 1, none⟩ = some (.int .u64 (mhi Q)))
    (first | (go_split_ands; exact ⟨gat hg3 (by assumption), gat hg3 (by assumption), gat hg3 (by assumption), gat hg3 (by assumption)⟩) | (go_split_ands; exact ⟨gat hg2 (by assumption), gat hg2 (by assumption), gat hg2 (by assumption), gat hg2 (by assumption)⟩) | (simp [go_sem, *]; done))
    (first
      | (go_at_call 143; refine (unhide U1 _).mono ?_; rintro e w2 ⟨rfl, hg2⟩; obtain ⟨c2, c3⟩ := gat2 hg2 (w.heap.size + 1 + 1) (.int .u64 0) (.int .u64 0) (by constructor <;> simp [go_sem, *]); obtain ⟨d2, d3⟩ := gat2 hg2 (w.heap.size + 1 + 1 + 1) (.int .u64 0) (.int .u64 0) (by constructor <;> simp [go_sem, *]); have hf2 := hg2.2.1)
      | (go_at_call 142; refine (unhide M1 _).mono ?_; rintro e w3 ⟨rfl, hg3⟩; obtain ⟨c4, c5⟩ := gat2 hg3 (w.heap.size + 1 + 1) (.int .u64 0) (.int .u64 0) ⟨c2, c3⟩; obtain ⟨d4, d5⟩ := gat2 hg3 (w.heap.size + 1 + 1 + 1) (.int .u64 0) (.int .u64 0) ⟨d2, d3⟩; have hf3 := hg3.2.1))
  go_wp2_with fail
  refine (unhide U2 _).mono ?_
  rintro e w4 ⟨rfl, hg4⟩
  obtain ⟨b6, b7⟩ := gat2 hg4 (w.heap.size + 1) (.int .u64 (loOf Q)) (.int .u64 (mhi Q)) (by constructor <;> simp [go_sem, *])
  obtain ⟨c6, c7⟩ := gat2 hg4 (w.heap.size + 1 + 1) (.int .u64 (loOf R)) (.int .u64 (mhi R)) (by constructor <;> simp [go_sem, *])
  obtain ⟨d6, d7⟩ := gat2 hg4 (w.heap.size + 1 + 1 + 1) (.int .u64 0) (.int .u64 0) (by constructor <;> simp [go_sem, *])
  have hf4 := hg4.2.1
  have hz4 : w.heap.size + 1 + 1 + 1 < w4.heap.size := heap_gt d6
  have hz1 : w.heap.size + 1 < w4.heap.size := by omega
  have hz2 : w.heap.size + 1 + 1 < w4.heap.size := by omega
  have hn1 : w4.heap.size ≠ w.heap.size + 1 := by omega
  have hn2 : w4.heap.size ≠ w.heap.size + 1 + 1 := by omega
  have hn3 : w4.heap.size ≠ w.heap.size + 1 + 1 + 1 := by omega
  have hm1 : w.heap.size + 1 ≠ w4.heap.size := by omega
  have hm2 : w.heap.size + 1 + 1 ≠ w4.heap.size := by omega
  have hm3 : w.heap.size + 1 + 1 + 1 ≠ w4.heap.size := by omega
  have hgw : Grown w w4 := by
    refine gtrans ?_ hg4
    refine Grown.setCell (Grown.setCell (gtrans (gtrans ?_ hg2) hg3) (by simp; omega) _) (by simp; omega) _
    refine Grown.drew (Grown.setCell (Grown.setCell (gtrans ?_ hg1) (by simp) _) (by simp) _)
    exact (((((Grown.refl _).alloc _ _).alloc _ _).alloc _ _).alloc _ _)
  clear hg1 hg2 hg3 hg4 a0 a1 b0 b1 c0 c1 d0 d1 c2 c3 d2 d3 c4 c5 d4 d5 hf hf2 hf3
  have hfz := frz hgw
  clear hf4
  go_wp2
  go_region_held3 (fun w' => w'.cell? ⟨w.heap.size + 1, 0, none⟩ = some (.int .u64 (loOf Q)) ∧ w'.cell? ⟨w.heap.size + 1, 1, none⟩ = some (.int .u64 (mhi Q)) ∧ w'.cell? ⟨w.heap.size + 1 + 1, 0, none⟩ = some (.int .u64 (loOf R)) ∧ w'.cell? ⟨w.heap.size + 1 + 1, 1, none⟩ = some (.int .u64 (mhi R)) ∧ w'.cell? ⟨w4.heap.size, 0, none⟩ = some (.int .u64 (loOf K)) ∧ w'.cell? ⟨w4.heap.size, 1, none⟩ = some (.int .u64 (mhi K)))
    (simp [go_sem, *])
    (first
      | (go_at_call 142; refine (unhide M2 _).mono ?_; rintro e w5 ⟨rfl, hg5⟩; obtain ⟨d8, d9⟩ := gat2 hg5 (w.heap.size + 1 + 1 + 1) (.int .u64 0) (.int .u64 0) (by constructor <;> simp [go_sem, *]); obtain ⟨b8, b9⟩ := gat2 hg5 (w.heap.size + 1) (.int .u64 (loOf Q)) (.int .u64 (mhi Q)) (by constructor <;> simp [go_sem, *]); obtain ⟨c8, c9⟩ := gat2 hg5 (w.heap.size + 1 + 1) (.int .u64 (loOf R)) (.int .u64 (mhi R)) (by constructor <;> simp [go_sem, *]); obtain ⟨k8, k9⟩ := gat2 hg5 w4.heap.size (.int .u64 (loOf K)) (.int .u64 (mhi K)) (by constructor <;> simp [go_sem, *]); have hgw5 : Grown w w5 := gtrans (by exact Grown.drew (Grown.alloc hgw _ _)) hg5; have e1 := fun o => frz hgw5 (w.heap.size + 1) o (by omega); have e2 := fun o => frz hgw5 (w.heap.size + 1 + 1) o (by omega); have e3 := fun o => frz hgw5 (w.heap.size + 1 + 1 + 1) o (by omega)))
  go_wp2
  simp [bodyPost, results, Tryz.results132, go_sem, b8, b9, c8, c9, d8, d9]
  refine Grown.setCell ?_ (by dsimp only; omega) _
  refine Grown.setCell ?_ (by dsimp only; omega) _
  refine Grown.setCell ?_ (by dsimp only; omega) _
  refine Grown.setCell ?_ (by dsimp only; omega) _
  refine Grown.setCell ?_ (by dsimp only; omega) _
  refine Grown.setCell ?_ (by dsimp only; omega) _
  exact hgw5

theorem wideShifted (ml mh n : Int) (b : Bool) (h1 : U64 ml) (h2 : U64 mh) (h3 : 0 ≤ n) (h4 : n ≤ 127) (w : World) :
    Calls Tryz.prog 132 #[.agg #[.int .u64 ml, .int .u64 mh], .int .u64 n, .bool b] w fun e w' => e = .returned (.tuple #[.agg #[.int .u64 (loOf (val mh ml / 2 ^ n.toNat)), .int .u64 (mhi (val mh ml / 2 ^ n.toNat))], .agg #[.int .u64 (loOf (val mh ml % 2 ^ n.toNat)), .int .u64 (mhi (val mh ml % 2 ^ n.toNat))], .agg #[.int .u64 (loOf (2 ^ n.toNat - val mh ml % 2 ^ n.toNat)), .int .u64 (mhi (2 ^ n.toNat - val mh ml % 2 ^ n.toNat))], .bool b]) ∧ Grown w w' := by
  have hK := pow2_pos n.toNat
  have hK' := pow127 n h3 h4
  have hM := size_range mh ml h2 h1
  have e0 := Int.emod_add_mul_ediv (val mh ml) (2 ^ n.toNat)
  have e1 := Int.emod_nonneg (val mh ml) (by omega : (2 : Int) ^ n.toNat ≠ 0)
  have e2 := Int.emod_lt_of_pos (val mh ml) hK
  have e3 : 0 ≤ val mh ml / 2 ^ n.toNat := dv0 _ _ hK hM.1
  have e4 : val mh ml / 2 ^ n.toNat ≤ val mh ml := Int.ediv_le_self _ hM.1
  have eP : 0 ≤ 2 ^ n.toNat * (val mh ml / 2 ^ n.toNat) := Int.mul_nonneg (by omega) e3
  have v1 := val_size (val mh ml / 2 ^ n.toNat) (by omega)
  have v2 := val_size (2 ^ n.toNat * (val mh ml / 2 ^ n.toNat)) (by omega)
  have v3 := val_size (val mh ml % 2 ^ n.toNat) (by omega)
  have v4 := val_size (2 ^ n.toNat) (by omega)
  refine wideShifted_core ml mh n (val mh ml / 2 ^ n.toNat) (2 ^ n.toNat * (val mh ml / 2 ^ n.toNat)) (val mh ml % 2 ^ n.toNat) (2 ^ n.toNat) (2 ^ n.toNat - val mh ml % 2 ^ n.toNat) b ?_ ?_ ?_ ?_ ?_ w
  · exact hide (fun w => wideDown ml mh n h1 h2 h3 h4 w)
  · have q := fun w => wideUp (loOf (val mh ml / 2 ^ n.toNat)) (mhi (val mh ml / 2 ^ n.toNat)) n (loOf_U64 _) (mhi_U64 _) h3 h4 w
    rw [v1, Int.mul_comm] at q
    exact hide q
  · have q := fun w => wideMinus ml mh (loOf (2 ^ n.toNat * (val mh ml / 2 ^ n.toNat))) (mhi (2 ^ n.toNat * (val mh ml / 2 ^ n.toNat))) h1 h2 (loOf_U64 _) (mhi_U64 _) w
    rw [v2, show val mh ml - 2 ^ n.toNat * (val mh ml / 2 ^ n.toNat) = val mh ml % 2 ^ n.toNat from by omega] at q
    exact hide q
  · have q := fun w => wideUp 1 0 n (by unfold U64; omega) (by unfold U64; omega) h3 h4 w
    rw [show val 0 1 * 2 ^ n.toNat = 2 ^ n.toNat from by unfold val; omega] at q
    exact hide q
  · have q := fun w => wideMinus (loOf (2 ^ n.toNat)) (mhi (2 ^ n.toNat)) (loOf (val mh ml % 2 ^ n.toNat)) (mhi (val mh ml % 2 ^ n.toNat)) (loOf_U64 _) (mhi_U64 _) (loOf_U64 _) (mhi_U64 _) w
    rw [v3, v4] at q
    exact hide q

theorem arrEq (a b c d : Int) (w : World) : (Op.equalIn 9999 135 (.agg #[.int .u64 a, .int .u64 b]) (.agg #[.int .u64 c, .int .u64 d])).run Tryz.prog w = .ok (a == c && b == d) w := by
  obtain ⟨i, hi⟩ : ∃ i, Tryz.prog.info? 92 = some i := Option.isSome_iff_exists.1 (by kernel_rfl)
  rw [show (9999 : Nat) = 9998 + 1 from rfl, run_equalIn_array w 9998 _ _ Tryz.underlying135 hi, show Tryz.prog.cellsOf 92 = 1 from by kernel_rfl, show List.range 2 = [0, 1] from rfl]
  simp only [Op.eqItems]
  simp [go_sem, Tryz.underlying92]
  by_cases h : a = c <;> by_cases h' : b = d <;> simp [h, h']
theorem arrEq_no (a b c d : Int) (h : a ≠ c ∨ b ≠ d) (w : World) : (Op.equalIn 9999 135 (.agg #[.int .u64 a, .int .u64 b]) (.agg #[.int .u64 c, .int .u64 d])).run Tryz.prog w = .ok false w := by
  rw [arrEq, show (a == c && b == d) = false from by rcases h with h | h <;> simp [h]]
theorem arrEq_yes (a b : Int) (w : World) : (Op.equalIn 9999 135 (.agg #[.int .u64 a, .int .u64 b]) (.agg #[.int .u64 a, .int .u64 b])).run Tryz.prog w = .ok true w := by
  rw [arrEq]; simp

set_option maxHeartbeats 1000000 in
theorem wideNearest (wl wh rl rh ll lh : Int) (b : Bool) (h1 : U64 wl) (h2 : U64 wh) (h3 : U64 rl) (h4 : U64 rh) (h5 : U64 ll) (h6 : U64 lh) (hw : val wh wl < 340282366920938463463374607431768211455) (w : World) :
    Calls Tryz.prog 131 #[.agg #[.int .u64 wl, .int .u64 wh], .agg #[.int .u64 rl, .int .u64 rh], .agg #[.int .u64 ll, .int .u64 lh], .bool b] w fun e w' => e = .returned (.agg #[.int .i64 (hiOf (sg b (nearQ (val wh wl) (val rh rl) (val lh ll)))), .int .u64 (loOf (sg b (nearQ (val wh wl) (val rh rl) (val lh ll))))]) ∧ Grown w w' := by
  have hand := and_one_u64 wl h1.1 (by have := h1.2; omega)
  have hpar : val wh wl % 2 = wl % 2 := by unfold val; omega
  have hx : val (mhi (val wh wl + 1)) (loOf (val wh wl + 1)) = val wh wl + 1 := val_size _ (by have := size_range wh wl h2 h1; omega)
  have HX := hide hx; have HP := hide hpar
  clear hx hpar
  by_cases g1 : val lh ll < val rh rl
  · have HQ : Hid (nearQ (val wh wl) (val rh rl) (val lh ll) = val wh wl + 1) := by unfold nearQ; rw [if_pos (Or.inl g1)]; exact hide rfl
    have g1' : decide (val lh ll < val rh rl) = true := by simpa using g1
    clear g1
    go_enter Tryz.func131, Tryz.ntmps131
    go_wp2_with fail
    refine (wideLess ll lh rl rh h5 h6 h3 h4 _).mono ?_
    rintro e w1 ⟨rfl, hg1⟩
    rw [g1']
    obtain ⟨a0, a1⟩ := gat2 hg1 w.heap.size (.int .u64 wl) (.int .u64 wh) (by constructor <;> simp [go_sem])
    obtain ⟨b0, b1⟩ := gat2 hg1 (w.heap.size + 1) (.int .u64 rl) (.int .u64 rh) (by constructor <;> simp [go_sem])
    obtain ⟨c0, c1⟩ := gat2 hg1 (w.heap.size + 1 + 1) (.int .u64 ll) (.int .u64 lh) (by constructor <;> simp [go_sem])
    obtain ⟨d0, d1⟩ := gat2 hg1 (w.heap.size + 1 + 1 + 1) (.int .i64 0) (.int .u64 0) (by constructor <;> simp [go_sem])
    have hgw1 : Grown w w1 := gtrans ((((((Grown.refl _).alloc _ _).alloc _ _).alloc _ _).alloc _ _)) hg1
    clear hg1
    go_wp2_with fail
    refine (wideNext wl wh h1 h2 _).mono ?_
    rintro e w2 ⟨rfl, hg2⟩
    obtain ⟨a2, a3⟩ := gat2 hg2 w.heap.size (.int .u64 wl) (.int .u64 wh) ⟨a0, a1⟩
    obtain ⟨d2, d3⟩ := gat2 hg2 (w.heap.size + 1 + 1 + 1) (.int .i64 0) (.int .u64 0) ⟨d0, d1⟩
    have hgw2 : Grown w w2 := gtrans hgw1 hg2
    have f0 := fun o => frz hgw2 w.heap.size o (by omega)
    clear hg2 a0 a1 b0 b1 c0 c1 d0 d1
    go_wp2_with fail
    refine (wideSigned _ _ b (loOf_U64 _) (mhi_U64 _) _).mono ?_
    rintro e w3 ⟨rfl, hg3⟩
    obtain ⟨d4, d5⟩ := gat2 hg3 (w.heap.size + 1 + 1 + 1) (.int .i64 0) (.int .u64 0) (by constructor <;> simp [go_sem, *])
    have hgw3 : Grown w w3 := gtrans (Grown.setCell (Grown.setCell hgw2 (by dsimp only; omega) _) (by dsimp only; omega) _) hg3
    have f1 := fun o => frz hgw3 (w.heap.size + 1 + 1 + 1) o (by omega)
    rw [unhide HX]
    clear hg3 d2 d3 a2 a3 f0
    go_wp2
    simp [bodyPost, results, Tryz.results131, go_sem, d4, d5]
    rw [unhide HQ]
    exact ⟨⟨rfl, rfl⟩, Grown.setCell (Grown.setCell hgw3 (by dsimp only; omega) _) (by dsimp only; omega) _⟩
  · by_cases g2 : rh < lh
    · have EQ := arrEq_no ll lh rl rh (Or.inr (by omega))
      have HQ : Hid (nearQ (val wh wl) (val rh rl) (val lh ll) = val wh wl) := by unfold nearQ; rw [if_neg (by unfold U64 at *; unfold val at *; omega)]; exact hide rfl
      have g1' : decide (val lh ll < val rh rl) = false := by simp; unfold U64 at *; unfold val at *; omega
      clear g1
      go_enter Tryz.func131, Tryz.ntmps131
      go_wp2_with fail
      refine (wideLess ll lh rl rh h5 h6 h3 h4 _).mono ?_
      rintro e w1 ⟨rfl, hg1⟩
      rw [g1']
      obtain ⟨a0, a1⟩ := gat2 hg1 w.heap.size (.int .u64 wl) (.int .u64 wh) (by constructor <;> simp [go_sem])
      obtain ⟨b0, b1⟩ := gat2 hg1 (w.heap.size + 1) (.int .u64 rl) (.int .u64 rh) (by constructor <;> simp [go_sem])
      obtain ⟨c0, c1⟩ := gat2 hg1 (w.heap.size + 1 + 1) (.int .u64 ll) (.int .u64 lh) (by constructor <;> simp [go_sem])
      obtain ⟨d0, d1⟩ := gat2 hg1 (w.heap.size + 1 + 1 + 1) (.int .i64 0) (.int .u64 0) (by constructor <;> simp [go_sem])
      have hgw1 : Grown w w1 := gtrans ((((((Grown.refl _).alloc _ _).alloc _ _).alloc _ _).alloc _ _)) hg1
      clear hg1
      go_wp2_with fail
      refine (wideSigned _ _ b h1 h2 _).mono ?_
      rintro e w3 ⟨rfl, hg3⟩
      obtain ⟨d4, d5⟩ := gat2 hg3 (w.heap.size + 1 + 1 + 1) (.int .i64 0) (.int .u64 0) ⟨d0, d1⟩
      have hgw3 : Grown w w3 := gtrans hgw1 hg3
      have f1 := fun o => frz hgw3 (w.heap.size + 1 + 1 + 1) o (by omega)
      clear hg3 a0 a1 b0 b1 c0 c1 d0 d1
      go_wp2
      simp [bodyPost, results, Tryz.results131, go_sem, d4, d5]
      rw [unhide HQ]
      exact ⟨⟨rfl, rfl⟩, Grown.setCell (Grown.setCell hgw3 (by dsimp only; omega) _) (by dsimp only; omega) _⟩
    · obtain rfl : rh = lh := by unfold val at g1; unfold U64 at *; omega
      by_cases g3 : rl < ll
      · have EQ := arrEq_no ll rh rl rh (Or.inl (by omega))
        have HQ : Hid (nearQ (val wh wl) (val rh rl) (val rh ll) = val wh wl) := by unfold nearQ; rw [if_neg (by unfold U64 at *; unfold val at *; omega)]; exact hide rfl
        have g1' : decide (val rh ll < val rh rl) = false := by simp; unfold U64 at *; unfold val at *; omega
        clear g1
        go_enter Tryz.func131, Tryz.ntmps131
        go_wp2_with fail
        refine (wideLess ll rh rl rh h5 h6 h3 h4 _).mono ?_
        rintro e w1 ⟨rfl, hg1⟩
        rw [g1']
        obtain ⟨a0, a1⟩ := gat2 hg1 w.heap.size (.int .u64 wl) (.int .u64 wh) (by constructor <;> simp [go_sem])
        obtain ⟨b0, b1⟩ := gat2 hg1 (w.heap.size + 1) (.int .u64 rl) (.int .u64 rh) (by constructor <;> simp [go_sem])
        obtain ⟨c0, c1⟩ := gat2 hg1 (w.heap.size + 1 + 1) (.int .u64 ll) (.int .u64 rh) (by constructor <;> simp [go_sem])
        obtain ⟨d0, d1⟩ := gat2 hg1 (w.heap.size + 1 + 1 + 1) (.int .i64 0) (.int .u64 0) (by constructor <;> simp [go_sem])
        have hgw1 : Grown w w1 := gtrans ((((((Grown.refl _).alloc _ _).alloc _ _).alloc _ _).alloc _ _)) hg1
        clear hg1
        go_wp2_with fail
        refine (wideSigned _ _ b h1 h2 _).mono ?_
        rintro e w3 ⟨rfl, hg3⟩
        obtain ⟨d4, d5⟩ := gat2 hg3 (w.heap.size + 1 + 1 + 1) (.int .i64 0) (.int .u64 0) ⟨d0, d1⟩
        have hgw3 : Grown w w3 := gtrans hgw1 hg3
        have f1 := fun o => frz hgw3 (w.heap.size + 1 + 1 + 1) o (by omega)
        clear hg3 a0 a1 b0 b1 c0 c1 d0 d1
        go_wp2
        simp [bodyPost, results, Tryz.results131, go_sem, d4, d5]
        rw [unhide HQ]
        exact ⟨⟨rfl, rfl⟩, Grown.setCell (Grown.setCell hgw3 (by dsimp only; omega) _) (by dsimp only; omega) _⟩
      · obtain rfl : rl = ll := by unfold val at g1; omega
        have g1' : decide (val rh rl < val rh rl) = false := by simp
        clear g1 g2 g3
        have EQ := arrEq_yes rl rh
        by_cases g4 : wl % 2 = 1
        · have HQ : Hid (nearQ (val wh wl) (val rh rl) (val rh rl) = val wh wl + 1) := by unfold nearQ; rw [if_pos (Or.inr ⟨rfl, by rw [unhide HP]; exact g4⟩)]; exact hide rfl
          go_enter Tryz.func131, Tryz.ntmps131
          go_wp2_with fail
          refine (wideLess rl rh rl rh h3 h4 h3 h4 _).mono ?_
          rintro e w1 ⟨rfl, hg1⟩
          rw [g1']
          obtain ⟨a0, a1⟩ := gat2 hg1 w.heap.size (.int .u64 wl) (.int .u64 wh) (by constructor <;> simp [go_sem])
          obtain ⟨b0, b1⟩ := gat2 hg1 (w.heap.size + 1) (.int .u64 rl) (.int .u64 rh) (by constructor <;> simp [go_sem])
          obtain ⟨c0, c1⟩ := gat2 hg1 (w.heap.size + 1 + 1) (.int .u64 rl) (.int .u64 rh) (by constructor <;> simp [go_sem])
          obtain ⟨d0, d1⟩ := gat2 hg1 (w.heap.size + 1 + 1 + 1) (.int .i64 0) (.int .u64 0) (by constructor <;> simp [go_sem])
          have hgw1 : Grown w w1 := gtrans ((((((Grown.refl _).alloc _ _).alloc _ _).alloc _ _).alloc _ _)) hg1
          clear hg1
          go_wp2_with fail
          refine (wideNext wl wh h1 h2 _).mono ?_
          rintro e w2 ⟨rfl, hg2⟩
          obtain ⟨a2, a3⟩ := gat2 hg2 w.heap.size (.int .u64 wl) (.int .u64 wh) ⟨a0, a1⟩
          obtain ⟨d2, d3⟩ := gat2 hg2 (w.heap.size + 1 + 1 + 1) (.int .i64 0) (.int .u64 0) ⟨d0, d1⟩
          have hgw2 : Grown w w2 := gtrans hgw1 hg2
          have f0 := fun o => frz hgw2 w.heap.size o (by omega)
          clear hg2 a0 a1 b0 b1 c0 c1 d0 d1
          go_wp2_with fail
          refine (wideSigned _ _ b (loOf_U64 _) (mhi_U64 _) _).mono ?_
          rintro e w3 ⟨rfl, hg3⟩
          obtain ⟨d4, d5⟩ := gat2 hg3 (w.heap.size + 1 + 1 + 1) (.int .i64 0) (.int .u64 0) (by constructor <;> simp [go_sem, *])
          have hgw3 : Grown w w3 := gtrans (Grown.setCell (Grown.setCell hgw2 (by dsimp only; omega) _) (by dsimp only; omega) _) hg3
          have f1 := fun o => frz hgw3 (w.heap.size + 1 + 1 + 1) o (by omega)
          rw [unhide HX]
          clear hg3 d2 d3 a2 a3 f0
          go_wp2
          simp [bodyPost, results, Tryz.results131, go_sem, d4, d5]
          rw [unhide HQ]
          exact ⟨⟨rfl, rfl⟩, Grown.setCell (Grown.setCell hgw3 (by dsimp only; omega) _) (by dsimp only; omega) _⟩
        · have HQ : Hid (nearQ (val wh wl) (val rh rl) (val rh rl) = val wh wl) := by unfold nearQ; rw [if_neg (by rw [unhide HP]; omega)]; exact hide rfl
          have g5 : (wl % 2 == 1) = false := by simpa using g4
          go_enter Tryz.func131, Tryz.ntmps131
          go_wp2_with fail
          refine (wideLess rl rh rl rh h3 h4 h3 h4 _).mono ?_
          rintro e w1 ⟨rfl, hg1⟩
          rw [g1']
          obtain ⟨a0, a1⟩ := gat2 hg1 w.heap.size (.int .u64 wl) (.int .u64 wh) (by constructor <;> simp [go_sem])
          obtain ⟨b0, b1⟩ := gat2 hg1 (w.heap.size + 1) (.int .u64 rl) (.int .u64 rh) (by constructor <;> simp [go_sem])
          obtain ⟨c0, c1⟩ := gat2 hg1 (w.heap.size + 1 + 1) (.int .u64 rl) (.int .u64 rh) (by constructor <;> simp [go_sem])
          obtain ⟨d0, d1⟩ := gat2 hg1 (w.heap.size + 1 + 1 + 1) (.int .i64 0) (.int .u64 0) (by constructor <;> simp [go_sem])
          have hgw1 : Grown w w1 := gtrans ((((((Grown.refl _).alloc _ _).alloc _ _).alloc _ _).alloc _ _)) hg1
          clear hg1
          go_wp2_with fail
          refine (wideSigned _ _ b h1 h2 _).mono ?_
          rintro e w3 ⟨rfl, hg3⟩
          obtain ⟨d4, d5⟩ := gat2 hg3 (w.heap.size + 1 + 1 + 1) (.int .i64 0) (.int .u64 0) ⟨d0, d1⟩
          have hgw3 : Grown w w3 := gtrans hgw1 hg3
          have f1 := fun o => frz hgw3 (w.heap.size + 1 + 1 + 1) o (by omega)
          clear hg3 a0 a1 b0 b1 c0 c1 d0 d1
          go_wp2
          simp [bodyPost, results, Tryz.results131, go_sem, d4, d5]
          rw [unhide HQ]
          exact ⟨⟨rfl, rfl⟩, Grown.setCell (Grown.setCell hgw3 (by dsimp only; omega) _) (by dsimp only; omega) _⟩

theorem sg_near (a d : Int) (b : Bool) (hd : 0 < d) (hb : b = decide (a < 0)) : sg b (nearQ (absI a / d) (absI a % d) (d - absI a % d)) = rdiv a d := by
  have e1 : ((a.natAbs : Nat) : Int) = absI a := by unfold absI; split <;> omega
  have e2 : ((d.natAbs : Nat) : Int) = d := by omega
  subst hb
  unfold rdiv rawq sg nearQ
  rw [e1, e2]
  by_cases h : a < 0
  · simp [h, show ¬ d < 0 from by omega]
  · simp [h, show ¬ d < 0 from by omega]

set_option maxHeartbeats 1000000 in
theorem wideRound (ah al n : Int) (h1 : I64 ah) (h2 : U64 al) (h3 : 0 ≤ n) (h4 : n ≤ 127) (w : World) :
    Calls Tryz.prog 118 #[.agg #[.int .i64 ah, .int .u64 al], .int .i64 n] w fun e w' => e = .returned (.tuple #[.agg #[.int .i64 (hiOf (rdiv (val ah al) (2 ^ n.toNat))), .int .u64 (loOf (rdiv (val ah al) (2 ^ n.toNat)))], .int .i64 0]) ∧ Grown w w' := by
  have hK := pow2_pos n.toNat
  have hR := val_range ah al h1 h2
  have hA0 : 0 ≤ absI (val ah al) := by unfold absI; split <;> omega
  have hA1 : absI (val ah al) ≤ 170141183460469231731687303715884105728 := by unfold absI; split <;> omega
  have hK' := pow127 n h3 h4
  have e1 := Int.emod_nonneg (absI (val ah al)) (by omega : (2 : Int) ^ n.toNat ≠ 0)
  have e2 := Int.emod_lt_of_pos (absI (val ah al)) hK
  have e3 : 0 ≤ absI (val ah al) / 2 ^ n.toNat := dv0 _ _ hK hA0
  have e4 : absI (val ah al) / 2 ^ n.toNat ≤ absI (val ah al) := Int.ediv_le_self _ hA0
  have v0 := val_size (absI (val ah al)) (by omega)
  have v1 := val_size (absI (val ah al) / 2 ^ n.toNat) (by omega)
  have v2 := val_size (absI (val ah al) % 2 ^ n.toNat) (by omega)
  have v3 := val_size (2 ^ n.toNat - absI (val ah al) % 2 ^ n.toNat) (by omega)
  have hq : val (mhi (absI (val ah al) / 2 ^ n.toNat)) (loOf (absI (val ah al) / 2 ^ n.toNat)) < 340282366920938463463374607431768211455 := by omega
  have hs := sg_near (val ah al) (2 ^ n.toNat) (decide (ah < 0)) hK (by rw [decide_eq_decide]; unfold U64 at h2; unfold val; omega)
  have S1 := hide (fun w => wideShifted (loOf (absI (val ah al))) (mhi (absI (val ah al))) n (decide (ah < 0)) (loOf_U64 _) (mhi_U64 _) h3 h4 w)
  have N1 := hide (fun w => wideNearest (loOf (absI (val ah al) / 2 ^ n.toNat)) (mhi (absI (val ah al) / 2 ^ n.toNat)) (loOf (absI (val ah al) % 2 ^ n.toNat)) (mhi (absI (val ah al) % 2 ^ n.toNat)) (loOf (2 ^ n.toNat - absI (val ah al) % 2 ^ n.toNat)) (mhi (2 ^ n.toNat - absI (val ah al) % 2 ^ n.toNat)) (decide (ah < 0)) (loOf_U64 _) (mhi_U64 _) (loOf_U64 _) (mhi_U64 _) (loOf_U64 _) (mhi_U64 _) hq w)
  rw [v0] at S1
  rw [v1, v2, v3, hs] at N1
  clear v0 v1 v2 v3 hs hq e1 e2 e3 e4 hK' hK hA0 hA1 hR
  go_enter Tryz.func118, Tryz.ntmps118
  go_wp2_with fail
  refine (wideShift ah al n h1 h2 h3 h4 _).mono ?_
  rintro e w1 ⟨rfl, hg1⟩
  go_wp2_with fail
  refine (unhide S1 _).mono ?_
  rintro e w2 ⟨rfl, hg2⟩
  go_wp2_with fail
  refine (unhide N1 _).mono ?_
  rintro e w3 ⟨rfl, hg3⟩
  have hg := gtrans hg1 (gtrans hg2 hg3)
  obtain ⟨d0, d1⟩ := gat2 hg (w.heap.size + 1) (.int .i64 0) (.int .u64 0) (by constructor <;> simp [go_sem])
  have hgw : Grown w w3 := gtrans (((Grown.refl _).alloc _ _).alloc _ _) hg
  have f1 := fun o => frz hgw (w.heap.size + 1) o (by omega)
  clear hg1 hg2 hg3 hg
  go_wp2
  simp [bodyPost, results, Tryz.results118, go_sem, d0, d1]
  exact Grown.setCell (Grown.setCell hgw (by dsimp only; omega) _) (by dsimp only; omega) _

set_option maxHeartbeats 400000 in
theorem wideRound_bad (ah al n : Int) (h : n < 0 ∨ 127 < n) (w : World) :
    Calls Tryz.prog 118 #[.agg #[.int .i64 ah, .int .u64 al], .int .i64 n] w fun e w' => e = .returned (.tuple #[.agg #[.int .i64 0, .int .u64 0], .int .i64 2]) ∧ Grown w w' := by
  rcases h with h | h
  · go_enter Tryz.func118, Tryz.ntmps118
    go_wp2
    simp [bodyPost, results, Tryz.results118, go_sem]
    exact ((Grown.refl _).alloc _ _).alloc _ _
  · have h' : ¬ n < 0 := by omega
    go_enter Tryz.func118, Tryz.ntmps118
    go_wp2
    simp [bodyPost, results, Tryz.results118, go_sem]
    exact ((Grown.refl _).alloc _ _).alloc _ _

end Go.Proofs.YtopaakjildmjcaaGreat
