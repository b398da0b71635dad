/- Package wide's quotients: what quotient, fraction, Div and Fit return, in whole numbers, where math/bits.Div64 does what it says. -/
import Derived.Test.YtgahdjfkmpadoaaGreatWideC
import Derived.Deep.QuietTactic
import Derived.BigQuiet
namespace Go.Proofs.YtgahdjfkmpadoaaGreat
open Go.RowKit Go.Proofs.Wd
set_option linter.unusedVariables false
set_option linter.unusedSimpArgs false
set_option maxRecDepth 10000
attribute [local go_sem ↓] Go.wp_at_zero Go.wp_at_succ

theorem grown_drewN {W w' : World} (n : Nat) (h : Grown W w') : Grown W (w'.drewN n) := h

theorem sg_near2 (a d : Int) (hd : d ≠ 0) : sg (apartS a d) (nearQ (absI a / absI d) (absI a % absI d) (absI d - absI a % absI d)) = rdiv a d := by
  have e1 : ((a.natAbs : Nat) : Int) = absI a := by unfold absI; split <;> omega
  have e2 : ((d.natAbs : Nat) : Int) = absI d := by unfold absI; split <;> omega
  unfold rdiv rawq sg nearQ apartS
  rw [e1, e2]
theorem quo_parts (mh ml n : Int) (h1 : U64 ml) (h2 : U64 mh) (hn : 0 < n) :
    val (mh % n) ml / n = loOf (val mh ml / n) ∧ mh / n = mhi (val mh ml / n) ∧ val (mh % n) ml % n = val mh ml % n := by
  have e1 := Int.emod_add_mul_ediv mh n
  have e2 := Int.emod_nonneg mh (by omega : n ≠ 0)
  have e3 := Int.emod_lt_of_pos mh hn
  have f1 := Int.emod_add_mul_ediv (val (mh % n) ml) n
  have f2 := Int.emod_nonneg (val (mh % n) ml) (by omega : n ≠ 0)
  have f3 := Int.emod_lt_of_pos (val (mh % n) ml) hn
  unfold U64 at h1 h2
  have g0 : 0 ≤ mh / n := dv0 _ _ hn h2.1
  have g1 : mh / n ≤ mh := Int.ediv_le_self _ h2.1
  have hx : val mh ml = (val (mh % n) ml % n) + n * ((mh / n) * 18446744073709551616 + val (mh % n) ml / n) := by
    have : val mh ml = n * (mh / n) * 18446744073709551616 + val (mh % n) ml := by unfold val; omega
    rw [this]; grind
  obtain ⟨k1, k2⟩ := du hn hx.symm f2 f3
  have l0 : 0 ≤ val (mh % n) ml / n := dv0 _ _ hn (by unfold val; omega)
  have l1 : val (mh % n) ml / n < 18446744073709551616 := ltdiv _ _ _ hn (by
    have : (mh % n + 1) * 18446744073709551616 ≤ n * 18446744073709551616 := Int.mul_le_mul_of_nonneg_right (by omega) (by decide)
    unfold val; omega)
  rw [k1, k2]
  refine ⟨?_, ?_, rfl⟩
  · unfold loOf; omega
  · unfold mhi; omega

set_option maxHeartbeats 1000000 in
theorem wideFit (ah al : Int) (h1 : I64 ah) (h2 : U64 al) (w : World) :
    Calls Tryz.prog 87 #[.agg #[.int .i64 ah, .int .u64 al]] w fun e w' => e = .returned (.tuple #[.int .i64 (fitI (val ah al)), .bool (fitB (val ah al))]) ∧ Grown w w' := by
  have O1 := hide (fun w => wideOf 9223372036854775807 (by unfold I64; omega) w)
  have O2 := hide (fun w => wideOf (-9223372036854775807) (by unfold I64; omega) w)
  have C1 := hide (fun w => wideCmp ah al (hiOf 9223372036854775807) (loOf 9223372036854775807) h1 h2 (hiOf_I64 _) (loOf_U64 _) w)
  have C2 := hide (fun w => wideCmp ah al (hiOf (-9223372036854775807)) (loOf (-9223372036854775807)) h1 h2 (hiOf_I64 _) (loOf_U64 _) w)
  rw [show val (hiOf 9223372036854775807) (loOf 9223372036854775807) = 9223372036854775807 from by decide] at C1
  rw [show val (hiOf (-9223372036854775807)) (loOf (-9223372036854775807)) = -9223372036854775807 from by decide] at C2
  by_cases g1 : 9223372036854775807 < val ah al
  · have HF := hide (show fitI (val ah al) = 9223372036854775807 from by unfold fitI; rw [if_pos g1])
    have HB := hide (show fitB (val ah al) = true from by unfold fitB; simp [g1])
    rw [show cmpI (val ah al) 9223372036854775807 = 1 from by unfold cmpI; rw [if_neg (by omega), if_neg (by omega)]] at C1
    clear g1
    go_enter Tryz.func87, Tryz.ntmps87
    go_wp2
    go_region_held3 (fun w' => w'.cell? ⟨w.heap.size, 0, none⟩ = some (.int .i64 ah) ∧ w'.cell? ⟨w.heap.size, 1, none⟩ = some (.int .u64 al))
      (simp [go_sem, *])
      (first
        | (go_at_call 99; refine (unhide O1 _).mono ?_; rintro e w1 ⟨rfl, hg1⟩; obtain ⟨a1, b1⟩ := gat2 hg1 w.heap.size (.int .i64 ah) (.int .u64 al) (by constructor <;> simp [go_sem, *]); have hgw1 : Grown w w1 := gtrans (by exact Grown.drew ((Grown.refl _).alloc _ _)) hg1)
        | (go_at_call 100; refine (unhide C1 _).mono ?_; rintro e w2 ⟨rfl, hg2⟩; obtain ⟨a2, b2⟩ := gat2 hg2 w.heap.size (.int .i64 ah) (.int .u64 al) (by constructor <;> simp [go_sem, *]); have hgw2 : Grown w w2 := gtrans hgw1 hg2))
    go_wp2
    go_ret2
    rw [unhide HF, unhide HB]
    exact ⟨rfl, hgw2⟩
  obtain ⟨c, hc, hc1⟩ : ∃ c, cmpI (val ah al) 9223372036854775807 = c ∧ c ≤ 0 := ⟨_, rfl, by unfold cmpI; split <;> (try split) <;> omega⟩
  rw [hc] at C1
  clear hc
  by_cases g2 : val ah al < -9223372036854775807
  · have HF := hide (show fitI (val ah al) = -9223372036854775807 from by unfold fitI; rw [if_neg g1, if_pos g2])
    have HB := hide (show fitB (val ah al) = true from by unfold fitB; simp [g2])
    rw [show cmpI (val ah al) (-9223372036854775807) = -1 from by unfold cmpI; rw [if_pos (by omega)]] at C2
    clear g1 g2
    go_enter Tryz.func87, Tryz.ntmps87
    go_wp2
    go_region_held3 (fun w' => w'.cell? ⟨w.heap.size, 0, none⟩ = some (.int .i64 ah) ∧ w'.cell? ⟨w.heap.size, 1, none⟩ = some (.int .u64 al))
      (simp [go_sem, *])
      (first
        | (go_at_call 99; refine (unhide O1 _).mono ?_; rintro e w1 ⟨rfl, hg1⟩; obtain ⟨a1, b1⟩ := gat2 hg1 w.heap.size (.int .i64 ah) (.int .u64 al) (by constructor <;> simp [go_sem, *]); have hgw1 : Grown w w1 := gtrans (by exact Grown.drew ((Grown.refl _).alloc _ _)) hg1)
        | (go_at_call 100; refine (unhide C1 _).mono ?_; rintro e w2 ⟨rfl, hg2⟩; obtain ⟨a2, b2⟩ := gat2 hg2 w.heap.size (.int .i64 ah) (.int .u64 al) (by constructor <;> simp [go_sem, *]); have hgw2 : Grown w w2 := gtrans hgw1 hg2))
    go_wp2
    go_region_held3 (fun w' => w'.cell? ⟨w.heap.size, 0, none⟩ = some (.int .i64 ah) ∧ w'.cell? ⟨w.heap.size, 1, none⟩ = some (.int .u64 al))
      (simp [go_sem, *])
      (first
        | (go_at_call 99; refine (unhide O2 _).mono ?_; rintro e w3 ⟨rfl, hg3⟩; obtain ⟨a3, b3⟩ := gat2 hg3 w.heap.size (.int .i64 ah) (.int .u64 al) (by constructor <;> simp [go_sem, *]); have hgw3 : Grown w w3 := gtrans (by exact Grown.drew hgw2) hg3)
        | (go_at_call 100; refine (unhide C2 _).mono ?_; rintro e w4 ⟨rfl, hg4⟩; obtain ⟨a4, b4⟩ := gat2 hg4 w.heap.size (.int .i64 ah) (.int .u64 al) (by constructor <;> simp [go_sem, *]); have hgw4 : Grown w w4 := gtrans hgw3 hg4))
    go_wp2
    go_ret2
    rw [unhide HF, unhide HB]
    exact ⟨rfl, hgw4⟩
  · have HF := hide (show wrap64 al = fitI (val ah al) from by simp only [wrap64]; unfold fitI; rw [if_neg g1, if_neg g2]; unfold U64 at h2; unfold I64 at h1; unfold val at *; omega)
    have HB := hide (show fitB (val ah al) = false from by unfold fitB; simp; omega)
    obtain ⟨d, hd, hd1⟩ : ∃ d, cmpI (val ah al) (-9223372036854775807) = d ∧ 0 ≤ d := ⟨_, rfl, by unfold cmpI; split <;> (try split) <;> omega⟩
    rw [hd] at C2
    clear g1 g2 hd
    go_enter Tryz.func87, Tryz.ntmps87
    go_wp2
    go_region_held3 (fun w' => w'.cell? ⟨w.heap.size, 0, none⟩ = some (.int .i64 ah) ∧ w'.cell? ⟨w.heap.size, 1, none⟩ = some (.int .u64 al))
      (simp [go_sem, *])
      (first
        | (go_at_call 99; refine (unhide O1 _).mono ?_; rintro e w1 ⟨rfl, hg1⟩; obtain ⟨a1, b1⟩ := gat2 hg1 w.heap.size (.int .i64 ah) (.int .u64 al) (by constructor <;> simp [go_sem, *]); have hgw1 : Grown w w1 := gtrans (by exact Grown.drew ((Grown.refl _).alloc _ _)) hg1)
        | (go_at_call 100; refine (unhide C1 _).mono ?_; rintro e w2 ⟨rfl, hg2⟩; obtain ⟨a2, b2⟩ := gat2 hg2 w.heap.size (.int .i64 ah) (.int .u64 al) (by constructor <;> simp [go_sem, *]); have hgw2 : Grown w w2 := gtrans hgw1 hg2))
    go_wp2
    go_region_held3 (fun w' => w'.cell? ⟨w.heap.size, 0, none⟩ = some (.int .i64 ah) ∧ w'.cell? ⟨w.heap.size, 1, none⟩ = some (.int .u64 al))
      (simp [go_sem, *])
      (first
        | (go_at_call 99; refine (unhide O2 _).mono ?_; rintro e w3 ⟨rfl, hg3⟩; obtain ⟨a3, b3⟩ := gat2 hg3 w.heap.size (.int .i64 ah) (.int .u64 al) (by constructor <;> simp [go_sem, *]); have hgw3 : Grown w w3 := gtrans (by exact Grown.drew hgw2) hg3)
        | (go_at_call 100; refine (unhide C2 _).mono ?_; rintro e w4 ⟨rfl, hg4⟩; obtain ⟨a4, b4⟩ := gat2 hg4 w.heap.size (.int .i64 ah) (.int .u64 al) (by constructor <;> simp [go_sem, *]); have hgw4 : Grown w w4 := gtrans hgw3 hg4))
    go_wp2
    go_ret2
    rw [← unhide HF, unhide HB]
    exact ⟨rfl, hgw4⟩

set_option maxHeartbeats 1000000 in
theorem refFit (ah al : Int) (h1 : I64 ah) (h2 : U64 al) (w : World) :
    Calls Tryz.prog 108 #[.agg #[.int .i64 ah, .int .u64 al]] w fun e w' => e = .returned (.tuple #[.int .i64 (fitI (val ah al)), .bool (fitB (val ah al))]) ∧ Grown w w' := by
  have O1 := hide (fun w => refOf 9223372036854775807 (by unfold I64; omega) w)
  have O2 := hide (fun w => refOf (-9223372036854775807) (by unfold I64; omega) w)
  have C1 := hide (fun w => refCmp ah al (hiOf 9223372036854775807) (loOf 9223372036854775807) h1 h2 (hiOf_I64 _) (loOf_U64 _) w)
  have C2 := hide (fun w => refCmp ah al (hiOf (-9223372036854775807)) (loOf (-9223372036854775807)) h1 h2 (hiOf_I64 _) (loOf_U64 _) w)
  rw [show val (hiOf 9223372036854775807) (loOf 9223372036854775807) = 9223372036854775807 from by decide] at C1
  rw [show val (hiOf (-9223372036854775807)) (loOf (-9223372036854775807)) = -9223372036854775807 from by decide] at C2
  by_cases g1 : 9223372036854775807 < val ah al
  · have HF := hide (show fitI (val ah al) = 9223372036854775807 from by unfold fitI; rw [if_pos g1])
    have HB := hide (show fitB (val ah al) = true from by unfold fitB; simp [g1])
    rw [show cmpI (val ah al) 9223372036854775807 = 1 from by unfold cmpI; rw [if_neg (by omega), if_neg (by omega)]] at C1
    clear g1
    go_enter Tryz.func108, Tryz.ntmps108
    go_wp2
    go_region_held3 (fun w' => w'.cell? ⟨w.heap.size, 0, none⟩ = some (.int .i64 ah) ∧ w'.cell? ⟨w.heap.size, 1, none⟩ = some (.int .u64 al))
      (simp [go_sem, *])
      (first
        | (go_at_call 93; refine (unhide O1 _).mono ?_; rintro e w1 ⟨rfl, hg1⟩; obtain ⟨a1, b1⟩ := gat2 hg1 w.heap.size (.int .i64 ah) (.int .u64 al) (by constructor <;> simp [go_sem, *]); have hgw1 : Grown w w1 := gtrans (by exact Grown.drew ((Grown.refl _).alloc _ _)) hg1)
        | (go_at_call 120; refine (unhide C1 _).mono ?_; rintro e w2 ⟨rfl, hg2⟩; obtain ⟨a2, b2⟩ := gat2 hg2 w.heap.size (.int .i64 ah) (.int .u64 al) (by constructor <;> simp [go_sem, *]); have hgw2 : Grown w w2 := gtrans hgw1 hg2))
    go_wp2
    go_ret2
    rw [unhide HF, unhide HB]
    exact ⟨rfl, hgw2⟩
  obtain ⟨c, hc, hc1⟩ : ∃ c, cmpI (val ah al) 9223372036854775807 = c ∧ c ≤ 0 := ⟨_, rfl, by unfold cmpI; split <;> (try split) <;> omega⟩
  rw [hc] at C1
  clear hc
  by_cases g2 : val ah al < -9223372036854775807
  · have HF := hide (show fitI (val ah al) = -9223372036854775807 from by unfold fitI; rw [if_neg g1, if_pos g2])
    have HB := hide (show fitB (val ah al) = true from by unfold fitB; simp [g2])
    rw [show cmpI (val ah al) (-9223372036854775807) = -1 from by unfold cmpI; rw [if_pos (by omega)]] at C2
    clear g1 g2
    go_enter Tryz.func108, Tryz.ntmps108
    go_wp2
    go_region_held3 (fun w' => w'.cell? ⟨w.heap.size, 0, none⟩ = some (.int .i64 ah) ∧ w'.cell? ⟨w.heap.size, 1, none⟩ = some (.int .u64 al))
      (simp [go_sem, *])
      (first
        | (go_at_call 93; refine (unhide O1 _).mono ?_; rintro e w1 ⟨rfl, hg1⟩; obtain ⟨a1, b1⟩ := gat2 hg1 w.heap.size (.int .i64 ah) (.int .u64 al) (by constructor <;> simp [go_sem, *]); have hgw1 : Grown w w1 := gtrans (by exact Grown.drew ((Grown.refl _).alloc _ _)) hg1)
        | (go_at_call 120; refine (unhide C1 _).mono ?_; rintro e w2 ⟨rfl, hg2⟩; obtain ⟨a2, b2⟩ := gat2 hg2 w.heap.size (.int .i64 ah) (.int .u64 al) (by constructor <;> simp [go_sem, *]); have hgw2 : Grown w w2 := gtrans hgw1 hg2))
    go_wp2
    go_region_held3 (fun w' => w'.cell? ⟨w.heap.size, 0, none⟩ = some (.int .i64 ah) ∧ w'.cell? ⟨w.heap.size, 1, none⟩ = some (.int .u64 al))
      (simp [go_sem, *])
      (first
        | (go_at_call 93; refine (unhide O2 _).mono ?_; rintro e w3 ⟨rfl, hg3⟩; obtain ⟨a3, b3⟩ := gat2 hg3 w.heap.size (.int .i64 ah) (.int .u64 al) (by constructor <;> simp [go_sem, *]); have hgw3 : Grown w w3 := gtrans (by exact Grown.drew hgw2) hg3)
        | (go_at_call 120; refine (unhide C2 _).mono ?_; rintro e w4 ⟨rfl, hg4⟩; obtain ⟨a4, b4⟩ := gat2 hg4 w.heap.size (.int .i64 ah) (.int .u64 al) (by constructor <;> simp [go_sem, *]); have hgw4 : Grown w w4 := gtrans hgw3 hg4))
    go_wp2
    go_ret2
    rw [unhide HF, unhide HB]
    exact ⟨rfl, hgw4⟩
  · have HF := hide (show wrap64 al = fitI (val ah al) from by simp only [wrap64]; unfold fitI; rw [if_neg g1, if_neg g2]; unfold U64 at h2; unfold I64 at h1; unfold val at *; omega)
    have HB := hide (show fitB (val ah al) = false from by unfold fitB; simp; omega)
    obtain ⟨d, hd, hd1⟩ : ∃ d, cmpI (val ah al) (-9223372036854775807) = d ∧ 0 ≤ d := ⟨_, rfl, by unfold cmpI; split <;> (try split) <;> omega⟩
    rw [hd] at C2
    clear g1 g2 hd
    go_enter Tryz.func108, Tryz.ntmps108
    go_wp2
    go_region_held3 (fun w' => w'.cell? ⟨w.heap.size, 0, none⟩ = some (.int .i64 ah) ∧ w'.cell? ⟨w.heap.size, 1, none⟩ = some (.int .u64 al))
      (simp [go_sem, *])
      (first
        | (go_at_call 93; refine (unhide O1 _).mono ?_; rintro e w1 ⟨rfl, hg1⟩; obtain ⟨a1, b1⟩ := gat2 hg1 w.heap.size (.int .i64 ah) (.int .u64 al) (by constructor <;> simp [go_sem, *]); have hgw1 : Grown w w1 := gtrans (by exact Grown.drew ((Grown.refl _).alloc _ _)) hg1)
        | (go_at_call 120; refine (unhide C1 _).mono ?_; rintro e w2 ⟨rfl, hg2⟩; obtain ⟨a2, b2⟩ := gat2 hg2 w.heap.size (.int .i64 ah) (.int .u64 al) (by constructor <;> simp [go_sem, *]); have hgw2 : Grown w w2 := gtrans hgw1 hg2))
    go_wp2
    go_region_held3 (fun w' => w'.cell? ⟨w.heap.size, 0, none⟩ = some (.int .i64 ah) ∧ w'.cell? ⟨w.heap.size, 1, none⟩ = some (.int .u64 al))
      (simp [go_sem, *])
      (first
        | (go_at_call 93; refine (unhide O2 _).mono ?_; rintro e w3 ⟨rfl, hg3⟩; obtain ⟨a3, b3⟩ := gat2 hg3 w.heap.size (.int .i64 ah) (.int .u64 al) (by constructor <;> simp [go_sem, *]); have hgw3 : Grown w w3 := gtrans (by exact Grown.drew hgw2) hg3)
        | (go_at_call 120; refine (unhide C2 _).mono ?_; rintro e w4 ⟨rfl, hg4⟩; obtain ⟨a4, b4⟩ := gat2 hg4 w.heap.size (.int .i64 ah) (.int .u64 al) (by constructor <;> simp [go_sem, *]); have hgw4 : Grown w w4 := gtrans hgw3 hg4))
    go_wp2
    go_ret2
    rw [← unhide HF, unhide HB]
    exact ⟨rfl, hgw4⟩

theorem val_I64 (n : Int) (h : I64 n) : val (hiOf n) (loOf n) = n := by
  rw [val_of, wrapW_in]; unfold I64 at h; omega

end Go.Proofs.YtgahdjfkmpadoaaGreat
