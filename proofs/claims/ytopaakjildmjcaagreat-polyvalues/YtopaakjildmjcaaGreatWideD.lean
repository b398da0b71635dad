/- Package wide's quotients: what quotient, fraction, Div and Fit return, in whole numbers, where math/bits.Div64 does what it says. -/
import Derived.Test.YtopaakjildmjcaaGreatWideC
import Derived.Deep.QuietTactic
import Derived.BigQuiet
namespace Go.Proofs.YtopaakjildmjcaaGreat
open Go.RowKit Go.Proofs.Wd
set_option linter.unusedVariables false
set_option linter.unusedSimpArgs false
set_option maxRecDepth 10000
attribute [local go_sem ↓] Go.wp_at_zero Go.wp_at_succ

theorem grown_drewN {W w' : World} (n : Nat) (h : Grown W w') : Grown W (w'.drewN n) := h

set_option maxHeartbeats 400000 in
theorem div64_0 (lo y : Int) (h1 : U64 lo) (h2 : U64 y) (hy : 0 < y) (w : World) :
    Calls Tryz.prog 146 #[.int .u64 0, .int .u64 lo, .int .u64 y] w fun e w' => e = .returned (.tuple #[.int .u64 (lo / y), .int .u64 (lo % y)]) ∧ Grown w w' := by
  unfold U64 at h1 h2
  go_enter Tryz.func146, Tryz.ntmps146
  go_wp2
  go_region
  all_goals go_wp2
  all_goals go_ret2
  all_goals exact ⟨rfl, Grown.drew (Grown.refl _)⟩

/-- What math/bits.Div64 says of one call. -/
def DivSays (h l y : Int) : Prop := ∀ w, Calls Tryz.prog 146 #[.int .u64 h, .int .u64 l, .int .u64 y] w fun e w' => e = .returned (.tuple #[.int .u64 (val h l / y), .int .u64 (val h l % y)]) ∧ Grown w w'
theorem div64_says0 (lo y : Int) (h1 : U64 lo) (h2 : U64 y) (hy : 0 < y) : DivSays 0 lo y := fun w => by
  rw [show val 0 lo = lo from by unfold val; omega]
  exact div64_0 lo y h1 h2 hy w

set_option maxHeartbeats 1000000 in
theorem wideQuotient_core (ml mh n q1 r1 q0 r0 : Int) (b : Bool) (hn : r0 ≤ n) (hr : 0 ≤ r0) (hn' : n < 18446744073709551616)
    (D1 : Hid (∀ w, Calls Tryz.prog 146 #[.int .u64 0, .int .u64 mh, .int .u64 n] w fun e w' => e = .returned (.tuple #[.int .u64 q1, .int .u64 r1]) ∧ Grown w w'))
    (D2 : Hid (∀ w, Calls Tryz.prog 146 #[.int .u64 r1, .int .u64 ml, .int .u64 n] w fun e w' => e = .returned (.tuple #[.int .u64 q0, .int .u64 r0]) ∧ Grown w w')) (w : World) :
    Calls Tryz.prog 136 #[.agg #[.int .u64 ml, .int .u64 mh], .int .u64 n, .bool b] w fun e w' => e = .returned (.tuple #[.agg #[.int .u64 q0, .int .u64 q1], .agg #[.int .u64 r0, .int .u64 0], .agg #[.int .u64 (n - r0), .int .u64 0], .bool b]) ∧ Grown w w' := by
  go_enter Tryz.func136, Tryz.ntmps136
  go_wp2_with fail
  refine (unhide D1 _).mono ?_
  rintro e w1 ⟨rfl, hg1⟩
  obtain ⟨a0, a1⟩ := gat2 hg1 w.heap.size (.int .u64 ml) (.int .u64 mh) (by constructor <;> simp [go_sem])
  obtain ⟨b0, b1⟩ := gat2 hg1 (w.heap.size + 1) (.int .u64 0) (.int .u64 0) (by constructor <;> simp [go_sem])
  obtain ⟨c0, c1⟩ := gat2 hg1 (w.heap.size + 1 + 1) (.int .u64 0) (.int .u64 0) (by constructor <;> simp [go_sem])
  obtain ⟨d0, d1⟩ := gat2 hg1 (w.heap.size + 1 + 1 + 1) (.int .u64 0) (.int .u64 0) (by constructor <;> simp [go_sem])
  have hgw1 : Grown w w1 := gtrans ((((((Grown.refl _).alloc _ _).alloc _ _).alloc _ _).alloc _ _)) hg1
  clear hg1
  go_wp2_with fail
  refine (unhide D2 _).mono ?_
  rintro e w2 ⟨rfl, hg2⟩
  obtain ⟨b2, b3⟩ := gat2 hg2 (w.heap.size + 1) (.int .u64 0) (.int .u64 0) ⟨b0, b1⟩
  obtain ⟨c2, c3⟩ := gat2 hg2 (w.heap.size + 1 + 1) (.int .u64 0) (.int .u64 0) ⟨c0, c1⟩
  obtain ⟨d2, d3⟩ := gat2 hg2 (w.heap.size + 1 + 1 + 1) (.int .u64 0) (.int .u64 0) ⟨d0, d1⟩
  have hgw2 : Grown w w2 := gtrans hgw1 hg2
  have f1 := fun o => frz hgw2 (w.heap.size + 1) o (by omega)
  have f2 := fun o => frz hgw2 (w.heap.size + 1 + 1) o (by omega)
  have f3 := fun o => frz hgw2 (w.heap.size + 1 + 1 + 1) o (by omega)
  clear hg2 a0 a1 b0 b1 c0 c1 d0 d1 hgw1
  go_wp2
  simp [bodyPost, results, Tryz.results136, go_sem, b2, b3, c2, c3, d2, d3]
  refine Grown.setCell ?_ (by dsimp only; omega) _
  refine Grown.setCell ?_ (by dsimp only; omega) _
  refine Grown.setCell ?_ (by dsimp only; omega) _
  refine Grown.setCell ?_ (by dsimp only; omega) _
  refine Grown.setCell ?_ (by dsimp only; omega) _
  refine Grown.setCell ?_ (by dsimp only; omega) _
  exact hgw2

set_option maxHeartbeats 1000000 in
theorem wideFraction (ah al d : Int) (h1 : I64 ah) (h2 : U64 al) (h3 : I64 d) (w : World) :
    Calls Tryz.prog 137 #[.agg #[.int .i64 ah, .int .u64 al], .int .i64 d] w fun e w' => e = .returned (.tuple #[.agg #[.int .u64 (loOf (absI (val ah al))), .int .u64 (mhi (absI (val ah al)))], .int .u64 (absI d), .bool (apartS ah d)]) ∧ Grown w w' := by
  go_enter Tryz.func137, Tryz.ntmps137
  go_wp2
  go_region_held3 (fun w' => w'.cell? ⟨w.heap.size, 0, none⟩ = some (.int .i64 ah) ∧ w'.cell? ⟨w.heap.size, 1, none⟩ = some (.int .u64 al))
    (simp [go_sem, *])
    (first
      | (go_at_call 144; refine (wideSizeOf ah al h1 h2 _).mono ?_; rintro e w1 ⟨rfl, hg⟩; obtain ⟨a0, a1⟩ := gat2 hg w.heap.size (.int .i64 ah) (.int .u64 al) (by constructor <;> simp [go_sem, *]); obtain ⟨d0, d1⟩ := gat2 hg (w.heap.size + 1) (.int .u64 0) (.int .u64 0) (by constructor <;> simp [go_sem, *]); have hgw1 : Grown w w1 := gtrans (by exact Grown.drew (((Grown.refl _).alloc _ _).alloc _ _)) hg)
      | (go_at_call 135; refine (wideFar d h3 _).mono ?_; rintro e w2 ⟨rfl, hg2⟩; obtain ⟨a2, a3⟩ := gat2 hg2 w.heap.size (.int .i64 ah) (.int .u64 al) (by constructor <;> simp [go_sem, *]); obtain ⟨d2, d3⟩ := gat2 hg2 (w.heap.size + 1) (.int .u64 0) (.int .u64 0) (by constructor <;> simp [go_sem, *]); have hgw2 : Grown w w2 := gtrans hgw1 hg2; have f1 := fun o => frz hgw2 (w.heap.size + 1) o (by omega)))
  go_wp2
  simp [bodyPost, results, Tryz.results137, go_sem, d2, d3]
  exact ⟨by unfold apartS; simp [bne], Grown.setCell (Grown.setCell hgw2 (by dsimp only; omega) _) (by dsimp only; omega) _⟩

theorem sg_near2 (a d : Int) (hd : d ≠ 0) : sg (apartS a d) (nearQ (absI a / absI d) (absI a % absI d) (absI d - absI a % absI d)) = rdiv a d := by
  have e1 : ((a.natAbs : Nat) : Int) = absI a := by unfold absI; split <;> omega
  have e2 : ((d.natAbs : Nat) : Int) = absI d := by unfold absI; split <;> omega
  unfold rdiv rawq sg nearQ apartS
  rw [e1, e2]
theorem quo_parts (mh ml n : Int) (h1 : U64 ml) (h2 : U64 mh) (hn : 0 < n) :
    val (mh % n) ml / n = loOf (val mh ml / n) ∧ mh / n = mhi (val mh ml / n) ∧ val (mh % n) ml % n = val mh ml % n := by
  have e1 := Int.emod_add_mul_ediv mh n
  have e2 := Int.emod_nonneg mh (by omega : n ≠ 0)
  have e3 := Int.emod_lt_of_pos mh hn
  have f1 := Int.emod_add_mul_ediv (val (mh % n) ml) n
  have f2 := Int.emod_nonneg (val (mh % n) ml) (by omega : n ≠ 0)
  have f3 := Int.emod_lt_of_pos (val (mh % n) ml) hn
  unfold U64 at h1 h2
  have g0 : 0 ≤ mh / n := dv0 _ _ hn h2.1
  have g1 : mh / n ≤ mh := Int.ediv_le_self _ h2.1
  have hx : val mh ml = (val (mh % n) ml % n) + n * ((mh / n) * 18446744073709551616 + val (mh % n) ml / n) := by
    have : val mh ml = n * (mh / n) * 18446744073709551616 + val (mh % n) ml := by unfold val; omega
    rw [this]; grind
  obtain ⟨k1, k2⟩ := du hn hx.symm f2 f3
  have l0 : 0 ≤ val (mh % n) ml / n := dv0 _ _ hn (by unfold val; omega)
  have l1 : val (mh % n) ml / n < 18446744073709551616 := ltdiv _ _ _ hn (by
    have : (mh % n + 1) * 18446744073709551616 ≤ n * 18446744073709551616 := Int.mul_le_mul_of_nonneg_right (by omega) (by decide)
    unfold val; omega)
  rw [k1, k2]
  refine ⟨?_, ?_, rfl⟩
  · unfold loOf; omega
  · unfold mhi; omega

theorem wideQuotient (ml mh n : Int) (b : Bool) (h1 : U64 ml) (h2 : U64 mh) (h3 : U64 n) (hn : 0 < n) (hD : DivSays (mh % n) ml n) (w : World) :
    Calls Tryz.prog 136 #[.agg #[.int .u64 ml, .int .u64 mh], .int .u64 n, .bool b] w fun e w' => e = .returned (.tuple #[.agg #[.int .u64 (loOf (val mh ml / n)), .int .u64 (mhi (val mh ml / n))], .agg #[.int .u64 (val mh ml % n), .int .u64 0], .agg #[.int .u64 (n - val mh ml % n), .int .u64 0], .bool b]) ∧ Grown w w' := by
  obtain ⟨p1, p2, p3⟩ := quo_parts mh ml n h1 h2 hn
  have f2 := Int.emod_nonneg (val (mh % n) ml) (by omega : n ≠ 0)
  have f3 := Int.emod_lt_of_pos (val (mh % n) ml) hn
  have q := wideQuotient_core ml mh n (mh / n) (mh % n) (val (mh % n) ml / n) (val (mh % n) ml % n) b (by omega) f2 h3.2
    (hide (fun w => div64_0 mh n h2 h3 hn w)) (hide hD) w
  rw [p3, p1, p2] at q
  exact q

set_option maxHeartbeats 1000000 in
theorem wideDiv (ah al d : Int) (h1 : I64 ah) (h2 : U64 al) (h3 : I64 d) (hd : d ≠ 0) (hD : DivSays (mhi (absI (val ah al)) % absI d) (loOf (absI (val ah al))) (absI d)) (w : World) :
    Calls Tryz.prog 125 #[.agg #[.int .i64 ah, .int .u64 al], .int .i64 d] w fun e w' => e = .returned (.tuple #[.agg #[.int .i64 (hiOf (rdiv (val ah al) d)), .int .u64 (loOf (rdiv (val ah al) d))], .int .i64 0]) ∧ Grown w w' := by
  have hn : 0 < absI d := by unfold absI; split <;> omega
  have hu := absI_U64 d h3
  have hR := val_range ah al h1 h2
  have hA0 : 0 ≤ absI (val ah al) := by unfold absI; split <;> omega
  have hA1 : absI (val ah al) ≤ 170141183460469231731687303715884105728 := by unfold absI; split <;> omega
  have e1 := Int.emod_nonneg (absI (val ah al)) (by omega : absI d ≠ 0)
  have e2 := Int.emod_lt_of_pos (absI (val ah al)) hn
  have e3 : 0 ≤ absI (val ah al) / absI d := dv0 _ _ hn hA0
  have e4 : absI (val ah al) / absI d ≤ absI (val ah al) := Int.ediv_le_self _ hA0
  have v0 := val_size (absI (val ah al)) (by omega)
  have v1 := val_size (absI (val ah al) / absI d) (by omega)
  have v2 : val 0 (absI (val ah al) % absI d) = absI (val ah al) % absI d := by unfold val; omega
  have v3 : val 0 (absI d - absI (val ah al) % absI d) = absI d - absI (val ah al) % absI d := by unfold val; omega
  have hq : val (mhi (absI (val ah al) / absI d)) (loOf (absI (val ah al) / absI d)) < 340282366920938463463374607431768211455 := by omega
  have hap : apartS (val ah al) d = apartS ah d := by unfold apartS; rw [show decide (val ah al < 0) = decide (ah < 0) from by rw [decide_eq_decide]; unfold U64 at h2; unfold val; omega]
  have hs := sg_near2 (val ah al) d hd
  rw [hap] at hs
  have S1 := hide (fun w => wideQuotient (loOf (absI (val ah al))) (mhi (absI (val ah al))) (absI d) (apartS ah d) (loOf_U64 _) (mhi_U64 _) hu hn hD w)
  have u1 : U64 (absI (val ah al) % absI d) := ⟨e1, by have := hu.2; omega⟩
  have u2 : U64 (absI d - absI (val ah al) % absI d) := ⟨by omega, by have := hu.2; omega⟩
  have u0 : U64 0 := by unfold U64; omega
  have N1 := hide (fun w => wideNearest (loOf (absI (val ah al) / absI d)) (mhi (absI (val ah al) / absI d)) (absI (val ah al) % absI d) 0 (absI d - absI (val ah al) % absI d) 0 (apartS ah d) (loOf_U64 _) (mhi_U64 _) u1 u0 u2 u0 hq w)
  rw [v0] at S1
  rw [v1, v2, v3, hs] at N1
  clear v0 v1 v2 v3 hs hq e1 e2 e3 e4 hn hA0 hA1 hR hap u0 u1 u2 hu hD
  go_enter Tryz.func125, Tryz.ntmps125
  go_wp2_with fail
  refine (wideFraction ah al d h1 h2 h3 _).mono ?_
  rintro e w1 ⟨rfl, hg1⟩
  go_wp2_with fail
  refine (unhide S1 _).mono ?_
  rintro e w2 ⟨rfl, hg2⟩
  go_wp2_with fail
  refine (unhide N1 _).mono ?_
  rintro e w3 ⟨rfl, hg3⟩
  have hg := gtrans hg1 (gtrans hg2 hg3)
  obtain ⟨d0, d1⟩ := gat2 hg (w.heap.size + 1) (.int .i64 0) (.int .u64 0) (by constructor <;> simp [go_sem])
  have hgw : Grown w w3 := gtrans (((Grown.refl _).alloc _ _).alloc _ _) hg
  have f1 := fun o => frz hgw (w.heap.size + 1) o (by omega)
  clear hg1 hg2 hg3 hg
  go_wp2
  simp [bodyPost, results, Tryz.results125, go_sem, d0, d1]
  exact Grown.setCell (Grown.setCell hgw (by dsimp only; omega) _) (by dsimp only; omega) _

set_option maxHeartbeats 400000 in
theorem wideDiv_bad (ah al : Int) (w : World) :
    Calls Tryz.prog 125 #[.agg #[.int .i64 ah, .int .u64 al], .int .i64 0] w fun e w' => e = .returned (.tuple #[.agg #[.int .i64 0, .int .u64 0], .int .i64 2]) ∧ Grown w w' := by
  go_enter Tryz.func125, Tryz.ntmps125
  go_wp2
  simp [bodyPost, results, Tryz.results125, go_sem]
  exact ((Grown.refl _).alloc _ _).alloc _ _

set_option maxHeartbeats 1000000 in
theorem wideFit (ah al : Int) (h1 : I64 ah) (h2 : U64 al) (w : World) :
    Calls Tryz.prog 105 #[.agg #[.int .i64 ah, .int .u64 al]] w fun e w' => e = .returned (.tuple #[.int .i64 (fitI (val ah al)), .bool (fitB (val ah al))]) ∧ Grown w w' := by
  have O1 := hide (fun w => wideOf 9223372036854775807 (by unfold I64; omega) w)
  have O2 := hide (fun w => wideOf (-9223372036854775807) (by unfold I64; omega) w)
  have C1 := hide (fun w => wideCmp ah al (hiOf 9223372036854775807) (loOf 9223372036854775807) h1 h2 (hiOf_I64 _) (loOf_U64 _) w)
  have C2 := hide (fun w => wideCmp ah al (hiOf (-9223372036854775807)) (loOf (-9223372036854775807)) h1 h2 (hiOf_I64 _) (loOf_U64 _) w)
  rw [show val (hiOf 9223372036854775807) (loOf 9223372036854775807) = 9223372036854775807 from by decide] at C1
  rw [show val (hiOf (-9223372036854775807)) (loOf (-9223372036854775807)) = -9223372036854775807 from by decide] at C2
  by_cases g1 : 9223372036854775807 < val ah al
  · have HF := hide (show fitI (val ah al) = 9223372036854775807 from by unfold fitI; rw [if_pos g1])
    have HB := hide (show fitB (val ah al) = true from by unfold fitB; simp [g1])
    rw [show cmpI (val ah al) 9223372036854775807 = 1 from by unfold cmpI; rw [if_neg (by omega), if_neg (by omega)]] at C1
    clear g1
    go_enter Tryz.func105, Tryz.ntmps105
    go_wp2
    go_region_held3 (fun w' => w'.cell? ⟨w.heap.size, 0, none⟩ = some (.int .i64 ah) ∧ w'.cell? ⟨w.heap.size, 1, none⟩ = some (.int .u64 al))
      (simp [go_sem, *])
      (first
        | (go_at_call 126; refine (unhide O1 _).mono ?_; rintro e w1 ⟨rfl, hg1⟩; obtain ⟨a1, b1⟩ := gat2 hg1 w.heap.size (.int .i64 ah) (.int .u64 al) (by constructor <;> simp [go_sem, *]); have hgw1 : Grown w w1 := gtrans (by exact Grown.drew ((Grown.refl _).alloc _ _)) hg1)
        | (go_at_call 124; refine (unhide C1 _).mono ?_; rintro e w2 ⟨rfl, hg2⟩; obtain ⟨a2, b2⟩ := gat2 hg2 w.heap.size (.int .i64 ah) (.int .u64 al) (by constructor <;> simp [go_sem, *]); have hgw2 : Grown w w2 := gtrans hgw1 hg2))
    go_wp2
    go_ret2
    rw [unhide HF, unhide HB]
    exact ⟨rfl, hgw2⟩
  obtain ⟨c, hc, hc1⟩ : ∃ c, cmpI (val ah al) 9223372036854775807 = c ∧ c ≤ 0 := ⟨_, rfl, by unfold cmpI; split <;> (try split) <;> omega⟩
  rw [hc] at C1
  clear hc
  by_cases g2 : val ah al < -9223372036854775807
  · have HF := hide (show fitI (val ah al) = -9223372036854775807 from by unfold fitI; rw [if_neg g1, if_pos g2])
    have HB := hide (show fitB (val ah al) = true from by unfold fitB; simp [g2])
    rw [show cmpI (val ah al) (-9223372036854775807) = -1 from by unfold cmpI; rw [if_pos (by omega)]] at C2
    clear g1 g2
    go_enter Tryz.func105, Tryz.ntmps105
    go_wp2
    go_region_held3 (fun w' => w'.cell? ⟨w.heap.size, 0, none⟩ = some (.int .i64 ah) ∧ w'.cell? ⟨w.heap.size, 1, none⟩ = some (.int .u64 al))
      (simp [go_sem, *])
      (first
        | (go_at_call 126; refine (unhide O1 _).mono ?_; rintro e w1 ⟨rfl, hg1⟩; obtain ⟨a1, b1⟩ := gat2 hg1 w.heap.size (.int .i64 ah) (.int .u64 al) (by constructor <;> simp [go_sem, *]); have hgw1 : Grown w w1 := gtrans (by exact Grown.drew ((Grown.refl _).alloc _ _)) hg1)
        | (go_at_call 124; refine (unhide C1 _).mono ?_; rintro e w2 ⟨rfl, hg2⟩; obtain ⟨a2, b2⟩ := gat2 hg2 w.heap.size (.int .i64 ah) (.int .u64 al) (by constructor <;> simp [go_sem, *]); have hgw2 : Grown w w2 := gtrans hgw1 hg2))
    go_wp2
    go_region_held3 (fun w' => w'.cell? ⟨w.heap.size, 0, none⟩ = some (.int .i64 ah) ∧ w'.cell? ⟨w.heap.size, 1, none⟩ = some (.int .u64 al))
      (simp [go_sem, *])
      (first
        | (go_at_call 126; refine (unhide O2 _).mono ?_; rintro e w3 ⟨rfl, hg3⟩; obtain ⟨a3, b3⟩ := gat2 hg3 w.heap.size (.int .i64 ah) (.int .u64 al) (by constructor <;> simp [go_sem, *]); have hgw3 : Grown w w3 := gtrans (by exact Grown.drew hgw2) hg3)
        | (go_at_call 124; refine (unhide C2 _).mono ?_; rintro e w4 ⟨rfl, hg4⟩; obtain ⟨a4, b4⟩ := gat2 hg4 w.heap.size (.int .i64 ah) (.int .u64 al) (by constructor <;> simp [go_sem, *]); have hgw4 : Grown w w4 := gtrans hgw3 hg4))
    go_wp2
    go_ret2
    rw [unhide HF, unhide HB]
    exact ⟨rfl, hgw4⟩
  · have HF := hide (show wrap64 al = fitI (val ah al) from by simp only [wrap64]; unfold fitI; rw [if_neg g1, if_neg g2]; unfold U64 at h2; unfold I64 at h1; unfold val at *; omega)
    have HB := hide (show fitB (val ah al) = false from by unfold fitB; simp; omega)
    obtain ⟨d, hd, hd1⟩ : ∃ d, cmpI (val ah al) (-9223372036854775807) = d ∧ 0 ≤ d := ⟨_, rfl, by unfold cmpI; split <;> (try split) <;> omega⟩
    rw [hd] at C2
    clear g1 g2 hd
    go_enter Tryz.func105, Tryz.ntmps105
    go_wp2
    go_region_held3 (fun w' => w'.cell? ⟨w.heap.size, 0, none⟩ = some (.int .i64 ah) ∧ w'.cell? ⟨w.heap.size, 1, none⟩ = some (.int .u64 al))
      (simp [go_sem, *])
      (first
        | (go_at_call 126; refine (unhide O1 _).mono ?_; rintro e w1 ⟨rfl, hg1⟩; obtain ⟨a1, b1⟩ := gat2 hg1 w.heap.size (.int .i64 ah) (.int .u64 al) (by constructor <;> simp [go_sem, *]); have hgw1 : Grown w w1 := gtrans (by exact Grown.drew ((Grown.refl _).alloc _ _)) hg1)
        | (go_at_call 124; refine (unhide C1 _).mono ?_; rintro e w2 ⟨rfl, hg2⟩; obtain ⟨a2, b2⟩ := gat2 hg2 w.heap.size (.int .i64 ah) (.int .u64 al) (by constructor <;> simp [go_sem, *]); have hgw2 : Grown w w2 := gtrans hgw1 hg2))
    go_wp2
    go_region_held3 (fun w' => w'.cell? ⟨w.heap.size, 0, none⟩ = some (.int .i64 ah) ∧ w'.cell? ⟨w.heap.size, 1, none⟩ = some (.int .u64 al))
      (simp [go_sem, *])
      (first
        | (go_at_call 126; refine (unhide O2 _).mono ?_; rintro e w3 ⟨rfl, hg3⟩; obtain ⟨a3, b3⟩ := gat2 hg3 w.heap.size (.int .i64 ah) (.int .u64 al) (by constructor <;> simp [go_sem, *]); have hgw3 : Grown w w3 := gtrans (by exact Grown.drew hgw2) hg3)
        | (go_at_call 124; refine (unhide C2 _).mono ?_; rintro e w4 ⟨rfl, hg4⟩; obtain ⟨a4, b4⟩ := gat2 hg4 w.heap.size (.int .i64 ah) (.int .u64 al) (by constructor <;> simp [go_sem, *]); have hgw4 : Grown w w4 := gtrans hgw3 hg4))
    go_wp2
    go_ret2
    rw [← unhide HF, unhide HB]
    exact ⟨rfl, hgw4⟩

set_option maxHeartbeats 1000000 in
theorem refFit (ah al : Int) (h1 : I64 ah) (h2 : U64 al) (w : World) :
    Calls Tryz.prog 89 #[.agg #[.int .i64 ah, .int .u64 al]] w fun e w' => e = .returned (.tuple #[.int .i64 (fitI (val ah al)), .bool (fitB (val ah al))]) ∧ Grown w w' := by
  have O1 := hide (fun w => refOf 9223372036854775807 (by unfold I64; omega) w)
  have O2 := hide (fun w => refOf (-9223372036854775807) (by unfold I64; omega) w)
  have C1 := hide (fun w => refCmp ah al (hiOf 9223372036854775807) (loOf 9223372036854775807) h1 h2 (hiOf_I64 _) (loOf_U64 _) w)
  have C2 := hide (fun w => refCmp ah al (hiOf (-9223372036854775807)) (loOf (-9223372036854775807)) h1 h2 (hiOf_I64 _) (loOf_U64 _) w)
  rw [show val (hiOf 9223372036854775807) (loOf 9223372036854775807) = 9223372036854775807 from by decide] at C1
  rw [show val (hiOf (-9223372036854775807)) (loOf (-9223372036854775807)) = -9223372036854775807 from by decide] at C2
  by_cases g1 : 9223372036854775807 < val ah al
  · have HF := hide (show fitI (val ah al) = 9223372036854775807 from by unfold fitI; rw [if_pos g1])
    have HB := hide (show fitB (val ah al) = true from by unfold fitB; simp [g1])
    rw [show cmpI (val ah al) 9223372036854775807 = 1 from by unfold cmpI; rw [if_neg (by omega), if_neg (by omega)]] at C1
    clear g1
    go_enter Tryz.func89, Tryz.ntmps89
    go_wp2
    go_region_held3 (fun w' => w'.cell? ⟨w.heap.size, 0, none⟩ = some (.int .i64 ah) ∧ w'.cell? ⟨w.heap.size, 1, none⟩ = some (.int .u64 al))
      (simp [go_sem, *])
      (first
        | (go_at_call 109; refine (unhide O1 _).mono ?_; rintro e w1 ⟨rfl, hg1⟩; obtain ⟨a1, b1⟩ := gat2 hg1 w.heap.size (.int .i64 ah) (.int .u64 al) (by constructor <;> simp [go_sem, *]); have hgw1 : Grown w w1 := gtrans (by exact Grown.drew ((Grown.refl _).alloc _ _)) hg1)
        | (go_at_call 114; refine (unhide C1 _).mono ?_; rintro e w2 ⟨rfl, hg2⟩; obtain ⟨a2, b2⟩ := gat2 hg2 w.heap.size (.int .i64 ah) (.int .u64 al) (by constructor <;> simp [go_sem, *]); have hgw2 : Grown w w2 := gtrans hgw1 hg2))
    go_wp2
    go_ret2
    rw [unhide HF, unhide HB]
    exact ⟨rfl, hgw2⟩
  obtain ⟨c, hc, hc1⟩ : ∃ c, cmpI (val ah al) 9223372036854775807 = c ∧ c ≤ 0 := ⟨_, rfl, by unfold cmpI; split <;> (try split) <;> omega⟩
  rw [hc] at C1
  clear hc
  by_cases g2 : val ah al < -9223372036854775807
  · have HF := hide (show fitI (val ah al) = -9223372036854775807 from by unfold fitI; rw [if_neg g1, if_pos g2])
    have HB := hide (show fitB (val ah al) = true from by unfold fitB; simp [g2])
    rw [show cmpI (val ah al) (-9223372036854775807) = -1 from by unfold cmpI; rw [if_pos (by omega)]] at C2
    clear g1 g2
    go_enter Tryz.func89, Tryz.ntmps89
    go_wp2
    go_region_held3 (fun w' => w'.cell? ⟨w.heap.size, 0, none⟩ = some (.int .i64 ah) ∧ w'.cell? ⟨w.heap.size, 1, none⟩ = some (.int .u64 al))
      (simp [go_sem, *])
      (first
        | (go_at_call 109; refine (unhide O1 _).mono ?_; rintro e w1 ⟨rfl, hg1⟩; obtain ⟨a1, b1⟩ := gat2 hg1 w.heap.size (.int .i64 ah) (.int .u64 al) (by constructor <;> simp [go_sem, *]); have hgw1 : Grown w w1 := gtrans (by exact Grown.drew ((Grown.refl _).alloc _ _)) hg1)
        | (go_at_call 114; refine (unhide C1 _).mono ?_; rintro e w2 ⟨rfl, hg2⟩; obtain ⟨a2, b2⟩ := gat2 hg2 w.heap.size (.int .i64 ah) (.int .u64 al) (by constructor <;> simp [go_sem, *]); have hgw2 : Grown w w2 := gtrans hgw1 hg2))
    go_wp2
    go_region_held3 (fun w' => w'.cell? ⟨w.heap.size, 0, none⟩ = some (.int .i64 ah) ∧ w'.cell? ⟨w.heap.size, 1, none⟩ = some (.int .u64 al))
      (simp [go_sem, *])
      (first
        | (go_at_call 109; refine (unhide O2 _).mono ?_; rintro e w3 ⟨rfl, hg3⟩; obtain ⟨a3, b3⟩ := gat2 hg3 w.heap.size (.int .i64 ah) (.int .u64 al) (by constructor <;> simp [go_sem, *]); have hgw3 : Grown w w3 := gtrans (by exact Grown.drew hgw2) hg3)
        | (go_at_call 114; refine (unhide C2 _).mono ?_; rintro e w4 ⟨rfl, hg4⟩; obtain ⟨a4, b4⟩ := gat2 hg4 w.heap.size (.int .i64 ah) (.int .u64 al) (by constructor <;> simp [go_sem, *]); have hgw4 : Grown w w4 := gtrans hgw3 hg4))
    go_wp2
    go_ret2
    rw [unhide HF, unhide HB]
    exact ⟨rfl, hgw4⟩
  · have HF := hide (show wrap64 al = fitI (val ah al) from by simp only [wrap64]; unfold fitI; rw [if_neg g1, if_neg g2]; unfold U64 at h2; unfold I64 at h1; unfold val at *; omega)
    have HB := hide (show fitB (val ah al) = false from by unfold fitB; simp; omega)
    obtain ⟨d, hd, hd1⟩ : ∃ d, cmpI (val ah al) (-9223372036854775807) = d ∧ 0 ≤ d := ⟨_, rfl, by unfold cmpI; split <;> (try split) <;> omega⟩
    rw [hd] at C2
    clear g1 g2 hd
    go_enter Tryz.func89, Tryz.ntmps89
    go_wp2
    go_region_held3 (fun w' => w'.cell? ⟨w.heap.size, 0, none⟩ = some (.int .i64 ah) ∧ w'.cell? ⟨w.heap.size, 1, none⟩ = some (.int .u64 al))
      (simp [go_sem, *])
      (first
        | (go_at_call 109; refine (unhide O1 _).mono ?_; rintro e w1 ⟨rfl, hg1⟩; obtain ⟨a1, b1⟩ := gat2 hg1 w.heap.size (.int .i64 ah) (.int .u64 al) (by constructor <;> simp [go_sem, *]); have hgw1 : Grown w w1 := gtrans (by exact Grown.drew ((Grown.refl _).alloc _ _)) hg1)
        | (go_at_call 114; refine (unhide C1 _).mono ?_; rintro e w2 ⟨rfl, hg2⟩; obtain ⟨a2, b2⟩ := gat2 hg2 w.heap.size (.int .i64 ah) (.int .u64 al) (by constructor <;> simp [go_sem, *]); have hgw2 : Grown w w2 := gtrans hgw1 hg2))
    go_wp2
    go_region_held3 (fun w' => w'.cell? ⟨w.heap.size, 0, none⟩ = some (.int .i64 ah) ∧ w'.cell? ⟨w.heap.size, 1, none⟩ = some (.int .u64 al))
      (simp [go_sem, *])
      (first
        | (go_at_call 109; refine (unhide O2 _).mono ?_; rintro e w3 ⟨rfl, hg3⟩; obtain ⟨a3, b3⟩ := gat2 hg3 w.heap.size (.int .i64 ah) (.int .u64 al) (by constructor <;> simp [go_sem, *]); have hgw3 : Grown w w3 := gtrans (by exact Grown.drew hgw2) hg3)
        | (go_at_call 114; refine (unhide C2 _).mono ?_; rintro e w4 ⟨rfl, hg4⟩; obtain ⟨a4, b4⟩ := gat2 hg4 w.heap.size (.int .i64 ah) (.int .u64 al) (by constructor <;> simp [go_sem, *]); have hgw4 : Grown w w4 := gtrans hgw3 hg4))
    go_wp2
    go_ret2
    rw [← unhide HF, unhide HB]
    exact ⟨rfl, hgw4⟩

theorem val_I64 (n : Int) (h : I64 n) : val (hiOf n) (loOf n) = n := by
  rw [val_of, wrapW_in]; unfold I64 at h; omega

end Go.Proofs.YtopaakjildmjcaaGreat
