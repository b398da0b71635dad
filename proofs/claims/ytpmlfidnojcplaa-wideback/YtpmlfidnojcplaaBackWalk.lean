/- A product, divided by one of its parts, is the other one; of a number and its turned one all is turned: the walk of the law WideBack. -/
import Derived.Test.YtpmlfidnojcplaaWideV
import Derived.Test.YtpmlfidnojcplaaNearMath
import Derived.Test.YtpmlfidnojcplaaDiv64
namespace Go.Proofs.Ytpmlfidnojcplaa
open Go.RowKit Go.Proofs.Wd
set_option linter.unusedVariables false
set_option linter.unusedSimpArgs false
attribute [local go_sem ↓] Go.wp_at_zero Go.wp_at_succ

theorem rdiv_neg (A D : Int) (hD : 0 < D) : rdiv (-A) D = -rdiv A D := by
  rw [rdiv_pos _ _ hD, rdiv_pos _ _ hD]
  by_cases h : A < 0
  · rw [if_neg (by omega), if_pos h]; omega
  · by_cases h' : A = 0
    · subst h'
      have : rawq 0 D = 0 := by unfold rawq; rw [Int.zero_emod, Int.zero_ediv, if_neg (by omega)]
      simp [this]
    · rw [if_pos (by omega), if_neg h]; simp
theorem rdiv_mul (m n : Int) (hn : n ≠ 0) : rdiv (m * n) n = m := by
  have h0 : 0 < absI n := by unfold absI; split <;> omega
  have ea : absI (m * n) = absI m * absI n := by
    have a0 : 0 ≤ absI m * absI n := Int.mul_nonneg (by unfold absI; split <;> omega) (by omega)
    rw [← sg_mul m n]
    generalize absI m * absI n = p at *
    unfold sg absI
    split <;> split <;> omega
  have hr : absI m * absI n % absI n = 0 := Int.mul_emod_left _ _
  have hq : absI m * absI n / absI n = absI m := Int.mul_ediv_cancel _ (by omega)
  rw [← sg_near2 (m * n) n hn, ea, hr, hq]
  have : nearQ (absI m) 0 (absI n - 0) = absI m := by unfold nearQ; rw [if_neg (by omega)]
  rw [this]
  by_cases z : m = 0
  · subst z; unfold sg absI; simp
  · have ap : apartS (m * n) n = decide (m < 0) := by
      unfold apartS
      by_cases a : m < 0 <;> by_cases b : n < 0
      · have : 0 < m * n := Int.mul_pos_of_neg_of_neg a b
        simp [a, b, show ¬ m * n < 0 from by omega]
      · have : m * n < 0 := Int.mul_neg_of_neg_of_pos a (by omega)
        simp [a, b, this]
      · have : m * n < 0 := Int.mul_neg_of_pos_of_neg (by omega) b
        simp [a, b, this]
      · have : 0 < m * n := Int.mul_pos (by omega) (by omega)
        simp [a, b, show ¬ m * n < 0 from by omega]
    rw [ap]; unfold sg absI
    by_cases a : m < 0 <;> simp [a]

set_option maxHeartbeats 400000 in
theorem pick128 (k : Int) (hk : I64 k) (w : World) :
    Calls Try.prog 28 #[.int .i64 k, .int .i64 128] w fun e w' => ∃ b, e = .returned (.int .i64 b) ∧ (0 ≤ b ∧ b ≤ 127) ∧ Grown w w' := by
  unfold I64 at hk
  have t1 : k.tmod 128 = if 0 ≤ k then k % 128 else -((-k) % 128) := by
    split
    · exact Int.tmod_eq_emod_of_nonneg (by omega)
    · rename_i h
      have : k = -(-k) := by omega
      rw [this, Int.neg_tmod, Int.tmod_eq_emod_of_nonneg (by omega)]; simp
  have t2 : -127 ≤ k.tmod 128 := by rw [t1]; split <;> omega
  have t3 : k.tmod 128 ≤ 127 := by rw [t1]; split <;> omega
  clear t1
  by_cases c : k.tmod 128 < 0
  · go_enter Try.func28, Try.ntmps28
    go_wp2
    go_ret
    exact ⟨_, rfl, by omega, Grown.refl _⟩
  · go_enter Try.func28, Try.ntmps28
    go_wp2
    go_ret
    exact ⟨_, rfl, by omega, Grown.refl _⟩

set_option maxHeartbeats 4000000 in
set_option maxRecDepth 100000 in
theorem backFZM (m n k A x : Int) (cut : Bool) (m0 : -9223372036854775807 ≤ m) (m1 : m = x) (m2 : cut = false) (n0 : n = 0) (a1 : (hiOf A == -9223372036854775808) = true) (a2 : (loOf A == 0) = true) (hm : I64 m) (hn : I64 n) (hk : I64 k) (HA : Hid (wrapW A = A)) (w : World)
    (FT : Hid (∀ w, Calls Try.prog 24 #[.agg #[.int .i64 (hiOf m), .int .u64 (loOf m)]] w fun e w' => e = .returned (.tuple #[.int .i64 x, .bool cut]) ∧ Grown w w')) :
    Calls Try.prog 7 #[.int .i64 m, .int .i64 n, .int .i64 k, .agg #[.int .i64 (hiOf A), .int .u64 (loOf A)]] w fun e w' => e = .returned (.bool true) ∧ Grown w w' := by
  subst m1 m2
  subst n0
  go_enter Try.func7, Try.ntmps7
  go_wp2_with fail
  refine (lawAwake _).mono ?_
  rintro e w1 ⟨rfl, h1⟩
  obtain ⟨a10, a11⟩ := gat2 h1 (w.heap.size) (.int .i64 (hiOf (A))) (.int .u64 (loOf (A))) (by constructor <;> simp [go_sem, *])
  have g1 : Grown w w1 := gtrans (Grown.alloc (Grown.refl _) _ _) h1
  clear h1
  go_wp2_with fail
  refine (wideOf m hm _).mono ?_
  rintro e w2 ⟨rfl, h2⟩
  obtain ⟨a20, a21⟩ := gat2 h2 (w.heap.size) (.int .i64 (hiOf (A))) (.int .u64 (loOf (A))) (by constructor <;> simp [go_sem, *])
  have g2 : Grown w w2 := gtrans g1 h2
  clear h2 g1 a10 a11
  go_wp2_with fail
  refine (unhide FT _).mono ?_
  rintro e w3 ⟨rfl, h3⟩
  obtain ⟨a30, a31⟩ := gat2 h3 (w.heap.size) (.int .i64 (hiOf (A))) (.int .u64 (loOf (A))) (by constructor <;> simp [go_sem, *])
  have g3 : Grown w w3 := gtrans g2 h3
  clear h3 g2 a20 a21
  have a60 := a30; have a61 := a31; have g6 := g3
  clear a30 a31 g3
  go_wp2
  go_ret
  exact ⟨rfl, g6⟩

set_option maxHeartbeats 4000000 in
set_option maxRecDepth 100000 in
theorem backFZH (m n k A x : Int) (cut : Bool) (m0 : -9223372036854775807 ≤ m) (m1 : m = x) (m2 : cut = false) (n0 : n = 0) (a1 : (hiOf A == -9223372036854775808) = false) (HNA : Hid (wrapW (-A) = -A)) (hm : I64 m) (hn : I64 n) (hk : I64 k) (HA : Hid (wrapW A = A)) (w : World)
    (FT : Hid (∀ w, Calls Try.prog 24 #[.agg #[.int .i64 (hiOf m), .int .u64 (loOf m)]] w fun e w' => e = .returned (.tuple #[.int .i64 x, .bool cut]) ∧ Grown w w')) :
    Calls Try.prog 7 #[.int .i64 m, .int .i64 n, .int .i64 k, .agg #[.int .i64 (hiOf A), .int .u64 (loOf A)]] w fun e w' => e = .returned (.bool true) ∧ Grown w w' := by
  subst m1 m2
  subst n0
  go_enter Try.func7, Try.ntmps7
  go_wp2_with fail
  refine (lawAwake _).mono ?_
  rintro e w1 ⟨rfl, h1⟩
  obtain ⟨a10, a11⟩ := gat2 h1 (w.heap.size) (.int .i64 (hiOf (A))) (.int .u64 (loOf (A))) (by constructor <;> simp [go_sem, *])
  have g1 : Grown w w1 := gtrans (Grown.alloc (Grown.refl _) _ _) h1
  clear h1
  go_wp2_with fail
  refine (wideOf m hm _).mono ?_
  rintro e w2 ⟨rfl, h2⟩
  obtain ⟨a20, a21⟩ := gat2 h2 (w.heap.size) (.int .i64 (hiOf (A))) (.int .u64 (loOf (A))) (by constructor <;> simp [go_sem, *])
  have g2 : Grown w w2 := gtrans g1 h2
  clear h2 g1 a10 a11
  go_wp2_with fail
  refine (unhide FT _).mono ?_
  rintro e w3 ⟨rfl, h3⟩
  obtain ⟨a30, a31⟩ := gat2 h3 (w.heap.size) (.int .i64 (hiOf (A))) (.int .u64 (loOf (A))) (by constructor <;> simp [go_sem, *])
  have g3 : Grown w w3 := gtrans g2 h3
  clear h3 g2 a20 a21
  have a60 := a30; have a61 := a31; have g6 := g3
  clear a30 a31 g3
  go_wp2_with fail
  refine (pick128 k hk _).mono ?_
  rintro e w7 ⟨b, rfl, ⟨b0, b1⟩, h7⟩
  obtain ⟨a70, a71⟩ := gat2 h7 (w.heap.size) (.int .i64 (hiOf (A))) (.int .u64 (loOf (A))) (by constructor <;> simp [go_sem, *])
  have g7 : Grown w w7 := gtrans g6 h7
  clear h7 g6 a60 a61
  have R1 := hide (fun w => roundV A b b0 b1 w)
  have R2 := hide (fun w => roundV (-A) b b0 b1 w)
  rw [unhide HA] at R1
  rw [unhide HNA] at R2
  have HR := hide (rdiv_neg A (2 ^ b.toNat) (pow2_pos b.toNat))
  rw [unhide HR] at R2
  obtain ⟨X, hX⟩ : ∃ X, rdiv A (2 ^ b.toNat) = X := ⟨_, rfl⟩
  rw [hX] at R1 R2
  clear hX HR
  go_wp2_with fail
  refine (unhide R1 _).mono ?_
  rintro e w8 ⟨rfl, h8⟩
  obtain ⟨a80, a81⟩ := gat2 h8 (w.heap.size) (.int .i64 (hiOf (A))) (.int .u64 (loOf (A))) (by constructor <;> simp [go_sem, *])
  have g8 : Grown w w8 := gtrans g7 h8
  clear h8 g7 a70 a71
  have l8 := heap_gt a80
  go_wp2_with fail
  refine (negV _ _).mono ?_
  rintro e w10 ⟨rfl, h10⟩
  obtain ⟨p100, p101⟩ := gat2 h10 (w8.heap.size) (.int .i64 (hiOf (X))) (.int .u64 (loOf (X))) (by constructor <;> simp [go_sem, *])
  have g10 : Grown w w10 := gtrans (g8.alloc _ _) h10
  clear h10 g8 a80 a81
  have l10 := heap_gt p100
  go_wp2_with fail
  refine (unhide R2 _).mono ?_
  rintro e w11 ⟨rfl, h11⟩
  obtain ⟨p110, p111⟩ := gat2 h11 (w8.heap.size) (.int .i64 (hiOf (X))) (.int .u64 (loOf (X))) (by constructor <;> simp [go_sem, *])
  have g11 : Grown w w11 := gtrans g10 h11
  clear h11 g10 p100 p101
  have l11 := heap_gt p110
  go_wp2
  go_region_held3 (fun w' => w'.cell? ⟨w8.heap.size, 0, none⟩ = some (.int .i64 (hiOf (X))) ∧ w'.cell? ⟨w8.heap.size, 1, none⟩ = some (.int .u64 (loOf (X))) ∧ w'.cell? ⟨w11.heap.size, 0, none⟩ = some (.int .i64 (hiOf (-X))) ∧ w'.cell? ⟨w11.heap.size, 1, none⟩ = some (.int .u64 (loOf (-X))) ∧ Grown w w')
    (first | exact keep2 hg9 (by assumption) | (refine ⟨?_, ?_, ?_, ?_, Grown.drew (Grown.alloc g11 _ _)⟩ <;> simp [go_sem, *]))
    (first | (go_at_call 13; refine (negV _ _).mono ?_; rintro e w9 ⟨rfl, hg9⟩))
  have hgw9 : Grown w w9 := (keep2 (Grown.refl w9) (by assumption)).2.2.2.2
  go_wp2
  go_ret
  exact ⟨rfl, hgw9⟩

set_option maxHeartbeats 4000000 in
set_option maxRecDepth 100000 in
theorem backFZL (m n k A x : Int) (cut : Bool) (m0 : -9223372036854775807 ≤ m) (m1 : m = x) (m2 : cut = false) (n0 : n = 0) (a1 : (hiOf A == -9223372036854775808) = true) (a2 : (loOf A == 0) = false) (HNA : Hid (wrapW (-A) = -A)) (hm : I64 m) (hn : I64 n) (hk : I64 k) (HA : Hid (wrapW A = A)) (w : World)
    (FT : Hid (∀ w, Calls Try.prog 24 #[.agg #[.int .i64 (hiOf m), .int .u64 (loOf m)]] w fun e w' => e = .returned (.tuple #[.int .i64 x, .bool cut]) ∧ Grown w w')) :
    Calls Try.prog 7 #[.int .i64 m, .int .i64 n, .int .i64 k, .agg #[.int .i64 (hiOf A), .int .u64 (loOf A)]] w fun e w' => e = .returned (.bool true) ∧ Grown w w' := by
  subst m1 m2
  subst n0
  go_enter Try.func7, Try.ntmps7
  go_wp2_with fail
  refine (lawAwake _).mono ?_
  rintro e w1 ⟨rfl, h1⟩
  obtain ⟨a10, a11⟩ := gat2 h1 (w.heap.size) (.int .i64 (hiOf (A))) (.int .u64 (loOf (A))) (by constructor <;> simp [go_sem, *])
  have g1 : Grown w w1 := gtrans (Grown.alloc (Grown.refl _) _ _) h1
  clear h1
  go_wp2_with fail
  refine (wideOf m hm _).mono ?_
  rintro e w2 ⟨rfl, h2⟩
  obtain ⟨a20, a21⟩ := gat2 h2 (w.heap.size) (.int .i64 (hiOf (A))) (.int .u64 (loOf (A))) (by constructor <;> simp [go_sem, *])
  have g2 : Grown w w2 := gtrans g1 h2
  clear h2 g1 a10 a11
  go_wp2_with fail
  refine (unhide FT _).mono ?_
  rintro e w3 ⟨rfl, h3⟩
  obtain ⟨a30, a31⟩ := gat2 h3 (w.heap.size) (.int .i64 (hiOf (A))) (.int .u64 (loOf (A))) (by constructor <;> simp [go_sem, *])
  have g3 : Grown w w3 := gtrans g2 h3
  clear h3 g2 a20 a21
  have a60 := a30; have a61 := a31; have g6 := g3
  clear a30 a31 g3
  go_wp2_with fail
  refine (pick128 k hk _).mono ?_
  rintro e w7 ⟨b, rfl, ⟨b0, b1⟩, h7⟩
  obtain ⟨a70, a71⟩ := gat2 h7 (w.heap.size) (.int .i64 (hiOf (A))) (.int .u64 (loOf (A))) (by constructor <;> simp [go_sem, *])
  have g7 : Grown w w7 := gtrans g6 h7
  clear h7 g6 a60 a61
  have R1 := hide (fun w => roundV A b b0 b1 w)
  have R2 := hide (fun w => roundV (-A) b b0 b1 w)
  rw [unhide HA] at R1
  rw [unhide HNA] at R2
  have HR := hide (rdiv_neg A (2 ^ b.toNat) (pow2_pos b.toNat))
  rw [unhide HR] at R2
  obtain ⟨X, hX⟩ : ∃ X, rdiv A (2 ^ b.toNat) = X := ⟨_, rfl⟩
  rw [hX] at R1 R2
  clear hX HR
  go_wp2_with fail
  refine (unhide R1 _).mono ?_
  rintro e w8 ⟨rfl, h8⟩
  obtain ⟨a80, a81⟩ := gat2 h8 (w.heap.size) (.int .i64 (hiOf (A))) (.int .u64 (loOf (A))) (by constructor <;> simp [go_sem, *])
  have g8 : Grown w w8 := gtrans g7 h8
  clear h8 g7 a70 a71
  have l8 := heap_gt a80
  go_wp2_with fail
  refine (negV _ _).mono ?_
  rintro e w10 ⟨rfl, h10⟩
  obtain ⟨p100, p101⟩ := gat2 h10 (w8.heap.size) (.int .i64 (hiOf (X))) (.int .u64 (loOf (X))) (by constructor <;> simp [go_sem, *])
  have g10 : Grown w w10 := gtrans (g8.alloc _ _) h10
  clear h10 g8 a80 a81
  have l10 := heap_gt p100
  go_wp2_with fail
  refine (unhide R2 _).mono ?_
  rintro e w11 ⟨rfl, h11⟩
  obtain ⟨p110, p111⟩ := gat2 h11 (w8.heap.size) (.int .i64 (hiOf (X))) (.int .u64 (loOf (X))) (by constructor <;> simp [go_sem, *])
  have g11 : Grown w w11 := gtrans g10 h11
  clear h11 g10 p100 p101
  have l11 := heap_gt p110
  go_wp2
  go_region_held3 (fun w' => w'.cell? ⟨w8.heap.size, 0, none⟩ = some (.int .i64 (hiOf (X))) ∧ w'.cell? ⟨w8.heap.size, 1, none⟩ = some (.int .u64 (loOf (X))) ∧ w'.cell? ⟨w11.heap.size, 0, none⟩ = some (.int .i64 (hiOf (-X))) ∧ w'.cell? ⟨w11.heap.size, 1, none⟩ = some (.int .u64 (loOf (-X))) ∧ Grown w w')
    (first | exact keep2 hg9 (by assumption) | (refine ⟨?_, ?_, ?_, ?_, Grown.drew (Grown.alloc g11 _ _)⟩ <;> simp [go_sem, *]))
    (first | (go_at_call 13; refine (negV _ _).mono ?_; rintro e w9 ⟨rfl, hg9⟩))
  have hgw9 : Grown w w9 := (keep2 (Grown.refl w9) (by assumption)).2.2.2.2
  go_wp2
  go_ret
  exact ⟨rfl, hgw9⟩

set_option maxHeartbeats 4000000 in
set_option maxRecDepth 100000 in
theorem backFNM (m n k A x : Int) (cut : Bool) (m0 : -9223372036854775807 ≤ m) (m1 : m = x) (m2 : cut = false) (DV : Hid (∀ w, Calls Try.prog 22 #[.agg #[.int .i64 (hiOf (m * n)), .int .u64 (loOf (m * n))], .int .i64 n] w fun e w' => e = .returned (.tuple #[.agg #[.int .i64 (hiOf m), .int .u64 (loOf m)], .int .i64 0]) ∧ Grown w w')) (n1 : (n == 0) = false) (a1 : (hiOf A == -9223372036854775808) = true) (a2 : (loOf A == 0) = true) (hm : I64 m) (hn : I64 n) (hk : I64 k) (HA : Hid (wrapW A = A)) (w : World)
    (FT : Hid (∀ w, Calls Try.prog 24 #[.agg #[.int .i64 (hiOf m), .int .u64 (loOf m)]] w fun e w' => e = .returned (.tuple #[.int .i64 x, .bool cut]) ∧ Grown w w')) :
    Calls Try.prog 7 #[.int .i64 m, .int .i64 n, .int .i64 k, .agg #[.int .i64 (hiOf A), .int .u64 (loOf A)]] w fun e w' => e = .returned (.bool true) ∧ Grown w w' := by
  subst m1 m2
  go_enter Try.func7, Try.ntmps7
  go_wp2_with fail
  refine (lawAwake _).mono ?_
  rintro e w1 ⟨rfl, h1⟩
  obtain ⟨a10, a11⟩ := gat2 h1 (w.heap.size) (.int .i64 (hiOf (A))) (.int .u64 (loOf (A))) (by constructor <;> simp [go_sem, *])
  have g1 : Grown w w1 := gtrans (Grown.alloc (Grown.refl _) _ _) h1
  clear h1
  go_wp2_with fail
  refine (wideOf m hm _).mono ?_
  rintro e w2 ⟨rfl, h2⟩
  obtain ⟨a20, a21⟩ := gat2 h2 (w.heap.size) (.int .i64 (hiOf (A))) (.int .u64 (loOf (A))) (by constructor <;> simp [go_sem, *])
  have g2 : Grown w w2 := gtrans g1 h2
  clear h2 g1 a10 a11
  go_wp2_with fail
  refine (unhide FT _).mono ?_
  rintro e w3 ⟨rfl, h3⟩
  obtain ⟨a30, a31⟩ := gat2 h3 (w.heap.size) (.int .i64 (hiOf (A))) (.int .u64 (loOf (A))) (by constructor <;> simp [go_sem, *])
  have g3 : Grown w w3 := gtrans g2 h3
  clear h3 g2 a20 a21
  go_wp2_with fail
  refine (wideMul m n hm hn _).mono ?_
  rintro e w4 ⟨rfl, h4⟩
  obtain ⟨a40, a41⟩ := gat2 h4 (w.heap.size) (.int .i64 (hiOf (A))) (.int .u64 (loOf (A))) (by constructor <;> simp [go_sem, *])
  have g4 : Grown w w4 := gtrans g3 h4
  clear h4 g3 a30 a31
  go_wp2_with fail
  refine (unhide DV _).mono ?_
  rintro e w5 ⟨rfl, h5⟩
  obtain ⟨a50, a51⟩ := gat2 h5 (w.heap.size) (.int .i64 (hiOf (A))) (.int .u64 (loOf (A))) (by constructor <;> simp [go_sem, *])
  have g5 : Grown w w5 := gtrans g4 h5
  clear h5 g4 a40 a41
  have l5 := heap_gt a50
  go_wp2
  go_region_held3 (fun w' => w'.cell? ⟨w5.heap.size, 0, none⟩ = some (.int .i64 (hiOf (m))) ∧ w'.cell? ⟨w5.heap.size, 1, none⟩ = some (.int .u64 (loOf (m))) ∧ w'.cell? ⟨w.heap.size, 0, none⟩ = some (.int .i64 (hiOf (A))) ∧ w'.cell? ⟨w.heap.size, 1, none⟩ = some (.int .u64 (loOf (A))) ∧ Grown w w')
    (first | exact keep2 hg9 (by assumption) | (refine ⟨?_, ?_, ?_, ?_, Grown.drew (Grown.alloc g5 _ _)⟩ <;> simp [go_sem, *]))
    (first | (go_at_call 9; refine (wideOf m hm _).mono ?_; rintro e w9 ⟨rfl, hg9⟩))
  obtain ⟨-, -, a60, a61, g6⟩ := keep2 (Grown.refl w9) (by assumption)
  clear a50 a51 g5 hg9 l5
  go_wp2
  go_ret
  exact ⟨rfl, g6⟩

set_option maxHeartbeats 4000000 in
set_option maxRecDepth 100000 in
theorem backFNH (m n k A x : Int) (cut : Bool) (m0 : -9223372036854775807 ≤ m) (m1 : m = x) (m2 : cut = false) (DV : Hid (∀ w, Calls Try.prog 22 #[.agg #[.int .i64 (hiOf (m * n)), .int .u64 (loOf (m * n))], .int .i64 n] w fun e w' => e = .returned (.tuple #[.agg #[.int .i64 (hiOf m), .int .u64 (loOf m)], .int .i64 0]) ∧ Grown w w')) (n1 : (n == 0) = false) (a1 : (hiOf A == -9223372036854775808) = false) (HNA : Hid (wrapW (-A) = -A)) (hm : I64 m) (hn : I64 n) (hk : I64 k) (HA : Hid (wrapW A = A)) (w : World)
    (FT : Hid (∀ w, Calls Try.prog 24 #[.agg #[.int .i64 (hiOf m), .int .u64 (loOf m)]] w fun e w' => e = .returned (.tuple #[.int .i64 x, .bool cut]) ∧ Grown w w')) :
    Calls Try.prog 7 #[.int .i64 m, .int .i64 n, .int .i64 k, .agg #[.int .i64 (hiOf A), .int .u64 (loOf A)]] w fun e w' => e = .returned (.bool true) ∧ Grown w w' := by
  subst m1 m2
  go_enter Try.func7, Try.ntmps7
  go_wp2_with fail
  refine (lawAwake _).mono ?_
  rintro e w1 ⟨rfl, h1⟩
  obtain ⟨a10, a11⟩ := gat2 h1 (w.heap.size) (.int .i64 (hiOf (A))) (.int .u64 (loOf (A))) (by constructor <;> simp [go_sem, *])
  have g1 : Grown w w1 := gtrans (Grown.alloc (Grown.refl _) _ _) h1
  clear h1
  go_wp2_with fail
  refine (wideOf m hm _).mono ?_
  rintro e w2 ⟨rfl, h2⟩
  obtain ⟨a20, a21⟩ := gat2 h2 (w.heap.size) (.int .i64 (hiOf (A))) (.int .u64 (loOf (A))) (by constructor <;> simp [go_sem, *])
  have g2 : Grown w w2 := gtrans g1 h2
  clear h2 g1 a10 a11
  go_wp2_with fail
  refine (unhide FT _).mono ?_
  rintro e w3 ⟨rfl, h3⟩
  obtain ⟨a30, a31⟩ := gat2 h3 (w.heap.size) (.int .i64 (hiOf (A))) (.int .u64 (loOf (A))) (by constructor <;> simp [go_sem, *])
  have g3 : Grown w w3 := gtrans g2 h3
  clear h3 g2 a20 a21
  go_wp2_with fail
  refine (wideMul m n hm hn _).mono ?_
  rintro e w4 ⟨rfl, h4⟩
  obtain ⟨a40, a41⟩ := gat2 h4 (w.heap.size) (.int .i64 (hiOf (A))) (.int .u64 (loOf (A))) (by constructor <;> simp [go_sem, *])
  have g4 : Grown w w4 := gtrans g3 h4
  clear h4 g3 a30 a31
  go_wp2_with fail
  refine (unhide DV _).mono ?_
  rintro e w5 ⟨rfl, h5⟩
  obtain ⟨a50, a51⟩ := gat2 h5 (w.heap.size) (.int .i64 (hiOf (A))) (.int .u64 (loOf (A))) (by constructor <;> simp [go_sem, *])
  have g5 : Grown w w5 := gtrans g4 h5
  clear h5 g4 a40 a41
  have l5 := heap_gt a50
  go_wp2
  go_region_held3 (fun w' => w'.cell? ⟨w5.heap.size, 0, none⟩ = some (.int .i64 (hiOf (m))) ∧ w'.cell? ⟨w5.heap.size, 1, none⟩ = some (.int .u64 (loOf (m))) ∧ w'.cell? ⟨w.heap.size, 0, none⟩ = some (.int .i64 (hiOf (A))) ∧ w'.cell? ⟨w.heap.size, 1, none⟩ = some (.int .u64 (loOf (A))) ∧ Grown w w')
    (first | exact keep2 hg9 (by assumption) | (refine ⟨?_, ?_, ?_, ?_, Grown.drew (Grown.alloc g5 _ _)⟩ <;> simp [go_sem, *]))
    (first | (go_at_call 9; refine (wideOf m hm _).mono ?_; rintro e w9 ⟨rfl, hg9⟩))
  obtain ⟨-, -, a60, a61, g6⟩ := keep2 (Grown.refl w9) (by assumption)
  clear a50 a51 g5 hg9 l5
  go_wp2_with fail
  refine (pick128 k hk _).mono ?_
  rintro e w7 ⟨b, rfl, ⟨b0, b1⟩, h7⟩
  obtain ⟨a70, a71⟩ := gat2 h7 (w.heap.size) (.int .i64 (hiOf (A))) (.int .u64 (loOf (A))) (by constructor <;> simp [go_sem, *])
  have g7 : Grown w w7 := gtrans g6 h7
  clear h7 g6 a60 a61
  have R1 := hide (fun w => roundV A b b0 b1 w)
  have R2 := hide (fun w => roundV (-A) b b0 b1 w)
  rw [unhide HA] at R1
  rw [unhide HNA] at R2
  have HR := hide (rdiv_neg A (2 ^ b.toNat) (pow2_pos b.toNat))
  rw [unhide HR] at R2
  obtain ⟨X, hX⟩ : ∃ X, rdiv A (2 ^ b.toNat) = X := ⟨_, rfl⟩
  rw [hX] at R1 R2
  clear hX HR
  go_wp2_with fail
  refine (unhide R1 _).mono ?_
  rintro e w8 ⟨rfl, h8⟩
  obtain ⟨a80, a81⟩ := gat2 h8 (w.heap.size) (.int .i64 (hiOf (A))) (.int .u64 (loOf (A))) (by constructor <;> simp [go_sem, *])
  have g8 : Grown w w8 := gtrans g7 h8
  clear h8 g7 a70 a71
  have l8 := heap_gt a80
  go_wp2_with fail
  refine (negV _ _).mono ?_
  rintro e w10 ⟨rfl, h10⟩
  obtain ⟨p100, p101⟩ := gat2 h10 (w8.heap.size) (.int .i64 (hiOf (X))) (.int .u64 (loOf (X))) (by constructor <;> simp [go_sem, *])
  have g10 : Grown w w10 := gtrans (g8.alloc _ _) h10
  clear h10 g8 a80 a81
  have l10 := heap_gt p100
  go_wp2_with fail
  refine (unhide R2 _).mono ?_
  rintro e w11 ⟨rfl, h11⟩
  obtain ⟨p110, p111⟩ := gat2 h11 (w8.heap.size) (.int .i64 (hiOf (X))) (.int .u64 (loOf (X))) (by constructor <;> simp [go_sem, *])
  have g11 : Grown w w11 := gtrans g10 h11
  clear h11 g10 p100 p101
  have l11 := heap_gt p110
  go_wp2
  go_region_held3 (fun w' => w'.cell? ⟨w8.heap.size, 0, none⟩ = some (.int .i64 (hiOf (X))) ∧ w'.cell? ⟨w8.heap.size, 1, none⟩ = some (.int .u64 (loOf (X))) ∧ w'.cell? ⟨w11.heap.size, 0, none⟩ = some (.int .i64 (hiOf (-X))) ∧ w'.cell? ⟨w11.heap.size, 1, none⟩ = some (.int .u64 (loOf (-X))) ∧ Grown w w')
    (first | exact keep2 hg9 (by assumption) | (refine ⟨?_, ?_, ?_, ?_, Grown.drew (Grown.alloc g11 _ _)⟩ <;> simp [go_sem, *]))
    (first | (go_at_call 13; refine (negV _ _).mono ?_; rintro e w9 ⟨rfl, hg9⟩))
  have hgw9 : Grown w w9 := (keep2 (Grown.refl w9) (by assumption)).2.2.2.2
  go_wp2
  go_ret
  exact ⟨rfl, hgw9⟩

set_option maxHeartbeats 4000000 in
set_option maxRecDepth 100000 in
theorem backFNL (m n k A x : Int) (cut : Bool) (m0 : -9223372036854775807 ≤ m) (m1 : m = x) (m2 : cut = false) (DV : Hid (∀ w, Calls Try.prog 22 #[.agg #[.int .i64 (hiOf (m * n)), .int .u64 (loOf (m * n))], .int .i64 n] w fun e w' => e = .returned (.tuple #[.agg #[.int .i64 (hiOf m), .int .u64 (loOf m)], .int .i64 0]) ∧ Grown w w')) (n1 : (n == 0) = false) (a1 : (hiOf A == -9223372036854775808) = true) (a2 : (loOf A == 0) = false) (HNA : Hid (wrapW (-A) = -A)) (hm : I64 m) (hn : I64 n) (hk : I64 k) (HA : Hid (wrapW A = A)) (w : World)
    (FT : Hid (∀ w, Calls Try.prog 24 #[.agg #[.int .i64 (hiOf m), .int .u64 (loOf m)]] w fun e w' => e = .returned (.tuple #[.int .i64 x, .bool cut]) ∧ Grown w w')) :
    Calls Try.prog 7 #[.int .i64 m, .int .i64 n, .int .i64 k, .agg #[.int .i64 (hiOf A), .int .u64 (loOf A)]] w fun e w' => e = .returned (.bool true) ∧ Grown w w' := by
  subst m1 m2
  go_enter Try.func7, Try.ntmps7
  go_wp2_with fail
  refine (lawAwake _).mono ?_
  rintro e w1 ⟨rfl, h1⟩
  obtain ⟨a10, a11⟩ := gat2 h1 (w.heap.size) (.int .i64 (hiOf (A))) (.int .u64 (loOf (A))) (by constructor <;> simp [go_sem, *])
  have g1 : Grown w w1 := gtrans (Grown.alloc (Grown.refl _) _ _) h1
  clear h1
  go_wp2_with fail
  refine (wideOf m hm _).mono ?_
  rintro e w2 ⟨rfl, h2⟩
  obtain ⟨a20, a21⟩ := gat2 h2 (w.heap.size) (.int .i64 (hiOf (A))) (.int .u64 (loOf (A))) (by constructor <;> simp [go_sem, *])
  have g2 : Grown w w2 := gtrans g1 h2
  clear h2 g1 a10 a11
  go_wp2_with fail
  refine (unhide FT _).mono ?_
  rintro e w3 ⟨rfl, h3⟩
  obtain ⟨a30, a31⟩ := gat2 h3 (w.heap.size) (.int .i64 (hiOf (A))) (.int .u64 (loOf (A))) (by constructor <;> simp [go_sem, *])
  have g3 : Grown w w3 := gtrans g2 h3
  clear h3 g2 a20 a21
  go_wp2_with fail
  refine (wideMul m n hm hn _).mono ?_
  rintro e w4 ⟨rfl, h4⟩
  obtain ⟨a40, a41⟩ := gat2 h4 (w.heap.size) (.int .i64 (hiOf (A))) (.int .u64 (loOf (A))) (by constructor <;> simp [go_sem, *])
  have g4 : Grown w w4 := gtrans g3 h4
  clear h4 g3 a30 a31
  go_wp2_with fail
  refine (unhide DV _).mono ?_
  rintro e w5 ⟨rfl, h5⟩
  obtain ⟨a50, a51⟩ := gat2 h5 (w.heap.size) (.int .i64 (hiOf (A))) (.int .u64 (loOf (A))) (by constructor <;> simp [go_sem, *])
  have g5 : Grown w w5 := gtrans g4 h5
  clear h5 g4 a40 a41
  have l5 := heap_gt a50
  go_wp2
  go_region_held3 (fun w' => w'.cell? ⟨w5.heap.size, 0, none⟩ = some (.int .i64 (hiOf (m))) ∧ w'.cell? ⟨w5.heap.size, 1, none⟩ = some (.int .u64 (loOf (m))) ∧ w'.cell? ⟨w.heap.size, 0, none⟩ = some (.int .i64 (hiOf (A))) ∧ w'.cell? ⟨w.heap.size, 1, none⟩ = some (.int .u64 (loOf (A))) ∧ Grown w w')
    (first | exact keep2 hg9 (by assumption) | (refine ⟨?_, ?_, ?_, ?_, Grown.drew (Grown.alloc g5 _ _)⟩ <;> simp [go_sem, *]))
    (first | (go_at_call 9; refine (wideOf m hm _).mono ?_; rintro e w9 ⟨rfl, hg9⟩))
  obtain ⟨-, -, a60, a61, g6⟩ := keep2 (Grown.refl w9) (by assumption)
  clear a50 a51 g5 hg9 l5
  go_wp2_with fail
  refine (pick128 k hk _).mono ?_
  rintro e w7 ⟨b, rfl, ⟨b0, b1⟩, h7⟩
  obtain ⟨a70, a71⟩ := gat2 h7 (w.heap.size) (.int .i64 (hiOf (A))) (.int .u64 (loOf (A))) (by constructor <;> simp [go_sem, *])
  have g7 : Grown w w7 := gtrans g6 h7
  clear h7 g6 a60 a61
  have R1 := hide (fun w => roundV A b b0 b1 w)
  have R2 := hide (fun w => roundV (-A) b b0 b1 w)
  rw [unhide HA] at R1
  rw [unhide HNA] at R2
  have HR := hide (rdiv_neg A (2 ^ b.toNat) (pow2_pos b.toNat))
  rw [unhide HR] at R2
  obtain ⟨X, hX⟩ : ∃ X, rdiv A (2 ^ b.toNat) = X := ⟨_, rfl⟩
  rw [hX] at R1 R2
  clear hX HR
  go_wp2_with fail
  refine (unhide R1 _).mono ?_
  rintro e w8 ⟨rfl, h8⟩
  obtain ⟨a80, a81⟩ := gat2 h8 (w.heap.size) (.int .i64 (hiOf (A))) (.int .u64 (loOf (A))) (by constructor <;> simp [go_sem, *])
  have g8 : Grown w w8 := gtrans g7 h8
  clear h8 g7 a70 a71
  have l8 := heap_gt a80
  go_wp2_with fail
  refine (negV _ _).mono ?_
  rintro e w10 ⟨rfl, h10⟩
  obtain ⟨p100, p101⟩ := gat2 h10 (w8.heap.size) (.int .i64 (hiOf (X))) (.int .u64 (loOf (X))) (by constructor <;> simp [go_sem, *])
  have g10 : Grown w w10 := gtrans (g8.alloc _ _) h10
  clear h10 g8 a80 a81
  have l10 := heap_gt p100
  go_wp2_with fail
  refine (unhide R2 _).mono ?_
  rintro e w11 ⟨rfl, h11⟩
  obtain ⟨p110, p111⟩ := gat2 h11 (w8.heap.size) (.int .i64 (hiOf (X))) (.int .u64 (loOf (X))) (by constructor <;> simp [go_sem, *])
  have g11 : Grown w w11 := gtrans g10 h11
  clear h11 g10 p100 p101
  have l11 := heap_gt p110
  go_wp2
  go_region_held3 (fun w' => w'.cell? ⟨w8.heap.size, 0, none⟩ = some (.int .i64 (hiOf (X))) ∧ w'.cell? ⟨w8.heap.size, 1, none⟩ = some (.int .u64 (loOf (X))) ∧ w'.cell? ⟨w11.heap.size, 0, none⟩ = some (.int .i64 (hiOf (-X))) ∧ w'.cell? ⟨w11.heap.size, 1, none⟩ = some (.int .u64 (loOf (-X))) ∧ Grown w w')
    (first | exact keep2 hg9 (by assumption) | (refine ⟨?_, ?_, ?_, ?_, Grown.drew (Grown.alloc g11 _ _)⟩ <;> simp [go_sem, *]))
    (first | (go_at_call 13; refine (negV _ _).mono ?_; rintro e w9 ⟨rfl, hg9⟩))
  have hgw9 : Grown w w9 := (keep2 (Grown.refl w9) (by assumption)).2.2.2.2
  go_wp2
  go_ret
  exact ⟨rfl, hgw9⟩

set_option maxHeartbeats 4000000 in
set_option maxRecDepth 100000 in
theorem backLZM (m n k A x : Int) (cut : Bool) (m0 : m < -9223372036854775807) (n0 : n = 0) (a1 : (hiOf A == -9223372036854775808) = true) (a2 : (loOf A == 0) = true) (hm : I64 m) (hn : I64 n) (hk : I64 k) (HA : Hid (wrapW A = A)) (w : World)
    (FT : Hid (∀ w, Calls Try.prog 24 #[.agg #[.int .i64 (hiOf m), .int .u64 (loOf m)]] w fun e w' => e = .returned (.tuple #[.int .i64 x, .bool cut]) ∧ Grown w w')) :
    Calls Try.prog 7 #[.int .i64 m, .int .i64 n, .int .i64 k, .agg #[.int .i64 (hiOf A), .int .u64 (loOf A)]] w fun e w' => e = .returned (.bool true) ∧ Grown w w' := by
  subst n0
  go_enter Try.func7, Try.ntmps7
  go_wp2_with fail
  refine (lawAwake _).mono ?_
  rintro e w1 ⟨rfl, h1⟩
  obtain ⟨a10, a11⟩ := gat2 h1 (w.heap.size) (.int .i64 (hiOf (A))) (.int .u64 (loOf (A))) (by constructor <;> simp [go_sem, *])
  have g1 : Grown w w1 := gtrans (Grown.alloc (Grown.refl _) _ _) h1
  clear h1
  go_wp2_with fail
  refine (wideOf m hm _).mono ?_
  rintro e w2 ⟨rfl, h2⟩
  obtain ⟨a20, a21⟩ := gat2 h2 (w.heap.size) (.int .i64 (hiOf (A))) (.int .u64 (loOf (A))) (by constructor <;> simp [go_sem, *])
  have g2 : Grown w w2 := gtrans g1 h2
  clear h2 g1 a10 a11
  go_wp2_with fail
  refine (unhide FT _).mono ?_
  rintro e w3 ⟨rfl, h3⟩
  obtain ⟨a30, a31⟩ := gat2 h3 (w.heap.size) (.int .i64 (hiOf (A))) (.int .u64 (loOf (A))) (by constructor <;> simp [go_sem, *])
  have g3 : Grown w w3 := gtrans g2 h3
  clear h3 g2 a20 a21
  have a60 := a30; have a61 := a31; have g6 := g3
  clear a30 a31 g3
  go_wp2
  go_ret
  exact ⟨rfl, g6⟩

set_option maxHeartbeats 4000000 in
set_option maxRecDepth 100000 in
theorem backLZH (m n k A x : Int) (cut : Bool) (m0 : m < -9223372036854775807) (n0 : n = 0) (a1 : (hiOf A == -9223372036854775808) = false) (HNA : Hid (wrapW (-A) = -A)) (hm : I64 m) (hn : I64 n) (hk : I64 k) (HA : Hid (wrapW A = A)) (w : World)
    (FT : Hid (∀ w, Calls Try.prog 24 #[.agg #[.int .i64 (hiOf m), .int .u64 (loOf m)]] w fun e w' => e = .returned (.tuple #[.int .i64 x, .bool cut]) ∧ Grown w w')) :
    Calls Try.prog 7 #[.int .i64 m, .int .i64 n, .int .i64 k, .agg #[.int .i64 (hiOf A), .int .u64 (loOf A)]] w fun e w' => e = .returned (.bool true) ∧ Grown w w' := by
  subst n0
  go_enter Try.func7, Try.ntmps7
  go_wp2_with fail
  refine (lawAwake _).mono ?_
  rintro e w1 ⟨rfl, h1⟩
  obtain ⟨a10, a11⟩ := gat2 h1 (w.heap.size) (.int .i64 (hiOf (A))) (.int .u64 (loOf (A))) (by constructor <;> simp [go_sem, *])
  have g1 : Grown w w1 := gtrans (Grown.alloc (Grown.refl _) _ _) h1
  clear h1
  go_wp2_with fail
  refine (wideOf m hm _).mono ?_
  rintro e w2 ⟨rfl, h2⟩
  obtain ⟨a20, a21⟩ := gat2 h2 (w.heap.size) (.int .i64 (hiOf (A))) (.int .u64 (loOf (A))) (by constructor <;> simp [go_sem, *])
  have g2 : Grown w w2 := gtrans g1 h2
  clear h2 g1 a10 a11
  go_wp2_with fail
  refine (unhide FT _).mono ?_
  rintro e w3 ⟨rfl, h3⟩
  obtain ⟨a30, a31⟩ := gat2 h3 (w.heap.size) (.int .i64 (hiOf (A))) (.int .u64 (loOf (A))) (by constructor <;> simp [go_sem, *])
  have g3 : Grown w w3 := gtrans g2 h3
  clear h3 g2 a20 a21
  have a60 := a30; have a61 := a31; have g6 := g3
  clear a30 a31 g3
  go_wp2_with fail
  refine (pick128 k hk _).mono ?_
  rintro e w7 ⟨b, rfl, ⟨b0, b1⟩, h7⟩
  obtain ⟨a70, a71⟩ := gat2 h7 (w.heap.size) (.int .i64 (hiOf (A))) (.int .u64 (loOf (A))) (by constructor <;> simp [go_sem, *])
  have g7 : Grown w w7 := gtrans g6 h7
  clear h7 g6 a60 a61
  have R1 := hide (fun w => roundV A b b0 b1 w)
  have R2 := hide (fun w => roundV (-A) b b0 b1 w)
  rw [unhide HA] at R1
  rw [unhide HNA] at R2
  have HR := hide (rdiv_neg A (2 ^ b.toNat) (pow2_pos b.toNat))
  rw [unhide HR] at R2
  obtain ⟨X, hX⟩ : ∃ X, rdiv A (2 ^ b.toNat) = X := ⟨_, rfl⟩
  rw [hX] at R1 R2
  clear hX HR
  go_wp2_with fail
  refine (unhide R1 _).mono ?_
  rintro e w8 ⟨rfl, h8⟩
  obtain ⟨a80, a81⟩ := gat2 h8 (w.heap.size) (.int .i64 (hiOf (A))) (.int .u64 (loOf (A))) (by constructor <;> simp [go_sem, *])
  have g8 : Grown w w8 := gtrans g7 h8
  clear h8 g7 a70 a71
  have l8 := heap_gt a80
  go_wp2_with fail
  refine (negV _ _).mono ?_
  rintro e w10 ⟨rfl, h10⟩
  obtain ⟨p100, p101⟩ := gat2 h10 (w8.heap.size) (.int .i64 (hiOf (X))) (.int .u64 (loOf (X))) (by constructor <;> simp [go_sem, *])
  have g10 : Grown w w10 := gtrans (g8.alloc _ _) h10
  clear h10 g8 a80 a81
  have l10 := heap_gt p100
  go_wp2_with fail
  refine (unhide R2 _).mono ?_
  rintro e w11 ⟨rfl, h11⟩
  obtain ⟨p110, p111⟩ := gat2 h11 (w8.heap.size) (.int .i64 (hiOf (X))) (.int .u64 (loOf (X))) (by constructor <;> simp [go_sem, *])
  have g11 : Grown w w11 := gtrans g10 h11
  clear h11 g10 p100 p101
  have l11 := heap_gt p110
  go_wp2
  go_region_held3 (fun w' => w'.cell? ⟨w8.heap.size, 0, none⟩ = some (.int .i64 (hiOf (X))) ∧ w'.cell? ⟨w8.heap.size, 1, none⟩ = some (.int .u64 (loOf (X))) ∧ w'.cell? ⟨w11.heap.size, 0, none⟩ = some (.int .i64 (hiOf (-X))) ∧ w'.cell? ⟨w11.heap.size, 1, none⟩ = some (.int .u64 (loOf (-X))) ∧ Grown w w')
    (first | exact keep2 hg9 (by assumption) | (refine ⟨?_, ?_, ?_, ?_, Grown.drew (Grown.alloc g11 _ _)⟩ <;> simp [go_sem, *]))
    (first | (go_at_call 13; refine (negV _ _).mono ?_; rintro e w9 ⟨rfl, hg9⟩))
  have hgw9 : Grown w w9 := (keep2 (Grown.refl w9) (by assumption)).2.2.2.2
  go_wp2
  go_ret
  exact ⟨rfl, hgw9⟩

set_option maxHeartbeats 4000000 in
set_option maxRecDepth 100000 in
theorem backLZL (m n k A x : Int) (cut : Bool) (m0 : m < -9223372036854775807) (n0 : n = 0) (a1 : (hiOf A == -9223372036854775808) = true) (a2 : (loOf A == 0) = false) (HNA : Hid (wrapW (-A) = -A)) (hm : I64 m) (hn : I64 n) (hk : I64 k) (HA : Hid (wrapW A = A)) (w : World)
    (FT : Hid (∀ w, Calls Try.prog 24 #[.agg #[.int .i64 (hiOf m), .int .u64 (loOf m)]] w fun e w' => e = .returned (.tuple #[.int .i64 x, .bool cut]) ∧ Grown w w')) :
    Calls Try.prog 7 #[.int .i64 m, .int .i64 n, .int .i64 k, .agg #[.int .i64 (hiOf A), .int .u64 (loOf A)]] w fun e w' => e = .returned (.bool true) ∧ Grown w w' := by
  subst n0
  go_enter Try.func7, Try.ntmps7
  go_wp2_with fail
  refine (lawAwake _).mono ?_
  rintro e w1 ⟨rfl, h1⟩
  obtain ⟨a10, a11⟩ := gat2 h1 (w.heap.size) (.int .i64 (hiOf (A))) (.int .u64 (loOf (A))) (by constructor <;> simp [go_sem, *])
  have g1 : Grown w w1 := gtrans (Grown.alloc (Grown.refl _) _ _) h1
  clear h1
  go_wp2_with fail
  refine (wideOf m hm _).mono ?_
  rintro e w2 ⟨rfl, h2⟩
  obtain ⟨a20, a21⟩ := gat2 h2 (w.heap.size) (.int .i64 (hiOf (A))) (.int .u64 (loOf (A))) (by constructor <;> simp [go_sem, *])
  have g2 : Grown w w2 := gtrans g1 h2
  clear h2 g1 a10 a11
  go_wp2_with fail
  refine (unhide FT _).mono ?_
  rintro e w3 ⟨rfl, h3⟩
  obtain ⟨a30, a31⟩ := gat2 h3 (w.heap.size) (.int .i64 (hiOf (A))) (.int .u64 (loOf (A))) (by constructor <;> simp [go_sem, *])
  have g3 : Grown w w3 := gtrans g2 h3
  clear h3 g2 a20 a21
  have a60 := a30; have a61 := a31; have g6 := g3
  clear a30 a31 g3
  go_wp2_with fail
  refine (pick128 k hk _).mono ?_
  rintro e w7 ⟨b, rfl, ⟨b0, b1⟩, h7⟩
  obtain ⟨a70, a71⟩ := gat2 h7 (w.heap.size) (.int .i64 (hiOf (A))) (.int .u64 (loOf (A))) (by constructor <;> simp [go_sem, *])
  have g7 : Grown w w7 := gtrans g6 h7
  clear h7 g6 a60 a61
  have R1 := hide (fun w => roundV A b b0 b1 w)
  have R2 := hide (fun w => roundV (-A) b b0 b1 w)
  rw [unhide HA] at R1
  rw [unhide HNA] at R2
  have HR := hide (rdiv_neg A (2 ^ b.toNat) (pow2_pos b.toNat))
  rw [unhide HR] at R2
  obtain ⟨X, hX⟩ : ∃ X, rdiv A (2 ^ b.toNat) = X := ⟨_, rfl⟩
  rw [hX] at R1 R2
  clear hX HR
  go_wp2_with fail
  refine (unhide R1 _).mono ?_
  rintro e w8 ⟨rfl, h8⟩
  obtain ⟨a80, a81⟩ := gat2 h8 (w.heap.size) (.int .i64 (hiOf (A))) (.int .u64 (loOf (A))) (by constructor <;> simp [go_sem, *])
  have g8 : Grown w w8 := gtrans g7 h8
  clear h8 g7 a70 a71
  have l8 := heap_gt a80
  go_wp2_with fail
  refine (negV _ _).mono ?_
  rintro e w10 ⟨rfl, h10⟩
  obtain ⟨p100, p101⟩ := gat2 h10 (w8.heap.size) (.int .i64 (hiOf (X))) (.int .u64 (loOf (X))) (by constructor <;> simp [go_sem, *])
  have g10 : Grown w w10 := gtrans (g8.alloc _ _) h10
  clear h10 g8 a80 a81
  have l10 := heap_gt p100
  go_wp2_with fail
  refine (unhide R2 _).mono ?_
  rintro e w11 ⟨rfl, h11⟩
  obtain ⟨p110, p111⟩ := gat2 h11 (w8.heap.size) (.int .i64 (hiOf (X))) (.int .u64 (loOf (X))) (by constructor <;> simp [go_sem, *])
  have g11 : Grown w w11 := gtrans g10 h11
  clear h11 g10 p100 p101
  have l11 := heap_gt p110
  go_wp2
  go_region_held3 (fun w' => w'.cell? ⟨w8.heap.size, 0, none⟩ = some (.int .i64 (hiOf (X))) ∧ w'.cell? ⟨w8.heap.size, 1, none⟩ = some (.int .u64 (loOf (X))) ∧ w'.cell? ⟨w11.heap.size, 0, none⟩ = some (.int .i64 (hiOf (-X))) ∧ w'.cell? ⟨w11.heap.size, 1, none⟩ = some (.int .u64 (loOf (-X))) ∧ Grown w w')
    (first | exact keep2 hg9 (by assumption) | (refine ⟨?_, ?_, ?_, ?_, Grown.drew (Grown.alloc g11 _ _)⟩ <;> simp [go_sem, *]))
    (first | (go_at_call 13; refine (negV _ _).mono ?_; rintro e w9 ⟨rfl, hg9⟩))
  have hgw9 : Grown w w9 := (keep2 (Grown.refl w9) (by assumption)).2.2.2.2
  go_wp2
  go_ret
  exact ⟨rfl, hgw9⟩

set_option maxHeartbeats 4000000 in
set_option maxRecDepth 100000 in
theorem backLNM (m n k A x : Int) (cut : Bool) (m0 : m < -9223372036854775807) (DV : Hid (∀ w, Calls Try.prog 22 #[.agg #[.int .i64 (hiOf (m * n)), .int .u64 (loOf (m * n))], .int .i64 n] w fun e w' => e = .returned (.tuple #[.agg #[.int .i64 (hiOf m), .int .u64 (loOf m)], .int .i64 0]) ∧ Grown w w')) (n1 : (n == 0) = false) (a1 : (hiOf A == -9223372036854775808) = true) (a2 : (loOf A == 0) = true) (hm : I64 m) (hn : I64 n) (hk : I64 k) (HA : Hid (wrapW A = A)) (w : World)
    (FT : Hid (∀ w, Calls Try.prog 24 #[.agg #[.int .i64 (hiOf m), .int .u64 (loOf m)]] w fun e w' => e = .returned (.tuple #[.int .i64 x, .bool cut]) ∧ Grown w w')) :
    Calls Try.prog 7 #[.int .i64 m, .int .i64 n, .int .i64 k, .agg #[.int .i64 (hiOf A), .int .u64 (loOf A)]] w fun e w' => e = .returned (.bool true) ∧ Grown w w' := by
  go_enter Try.func7, Try.ntmps7
  go_wp2_with fail
  refine (lawAwake _).mono ?_
  rintro e w1 ⟨rfl, h1⟩
  obtain ⟨a10, a11⟩ := gat2 h1 (w.heap.size) (.int .i64 (hiOf (A))) (.int .u64 (loOf (A))) (by constructor <;> simp [go_sem, *])
  have g1 : Grown w w1 := gtrans (Grown.alloc (Grown.refl _) _ _) h1
  clear h1
  go_wp2_with fail
  refine (wideOf m hm _).mono ?_
  rintro e w2 ⟨rfl, h2⟩
  obtain ⟨a20, a21⟩ := gat2 h2 (w.heap.size) (.int .i64 (hiOf (A))) (.int .u64 (loOf (A))) (by constructor <;> simp [go_sem, *])
  have g2 : Grown w w2 := gtrans g1 h2
  clear h2 g1 a10 a11
  go_wp2_with fail
  refine (unhide FT _).mono ?_
  rintro e w3 ⟨rfl, h3⟩
  obtain ⟨a30, a31⟩ := gat2 h3 (w.heap.size) (.int .i64 (hiOf (A))) (.int .u64 (loOf (A))) (by constructor <;> simp [go_sem, *])
  have g3 : Grown w w3 := gtrans g2 h3
  clear h3 g2 a20 a21
  go_wp2_with fail
  refine (wideMul m n hm hn _).mono ?_
  rintro e w4 ⟨rfl, h4⟩
  obtain ⟨a40, a41⟩ := gat2 h4 (w.heap.size) (.int .i64 (hiOf (A))) (.int .u64 (loOf (A))) (by constructor <;> simp [go_sem, *])
  have g4 : Grown w w4 := gtrans g3 h4
  clear h4 g3 a30 a31
  go_wp2_with fail
  refine (unhide DV _).mono ?_
  rintro e w5 ⟨rfl, h5⟩
  obtain ⟨a50, a51⟩ := gat2 h5 (w.heap.size) (.int .i64 (hiOf (A))) (.int .u64 (loOf (A))) (by constructor <;> simp [go_sem, *])
  have g5 : Grown w w5 := gtrans g4 h5
  clear h5 g4 a40 a41
  have l5 := heap_gt a50
  go_wp2
  go_region_held3 (fun w' => w'.cell? ⟨w5.heap.size, 0, none⟩ = some (.int .i64 (hiOf (m))) ∧ w'.cell? ⟨w5.heap.size, 1, none⟩ = some (.int .u64 (loOf (m))) ∧ w'.cell? ⟨w.heap.size, 0, none⟩ = some (.int .i64 (hiOf (A))) ∧ w'.cell? ⟨w.heap.size, 1, none⟩ = some (.int .u64 (loOf (A))) ∧ Grown w w')
    (first | exact keep2 hg9 (by assumption) | (refine ⟨?_, ?_, ?_, ?_, Grown.drew (Grown.alloc g5 _ _)⟩ <;> simp [go_sem, *]))
    (first | (go_at_call 9; refine (wideOf m hm _).mono ?_; rintro e w9 ⟨rfl, hg9⟩))
  obtain ⟨-, -, a60, a61, g6⟩ := keep2 (Grown.refl w9) (by assumption)
  clear a50 a51 g5 hg9 l5
  go_wp2
  go_ret
  exact ⟨rfl, g6⟩

set_option maxHeartbeats 4000000 in
set_option maxRecDepth 100000 in
theorem backLNH (m n k A x : Int) (cut : Bool) (m0 : m < -9223372036854775807) (DV : Hid (∀ w, Calls Try.prog 22 #[.agg #[.int .i64 (hiOf (m * n)), .int .u64 (loOf (m * n))], .int .i64 n] w fun e w' => e = .returned (.tuple #[.agg #[.int .i64 (hiOf m), .int .u64 (loOf m)], .int .i64 0]) ∧ Grown w w')) (n1 : (n == 0) = false) (a1 : (hiOf A == -9223372036854775808) = false) (HNA : Hid (wrapW (-A) = -A)) (hm : I64 m) (hn : I64 n) (hk : I64 k) (HA : Hid (wrapW A = A)) (w : World)
    (FT : Hid (∀ w, Calls Try.prog 24 #[.agg #[.int .i64 (hiOf m), .int .u64 (loOf m)]] w fun e w' => e = .returned (.tuple #[.int .i64 x, .bool cut]) ∧ Grown w w')) :
    Calls Try.prog 7 #[.int .i64 m, .int .i64 n, .int .i64 k, .agg #[.int .i64 (hiOf A), .int .u64 (loOf A)]] w fun e w' => e = .returned (.bool true) ∧ Grown w w' := by
  go_enter Try.func7, Try.ntmps7
  go_wp2_with fail
  refine (lawAwake _).mono ?_
  rintro e w1 ⟨rfl, h1⟩
  obtain ⟨a10, a11⟩ := gat2 h1 (w.heap.size) (.int .i64 (hiOf (A))) (.int .u64 (loOf (A))) (by constructor <;> simp [go_sem, *])
  have g1 : Grown w w1 := gtrans (Grown.alloc (Grown.refl _) _ _) h1
  clear h1
  go_wp2_with fail
  refine (wideOf m hm _).mono ?_
  rintro e w2 ⟨rfl, h2⟩
  obtain ⟨a20, a21⟩ := gat2 h2 (w.heap.size) (.int .i64 (hiOf (A))) (.int .u64 (loOf (A))) (by constructor <;> simp [go_sem, *])
  have g2 : Grown w w2 := gtrans g1 h2
  clear h2 g1 a10 a11
  go_wp2_with fail
  refine (unhide FT _).mono ?_
  rintro e w3 ⟨rfl, h3⟩
  obtain ⟨a30, a31⟩ := gat2 h3 (w.heap.size) (.int .i64 (hiOf (A))) (.int .u64 (loOf (A))) (by constructor <;> simp [go_sem, *])
  have g3 : Grown w w3 := gtrans g2 h3
  clear h3 g2 a20 a21
  go_wp2_with fail
  refine (wideMul m n hm hn _).mono ?_
  rintro e w4 ⟨rfl, h4⟩
  obtain ⟨a40, a41⟩ := gat2 h4 (w.heap.size) (.int .i64 (hiOf (A))) (.int .u64 (loOf (A))) (by constructor <;> simp [go_sem, *])
  have g4 : Grown w w4 := gtrans g3 h4
  clear h4 g3 a30 a31
  go_wp2_with fail
  refine (unhide DV _).mono ?_
  rintro e w5 ⟨rfl, h5⟩
  obtain ⟨a50, a51⟩ := gat2 h5 (w.heap.size) (.int .i64 (hiOf (A))) (.int .u64 (loOf (A))) (by constructor <;> simp [go_sem, *])
  have g5 : Grown w w5 := gtrans g4 h5
  clear h5 g4 a40 a41
  have l5 := heap_gt a50
  go_wp2
  go_region_held3 (fun w' => w'.cell? ⟨w5.heap.size, 0, none⟩ = some (.int .i64 (hiOf (m))) ∧ w'.cell? ⟨w5.heap.size, 1, none⟩ = some (.int .u64 (loOf (m))) ∧ w'.cell? ⟨w.heap.size, 0, none⟩ = some (.int .i64 (hiOf (A))) ∧ w'.cell? ⟨w.heap.size, 1, none⟩ = some (.int .u64 (loOf (A))) ∧ Grown w w')
    (first | exact keep2 hg9 (by assumption) | (refine ⟨?_, ?_, ?_, ?_, Grown.drew (Grown.alloc g5 _ _)⟩ <;> simp [go_sem, *]))
    (first | (go_at_call 9; refine (wideOf m hm _).mono ?_; rintro e w9 ⟨rfl, hg9⟩))
  obtain ⟨-, -, a60, a61, g6⟩ := keep2 (Grown.refl w9) (by assumption)
  clear a50 a51 g5 hg9 l5
  go_wp2_with fail
  refine (pick128 k hk _).mono ?_
  rintro e w7 ⟨b, rfl, ⟨b0, b1⟩, h7⟩
  obtain ⟨a70, a71⟩ := gat2 h7 (w.heap.size) (.int .i64 (hiOf (A))) (.int .u64 (loOf (A))) (by constructor <;> simp [go_sem, *])
  have g7 : Grown w w7 := gtrans g6 h7
  clear h7 g6 a60 a61
  have R1 := hide (fun w => roundV A b b0 b1 w)
  have R2 := hide (fun w => roundV (-A) b b0 b1 w)
  rw [unhide HA] at R1
  rw [unhide HNA] at R2
  have HR := hide (rdiv_neg A (2 ^ b.toNat) (pow2_pos b.toNat))
  rw [unhide HR] at R2
  obtain ⟨X, hX⟩ : ∃ X, rdiv A (2 ^ b.toNat) = X := ⟨_, rfl⟩
  rw [hX] at R1 R2
  clear hX HR
  go_wp2_with fail
  refine (unhide R1 _).mono ?_
  rintro e w8 ⟨rfl, h8⟩
  obtain ⟨a80, a81⟩ := gat2 h8 (w.heap.size) (.int .i64 (hiOf (A))) (.int .u64 (loOf (A))) (by constructor <;> simp [go_sem, *])
  have g8 : Grown w w8 := gtrans g7 h8
  clear h8 g7 a70 a71
  have l8 := heap_gt a80
  go_wp2_with fail
  refine (negV _ _).mono ?_
  rintro e w10 ⟨rfl, h10⟩
  obtain ⟨p100, p101⟩ := gat2 h10 (w8.heap.size) (.int .i64 (hiOf (X))) (.int .u64 (loOf (X))) (by constructor <;> simp [go_sem, *])
  have g10 : Grown w w10 := gtrans (g8.alloc _ _) h10
  clear h10 g8 a80 a81
  have l10 := heap_gt p100
  go_wp2_with fail
  refine (unhide R2 _).mono ?_
  rintro e w11 ⟨rfl, h11⟩
  obtain ⟨p110, p111⟩ := gat2 h11 (w8.heap.size) (.int .i64 (hiOf (X))) (.int .u64 (loOf (X))) (by constructor <;> simp [go_sem, *])
  have g11 : Grown w w11 := gtrans g10 h11
  clear h11 g10 p100 p101
  have l11 := heap_gt p110
  go_wp2
  go_region_held3 (fun w' => w'.cell? ⟨w8.heap.size, 0, none⟩ = some (.int .i64 (hiOf (X))) ∧ w'.cell? ⟨w8.heap.size, 1, none⟩ = some (.int .u64 (loOf (X))) ∧ w'.cell? ⟨w11.heap.size, 0, none⟩ = some (.int .i64 (hiOf (-X))) ∧ w'.cell? ⟨w11.heap.size, 1, none⟩ = some (.int .u64 (loOf (-X))) ∧ Grown w w')
    (first | exact keep2 hg9 (by assumption) | (refine ⟨?_, ?_, ?_, ?_, Grown.drew (Grown.alloc g11 _ _)⟩ <;> simp [go_sem, *]))
    (first | (go_at_call 13; refine (negV _ _).mono ?_; rintro e w9 ⟨rfl, hg9⟩))
  have hgw9 : Grown w w9 := (keep2 (Grown.refl w9) (by assumption)).2.2.2.2
  go_wp2
  go_ret
  exact ⟨rfl, hgw9⟩

set_option maxHeartbeats 4000000 in
set_option maxRecDepth 100000 in
theorem backLNL (m n k A x : Int) (cut : Bool) (m0 : m < -9223372036854775807) (DV : Hid (∀ w, Calls Try.prog 22 #[.agg #[.int .i64 (hiOf (m * n)), .int .u64 (loOf (m * n))], .int .i64 n] w fun e w' => e = .returned (.tuple #[.agg #[.int .i64 (hiOf m), .int .u64 (loOf m)], .int .i64 0]) ∧ Grown w w')) (n1 : (n == 0) = false) (a1 : (hiOf A == -9223372036854775808) = true) (a2 : (loOf A == 0) = false) (HNA : Hid (wrapW (-A) = -A)) (hm : I64 m) (hn : I64 n) (hk : I64 k) (HA : Hid (wrapW A = A)) (w : World)
    (FT : Hid (∀ w, Calls Try.prog 24 #[.agg #[.int .i64 (hiOf m), .int .u64 (loOf m)]] w fun e w' => e = .returned (.tuple #[.int .i64 x, .bool cut]) ∧ Grown w w')) :
    Calls Try.prog 7 #[.int .i64 m, .int .i64 n, .int .i64 k, .agg #[.int .i64 (hiOf A), .int .u64 (loOf A)]] w fun e w' => e = .returned (.bool true) ∧ Grown w w' := by
  go_enter Try.func7, Try.ntmps7
  go_wp2_with fail
  refine (lawAwake _).mono ?_
  rintro e w1 ⟨rfl, h1⟩
  obtain ⟨a10, a11⟩ := gat2 h1 (w.heap.size) (.int .i64 (hiOf (A))) (.int .u64 (loOf (A))) (by constructor <;> simp [go_sem, *])
  have g1 : Grown w w1 := gtrans (Grown.alloc (Grown.refl _) _ _) h1
  clear h1
  go_wp2_with fail
  refine (wideOf m hm _).mono ?_
  rintro e w2 ⟨rfl, h2⟩
  obtain ⟨a20, a21⟩ := gat2 h2 (w.heap.size) (.int .i64 (hiOf (A))) (.int .u64 (loOf (A))) (by constructor <;> simp [go_sem, *])
  have g2 : Grown w w2 := gtrans g1 h2
  clear h2 g1 a10 a11
  go_wp2_with fail
  refine (unhide FT _).mono ?_
  rintro e w3 ⟨rfl, h3⟩
  obtain ⟨a30, a31⟩ := gat2 h3 (w.heap.size) (.int .i64 (hiOf (A))) (.int .u64 (loOf (A))) (by constructor <;> simp [go_sem, *])
  have g3 : Grown w w3 := gtrans g2 h3
  clear h3 g2 a20 a21
  go_wp2_with fail
  refine (wideMul m n hm hn _).mono ?_
  rintro e w4 ⟨rfl, h4⟩
  obtain ⟨a40, a41⟩ := gat2 h4 (w.heap.size) (.int .i64 (hiOf (A))) (.int .u64 (loOf (A))) (by constructor <;> simp [go_sem, *])
  have g4 : Grown w w4 := gtrans g3 h4
  clear h4 g3 a30 a31
  go_wp2_with fail
  refine (unhide DV _).mono ?_
  rintro e w5 ⟨rfl, h5⟩
  obtain ⟨a50, a51⟩ := gat2 h5 (w.heap.size) (.int .i64 (hiOf (A))) (.int .u64 (loOf (A))) (by constructor <;> simp [go_sem, *])
  have g5 : Grown w w5 := gtrans g4 h5
  clear h5 g4 a40 a41
  have l5 := heap_gt a50
  go_wp2
  go_region_held3 (fun w' => w'.cell? ⟨w5.heap.size, 0, none⟩ = some (.int .i64 (hiOf (m))) ∧ w'.cell? ⟨w5.heap.size, 1, none⟩ = some (.int .u64 (loOf (m))) ∧ w'.cell? ⟨w.heap.size, 0, none⟩ = some (.int .i64 (hiOf (A))) ∧ w'.cell? ⟨w.heap.size, 1, none⟩ = some (.int .u64 (loOf (A))) ∧ Grown w w')
    (first | exact keep2 hg9 (by assumption) | (refine ⟨?_, ?_, ?_, ?_, Grown.drew (Grown.alloc g5 _ _)⟩ <;> simp [go_sem, *]))
    (first | (go_at_call 9; refine (wideOf m hm _).mono ?_; rintro e w9 ⟨rfl, hg9⟩))
  obtain ⟨-, -, a60, a61, g6⟩ := keep2 (Grown.refl w9) (by assumption)
  clear a50 a51 g5 hg9 l5
  go_wp2_with fail
  refine (pick128 k hk _).mono ?_
  rintro e w7 ⟨b, rfl, ⟨b0, b1⟩, h7⟩
  obtain ⟨a70, a71⟩ := gat2 h7 (w.heap.size) (.int .i64 (hiOf (A))) (.int .u64 (loOf (A))) (by constructor <;> simp [go_sem, *])
  have g7 : Grown w w7 := gtrans g6 h7
  clear h7 g6 a60 a61
  have R1 := hide (fun w => roundV A b b0 b1 w)
  have R2 := hide (fun w => roundV (-A) b b0 b1 w)
  rw [unhide HA] at R1
  rw [unhide HNA] at R2
  have HR := hide (rdiv_neg A (2 ^ b.toNat) (pow2_pos b.toNat))
  rw [unhide HR] at R2
  obtain ⟨X, hX⟩ : ∃ X, rdiv A (2 ^ b.toNat) = X := ⟨_, rfl⟩
  rw [hX] at R1 R2
  clear hX HR
  go_wp2_with fail
  refine (unhide R1 _).mono ?_
  rintro e w8 ⟨rfl, h8⟩
  obtain ⟨a80, a81⟩ := gat2 h8 (w.heap.size) (.int .i64 (hiOf (A))) (.int .u64 (loOf (A))) (by constructor <;> simp [go_sem, *])
  have g8 : Grown w w8 := gtrans g7 h8
  clear h8 g7 a70 a71
  have l8 := heap_gt a80
  go_wp2_with fail
  refine (negV _ _).mono ?_
  rintro e w10 ⟨rfl, h10⟩
  obtain ⟨p100, p101⟩ := gat2 h10 (w8.heap.size) (.int .i64 (hiOf (X))) (.int .u64 (loOf (X))) (by constructor <;> simp [go_sem, *])
  have g10 : Grown w w10 := gtrans (g8.alloc _ _) h10
  clear h10 g8 a80 a81
  have l10 := heap_gt p100
  go_wp2_with fail
  refine (unhide R2 _).mono ?_
  rintro e w11 ⟨rfl, h11⟩
  obtain ⟨p110, p111⟩ := gat2 h11 (w8.heap.size) (.int .i64 (hiOf (X))) (.int .u64 (loOf (X))) (by constructor <;> simp [go_sem, *])
  have g11 : Grown w w11 := gtrans g10 h11
  clear h11 g10 p100 p101
  have l11 := heap_gt p110
  go_wp2
  go_region_held3 (fun w' => w'.cell? ⟨w8.heap.size, 0, none⟩ = some (.int .i64 (hiOf (X))) ∧ w'.cell? ⟨w8.heap.size, 1, none⟩ = some (.int .u64 (loOf (X))) ∧ w'.cell? ⟨w11.heap.size, 0, none⟩ = some (.int .i64 (hiOf (-X))) ∧ w'.cell? ⟨w11.heap.size, 1, none⟩ = some (.int .u64 (loOf (-X))) ∧ Grown w w')
    (first | exact keep2 hg9 (by assumption) | (refine ⟨?_, ?_, ?_, ?_, Grown.drew (Grown.alloc g11 _ _)⟩ <;> simp [go_sem, *]))
    (first | (go_at_call 13; refine (negV _ _).mono ?_; rintro e w9 ⟨rfl, hg9⟩))
  have hgw9 : Grown w w9 := (keep2 (Grown.refl w9) (by assumption)).2.2.2.2
  go_wp2
  go_ret
  exact ⟨rfl, hgw9⟩

theorem lawWideBack (m n k ah al : Int) (hm : I64 m) (hn : I64 n) (hk : I64 k) (h1 : I64 ah) (h2 : U64 al) (w : World) :
    Calls Try.prog 7 #[.int .i64 m, .int .i64 n, .int .i64 k, .agg #[.int .i64 ah, .int .u64 al]] w fun e w' => e = .returned (.bool true) ∧ Grown w w' := by
  obtain ⟨A, rfl, rfl, hA⟩ := as_val ah al h1 h2
  have hmW : wrapW m = m := wrapW_in m (by unfold I64 at hm; omega)
  have FT := hide (fun w => fitV m w)
  rw [hmW] at FT
  have DV : n ≠ 0 → Hid (∀ w, Calls Try.prog 22 #[.agg #[.int .i64 (hiOf (m * n)), .int .u64 (loOf (m * n))], .int .i64 n] w fun e w' => e = .returned (.tuple #[.agg #[.int .i64 (hiOf m), .int .u64 (loOf m)], .int .i64 0]) ∧ Grown w w') := fun h0 => by
    have hrg := mul_range m n hm hn
    have hx : wrapW (m * n) = m * n := wrapW_in _ (by omega)
    have hp : 0 < absI n := by unfold absI; split <;> omega
    have q := fun w => wideDiv (hiOf (m * n)) (loOf (m * n)) n (hiOf_I64 _) (loOf_U64 _) hn h0 (div64_all _ _ _ (Int.emod_nonneg _ (by omega)) (Int.emod_lt_of_pos _ hp) (absI_U64 n hn) (loOf_U64 _)) w
    rw [val_of, hx, rdiv_mul m n h0] at q
    exact hide q
  have HA := hide hA
  have rA : -170141183460469231731687303715884105728 ≤ A ∧ A < 170141183460469231731687303715884105728 := by rw [← hA]; unfold wrapW; omega
  have aM : (A = -170141183460469231731687303715884105728) → (hiOf A == -9223372036854775808) = true ∧ (loOf A == 0) = true := fun h => by subst h; decide
  have aN : A ≠ -170141183460469231731687303715884105728 → Hid (wrapW (-A) = -A) := fun h => hide (wrapW_in _ (by omega))
  have aH : A ≠ -170141183460469231731687303715884105728 → (hiOf A == -9223372036854775808) = true → (loOf A == 0) = false := fun h g => by
    have g' : hiOf A = -9223372036854775808 := by simpa using g
    rw [beq_eq_false_iff_ne]; unfold hiOf at g'; unfold loOf; omega
  have fF : -9223372036854775807 ≤ m → fitI m = m ∧ fitB m = false := fun h => by
    unfold I64 at hm; unfold fitI fitB; rw [if_neg (by omega), if_neg (by omega)]; exact ⟨rfl, by simp; omega⟩
  have nB : n ≠ 0 → (n == 0) = false := fun h => by simpa using h
  by_cases c0 : -9223372036854775807 ≤ m <;> by_cases c1 : n = 0 <;> by_cases c2 : A = -170141183460469231731687303715884105728
  · exact backFZM m n k A _ _ c0 (fF c0).1.symm (fF c0).2 c1 (aM c2).1 (aM c2).2 hm hn hk HA w FT
  · by_cases c3 : (hiOf A == -9223372036854775808) = true
    · exact backFZL m n k A _ _ c0 (fF c0).1.symm (fF c0).2 c1 c3 (aH c2 c3) (aN c2) hm hn hk HA w FT
    · exact backFZH m n k A _ _ c0 (fF c0).1.symm (fF c0).2 c1 (by simpa using c3) (aN c2) hm hn hk HA w FT
  · exact backFNM m n k A _ _ c0 (fF c0).1.symm (fF c0).2 (DV c1) (nB c1) (aM c2).1 (aM c2).2 hm hn hk HA w FT
  · by_cases c3 : (hiOf A == -9223372036854775808) = true
    · exact backFNL m n k A _ _ c0 (fF c0).1.symm (fF c0).2 (DV c1) (nB c1) c3 (aH c2 c3) (aN c2) hm hn hk HA w FT
    · exact backFNH m n k A _ _ c0 (fF c0).1.symm (fF c0).2 (DV c1) (nB c1) (by simpa using c3) (aN c2) hm hn hk HA w FT
  · exact backLZM m n k A _ _ (by omega) c1 (aM c2).1 (aM c2).2 hm hn hk HA w FT
  · by_cases c3 : (hiOf A == -9223372036854775808) = true
    · exact backLZL m n k A _ _ (by omega) c1 c3 (aH c2 c3) (aN c2) hm hn hk HA w FT
    · exact backLZH m n k A _ _ (by omega) c1 (by simpa using c3) (aN c2) hm hn hk HA w FT
  · exact backLNM m n k A _ _ (by omega) (DV c1) (nB c1) (aM c2).1 (aM c2).2 hm hn hk HA w FT
  · by_cases c3 : (hiOf A == -9223372036854775808) = true
    · exact backLNL m n k A _ _ (by omega) (DV c1) (nB c1) c3 (aH c2 c3) (aN c2) hm hn hk HA w FT
    · exact backLNH m n k A _ _ (by omega) (DV c1) (nB c1) (by simpa using c3) (aN c2) hm hn hk HA w FT

end Go.Proofs.Ytpmlfidnojcplaa
