/- Package wide's sizes: what far, signed, sizeOf, less, minus, next, factors, product and Mul return, in whole numbers; math/bits.Mul64 is walked through. -/
import Derived.Test.YtopaakjildmjcaaGreatWideA
import Derived.Test.YtopaakjildmjcaaGreatWideBits
import Derived.Laws.Bits64b
namespace Go.Proofs.YtopaakjildmjcaaGreat
open Go.RowKit Go.Proofs.Wd
set_option linter.unusedVariables false
set_option linter.unusedSimpArgs false
set_option maxRecDepth 10000

/-- math/bits.Mul64, over whole numbers: each product of two 32-bit parts goes under a letter, and the walk reckons with the letters. -/
theorem mul64_letters (x y x1 x0 y1 y0 a b c d : Int) (hx : x / 4294967296 = x1) (hx' : bits .and .u64 x 4294967295 = x0) (hy : y / 4294967296 = y1) (hy' : bits .and .u64 y 4294967295 = y0)
    (ha : x1 * y1 = a) (hb : x1 * y0 = b) (hc : x0 * y1 = c) (hd : x0 * y0 = d) (bx : 0 ≤ x ∧ x < 18446744073709551616) (bw : 0 ≤ y ∧ y < 18446744073709551616)
    (ba : 0 ≤ a ∧ a ≤ 18446744065119617025) (bb : 0 ≤ b ∧ b ≤ 18446744065119617025) (bc : 0 ≤ c ∧ c ≤ 18446744065119617025) (bd : 0 ≤ d ∧ d ≤ 18446744065119617025)
    (hm : bits .and .u64 (b + d / 4294967296) 4294967295 = (b + d / 4294967296) % 4294967296)
    (hs : a + (b + d / 4294967296) / 4294967296 + ((b + d / 4294967296) % 4294967296 + c) / 4294967296 < 18446744073709551616) (w : World) :
    Calls Tryz.prog 122 #[.int .u64 x, .int .u64 y] w fun e w' => e = .returned (.tuple #[.int .u64 (a + (b + d / 4294967296) / 4294967296 + ((b + d / 4294967296) % 4294967296 + c) / 4294967296), .int .u64 (IntKind.u64.wrap (x * y))]) ∧ w' = w := by
  go_enter Tryz.func122, Tryz.ntmps122
  go_wp2
  go_ret2
  exact ⟨rfl, rfl⟩
theorem part_mul (p q : Int) (hp : 0 ≤ p ∧ p ≤ 4294967295) (hq : 0 ≤ q ∧ q ≤ 4294967295) : 0 ≤ p * q ∧ p * q ≤ 18446744065119617025 := by
  have e : p * q ≤ p * 4294967295 := Int.mul_le_mul_of_nonneg_left hq.2 hp.1
  exact ⟨Int.mul_nonneg hp.1 hq.1, by omega⟩
theorem mul64 (x y : Int) (hx : U64 x) (hy : U64 y) (w : World) :
    Calls Tryz.prog 122 #[.int .u64 x, .int .u64 y] w fun e w' => e = .returned (.tuple #[.int .u64 (x * y / 18446744073709551616), .int .u64 (x * y % 18446744073709551616)]) ∧ w' = w := by
  unfold U64 at hx hy
  have ba := part_mul (x / 4294967296) (y / 4294967296) (by omega) (by omega)
  have bb := part_mul (x / 4294967296) (y % 4294967296) (by omega) (by omega)
  have bc := part_mul (x % 4294967296) (y / 4294967296) (by omega) (by omega)
  have bd := part_mul (x % 4294967296) (y % 4294967296) (by omega) (by omega)
  have hxy : x * y = x / 4294967296 * (y / 4294967296) * 18446744073709551616 + (x / 4294967296 * (y % 4294967296) + x % 4294967296 * (y / 4294967296)) * 4294967296 + x % 4294967296 * (y % 4294967296) := by
    have e1 : x = x / 4294967296 * 4294967296 + x % 4294967296 := by omega
    have e2 : y = y / 4294967296 * 4294967296 + y % 4294967296 := by omega
    generalize x / 4294967296 = x1 at *
    generalize x % 4294967296 = x0 at *
    generalize y / 4294967296 = y1 at *
    generalize y % 4294967296 = y0 at *
    rw [e1, e2]; grind
  have q := mul64_letters x y _ _ _ _ _ _ _ _ rfl (mask32 x hx.1 hx.2) rfl (mask32 y hy.1 hy.2) rfl rfl rfl rfl hx hy ba bb bc bd (mask32 _ (by omega) (by omega)) (by omega) w
  rw [IntKind.wrap_u64] at q
  have hh : x / 4294967296 * (y / 4294967296) + (x / 4294967296 * (y % 4294967296) + x % 4294967296 * (y % 4294967296) / 4294967296) / 4294967296 + ((x / 4294967296 * (y % 4294967296) + x % 4294967296 * (y % 4294967296) / 4294967296) % 4294967296 + x % 4294967296 * (y / 4294967296)) / 4294967296 = x * y / 18446744073709551616 := by
    rw [hxy]; omega
  rw [hh] at q
  exact q

set_option maxHeartbeats 400000 in
theorem wideFar (n : Int) (hn : I64 n) (w : World) :
    Calls Tryz.prog 135 #[.int .i64 n] w fun e w' => e = .returned (.int .u64 (absI n)) ∧ Grown w w' := by
  unfold I64 at hn
  by_cases hs : n < 0
  · go_enter Tryz.func135, Tryz.ntmps135
    go_wp2
    go_ret
    exact ⟨ret_int (by simp only [wrap64, IntKind.wrap_u64]; unfold absI; rw [if_pos hs]; omega), Grown.refl _⟩
  · go_enter Tryz.func135, Tryz.ntmps135
    go_wp2
    go_ret
    exact ⟨ret_int (by unfold absI; rw [if_neg (by omega)]), Grown.refl _⟩

set_option maxHeartbeats 400000 in
theorem wideSigned (lo hi : Int) (b : Bool) (h1 : U64 lo) (h2 : U64 hi) (w : World) :
    Calls Tryz.prog 134 #[.agg #[.int .u64 lo, .int .u64 hi], .bool b] w fun e w' => e = .returned (.agg #[.int .i64 (hiOf (sg b (val hi lo))), .int .u64 (loOf (sg b (val hi lo)))]) ∧ Grown w w' := by
  unfold U64 at h1 h2
  cases b
  · go_enter Tryz.func134, Tryz.ntmps134
    go_wp2
    simp [bodyPost, results, Tryz.results134, go_sem]
    exact ⟨⟨by simp only [wrap64]; unfold sg hiOf val; simp only [Bool.false_eq_true, if_false]; omega, by unfold sg loOf val; simp only [Bool.false_eq_true, if_false]; omega⟩, (((Grown.refl _).alloc _ _).alloc _ _).alloc _ _⟩
  · go_enter Tryz.func134, Tryz.ntmps134
    go_wp2_with fail
    refine (wideNeg _ _ (by unfold I64; simp only [wrap64]; omega) (by unfold U64; omega) _).mono ?_
    rintro e w1 ⟨rfl, hg⟩
    obtain ⟨hc, hf, hz⟩ := gcell hg
    go_wp2
    simp [bodyPost, results, Tryz.results134, go_sem, hc]
    exact ⟨⟨by simp only [wrap64]; unfold sg hiOf val; simp only [if_true]; omega, by simp only [wrap64]; unfold sg loOf val; simp only [if_true]; omega⟩, ((gtrans ((((Grown.refl _).alloc _ _).alloc _ _).alloc _ _) hg).setCell (by simp) _).setCell (by simp) _⟩

set_option maxHeartbeats 400000 in
theorem wideSizeOf (ah al : Int) (h1 : I64 ah) (h2 : U64 al) (w : World) :
    Calls Tryz.prog 144 #[.agg #[.int .i64 ah, .int .u64 al]] w fun e w' => e = .returned (.agg #[.int .u64 (loOf (absI (val ah al))), .int .u64 (mhi (absI (val ah al)))]) ∧ Grown w w' := by
  unfold I64 at h1; unfold U64 at h2
  by_cases hs : ah < 0
  · go_enter Tryz.func144, Tryz.ntmps144
    go_wp2_with fail
    refine (wideNeg _ _ (by unfold I64; omega) (by unfold U64; omega) _).mono ?_
    rintro e w1 ⟨rfl, hg⟩
    have c0 := gat hg (b := w.heap.size) (o := 0) (v := .int .i64 ah) (by simp [go_sem])
    have c1 := gat hg (b := w.heap.size) (o := 1) (v := .int .u64 al) (by simp [go_sem])
    have d0 := gat hg (b := w.heap.size + 1) (o := 0) (v := .int .u64 0) (by simp [go_sem])
    have d1 := gat hg (b := w.heap.size + 1) (o := 1) (v := .int .u64 0) (by simp [go_sem])
    obtain ⟨-, hf, -⟩ := gcell hg
    go_wp2
    simp [bodyPost, results, Tryz.results144, go_sem, c0, c1, d0, d1]
    exact ⟨⟨by unfold absI; rw [if_pos (by unfold val; omega)], by simp only [IntKind.wrap_u64]; unfold absI; rw [if_pos (by unfold val; omega)]; unfold hiOf mhi val; omega⟩, ((((gtrans ((((Grown.refl _).alloc _ _).alloc _ _)) hg).setCell (by simp) _).setCell (by simp) _).setCell (by simp) _).setCell (by simp) _⟩
  · go_enter Tryz.func144, Tryz.ntmps144
    go_wp2
    simp [bodyPost, results, Tryz.results144, go_sem]
    exact ⟨⟨by unfold absI; rw [if_neg (by unfold val; omega)]; unfold loOf val; omega, by unfold absI; rw [if_neg (by unfold val; omega)]; unfold mhi val; omega⟩, (((Grown.refl _).alloc _ _).alloc _ _)⟩

set_option maxHeartbeats 400000 in
theorem wideLess (al ah bl bh : Int) (h1 : U64 al) (h2 : U64 ah) (h3 : U64 bl) (h4 : U64 bh) (w : World) :
    Calls Tryz.prog 139 #[.agg #[.int .u64 al, .int .u64 ah], .agg #[.int .u64 bl, .int .u64 bh]] w fun e w' => e = .returned (.bool (decide (val ah al < val bh bl))) ∧ Grown w w' := by
  unfold U64 at h1 h2 h3 h4
  by_cases hs : ah = bh
  · subst hs
    go_enter Tryz.func139, Tryz.ntmps139
    go_wp2
    go_ret
    exact ⟨congrArg (fun b => Ending.returned (.bool b)) (by unfold val; rw [decide_eq_decide]; omega), ((Grown.refl _).alloc _ _).alloc _ _⟩
  · go_enter Tryz.func139, Tryz.ntmps139
    go_wp2
    go_ret
    exact ⟨congrArg (fun b => Ending.returned (.bool b)) (by unfold val; rw [decide_eq_decide]; omega), ((Grown.refl _).alloc _ _).alloc _ _⟩

set_option maxHeartbeats 400000 in
theorem wideMinus (al ah bl bh : Int) (h1 : U64 al) (h2 : U64 ah) (h3 : U64 bl) (h4 : U64 bh) (w : World) :
    Calls Tryz.prog 142 #[.agg #[.int .u64 al, .int .u64 ah], .agg #[.int .u64 bl, .int .u64 bh]] w fun e w' => e = .returned (.agg #[.int .u64 (loOf (val ah al - val bh bl)), .int .u64 (mhi (val ah al - val bh bl))]) ∧ Grown w w' := by
  unfold U64 at h1 h2 h3 h4
  have q0 := sub64_0 al bl h1.1 h3.1 h3.2
  have q1 := sub64 ah bh (bor al bl) h2.1 h4.1 h4.2 (bor0 _ _) (bor1 _ _)
  have Q0 := hide q0; have Q1 := hide q1; clear q0 q1
  go_enter Tryz.func142, Tryz.ntmps142
  go_wp2_with (first | simp only [unhide Q0] | simp only [unhide Q1])
  simp [bodyPost, results, Tryz.results142, go_sem]
  exact ⟨⟨by unfold loOf val; omega, by unfold mhi val bor; split <;> omega⟩, (((Grown.refl _).alloc _ _).alloc _ _).alloc _ _⟩

set_option maxHeartbeats 400000 in
theorem wideNext (al ah : Int) (h1 : U64 al) (h2 : U64 ah) (w : World) :
    Calls Tryz.prog 140 #[.agg #[.int .u64 al, .int .u64 ah]] w fun e w' => e = .returned (.agg #[.int .u64 (loOf (val ah al + 1)), .int .u64 (mhi (val ah al + 1))]) ∧ Grown w w' := by
  unfold U64 at h1 h2
  have q0 := add64_0 al 1 h1.1 (by decide)
  have Q0 := hide q0; clear q0
  go_enter Tryz.func140, Tryz.ntmps140
  go_wp2_with (first | simp only [unhide Q0])
  simp [bodyPost, results, Tryz.results140, go_sem]
  exact ⟨⟨by unfold loOf val; omega, by simp only [IntKind.wrap_u64]; unfold mhi val; omega⟩, (((Grown.refl _).alloc _ _).alloc _ _)⟩

set_option maxHeartbeats 400000 in
theorem wideDown (lo hi n : Int) (h1 : U64 lo) (h2 : U64 hi) (h3 : 0 ≤ n) (h4 : n ≤ 127) (w : World) :
    Calls Tryz.prog 141 #[.agg #[.int .u64 lo, .int .u64 hi], .int .u64 n] w fun e w' => e = .returned (.agg #[.int .u64 (loOf (val hi lo / 2 ^ n.toNat)), .int .u64 (mhi (val hi lo / 2 ^ n.toNat))]) ∧ Grown w w' := by
  by_cases hs : n < 64
  · have Q := hide (down_small hi lo n h1 h2 h3 hs)
    unfold U64 at h1 h2
    go_enter Tryz.func141, Tryz.ntmps141
    go_wp2
    simp [bodyPost, results, Tryz.results141, go_sem]
    exact ⟨unhide Q, ((Grown.refl _).alloc _ _).alloc _ _⟩
  · have Q := hide (down_great hi lo n h1 h2 (by omega))
    unfold U64 at h1 h2
    go_enter Tryz.func141, Tryz.ntmps141
    go_wp2
    simp [bodyPost, results, Tryz.results141, go_sem]
    exact ⟨unhide Q, ((Grown.refl _).alloc _ _).alloc _ _⟩

set_option maxHeartbeats 400000 in
theorem wideUp (lo hi n : Int) (h1 : U64 lo) (h2 : U64 hi) (h3 : 0 ≤ n) (h4 : n ≤ 127) (w : World) :
    Calls Tryz.prog 143 #[.agg #[.int .u64 lo, .int .u64 hi], .int .u64 n] w fun e w' => e = .returned (.agg #[.int .u64 (loOf (val hi lo * 2 ^ n.toNat)), .int .u64 (mhi (val hi lo * 2 ^ n.toNat))]) ∧ Grown w w' := by
  by_cases hs : n < 64
  · have Q := hide (up_small hi lo n h1 h2 h3 hs)
    unfold U64 at h1 h2
    go_enter Tryz.func143, Tryz.ntmps143
    go_wp2
    simp [bodyPost, results, Tryz.results143, go_sem]
    exact ⟨unhide Q, ((Grown.refl _).alloc _ _).alloc _ _⟩
  · have Q := hide (up_great hi lo n h1 h2 (by omega))
    unfold U64 at h1 h2
    go_enter Tryz.func143, Tryz.ntmps143
    go_wp2
    simp [bodyPost, results, Tryz.results143, go_sem]
    exact ⟨unhide Q, ((Grown.refl _).alloc _ _).alloc _ _⟩

set_option maxHeartbeats 400000 in
theorem wideFactors (a b : Int) (h1 : I64 a) (h2 : I64 b) (w : World) :
    Calls Tryz.prog 120 #[.int .i64 a, .int .i64 b] w fun e w' => e = .returned (.tuple #[.int .u64 (absI a), .int .u64 (absI b), .bool (apartS a b)]) ∧ Grown w w' := by
  go_enter Tryz.func120, Tryz.ntmps120
  go_wp2_with fail
  refine (wideFar a h1 _).mono ?_
  rintro e w1 ⟨rfl, hg1⟩
  go_wp2_with fail
  refine (wideFar b h2 _).mono ?_
  rintro e w2 ⟨rfl, hg2⟩
  go_wp2
  go_ret3
  exact ⟨rfl, gtrans hg1 hg2⟩

set_option maxHeartbeats 400000 in
theorem wideProduct (x y : Int) (b : Bool) (h1 : U64 x) (h2 : U64 y) (w : World) :
    Calls Tryz.prog 119 #[.int .u64 x, .int .u64 y, .bool b] w fun e w' => e = .returned (.agg #[.int .i64 (hiOf (sg b (x * y))), .int .u64 (loOf (sg b (x * y)))]) ∧ Grown w w' := by
  have hv : val (x * y / 18446744073709551616) (x * y % 18446744073709551616) = x * y := by unfold val; omega
  have hp0 : 0 ≤ x * y := Int.mul_nonneg h1.1 h2.1
  have hp1 : x * y < 340282366920938463463374607431768211456 := mul_lt x y h1 h2
  have HV := hide hv; clear hv
  have u1 : U64 (x * y / 18446744073709551616) := by unfold U64; omega
  have u2 : U64 (x * y % 18446744073709551616) := by unfold U64; omega
  clear hp0 hp1
  go_enter Tryz.func119, Tryz.ntmps119
  go_wp2_with fail
  refine (mul64 x y h1 h2 _).mono ?_
  rintro e w1 ⟨rfl, rfl⟩
  go_wp2_with fail
  refine (wideSigned _ _ b u2 u1 _).mono ?_
  rintro e w2 ⟨rfl, hg⟩
  rw [unhide HV]
  have c0 := gat hg (b := w.heap.size) (o := 0) (v := .int .i64 0) (by simp [go_sem])
  have c1 := gat hg (b := w.heap.size) (o := 1) (v := .int .u64 0) (by simp [go_sem])
  obtain ⟨-, hf, -⟩ := gcell hg
  go_wp2
  simp [bodyPost, results, Tryz.results119, go_sem, c0, c1]
  exact ((gtrans ((Grown.refl _).alloc _ _) hg).setCell (by simp) _).setCell (by simp) _

set_option maxHeartbeats 400000 in
theorem wideMul (a b : Int) (h1 : I64 a) (h2 : I64 b) (w : World) :
    Calls Tryz.prog 99 #[.int .i64 a, .int .i64 b] w fun e w' => e = .returned (.agg #[.int .i64 (hiOf (a * b)), .int .u64 (loOf (a * b))]) ∧ Grown w w' := by
  have HV := hide (sg_mul a b)
  go_enter Tryz.func99, Tryz.ntmps99
  go_wp2_with fail
  refine (wideFactors a b h1 h2 _).mono ?_
  rintro e w1 ⟨rfl, hg1⟩
  go_wp2_with fail
  refine (wideProduct _ _ _ (absI_U64 a h1) (absI_U64 b h2) _).mono ?_
  rintro e w2 ⟨rfl, hg2⟩
  rw [unhide HV]
  have hg := gtrans hg1 hg2
  have c0 := gat hg (b := w.heap.size) (o := 0) (v := .int .i64 0) (by simp [go_sem])
  have c1 := gat hg (b := w.heap.size) (o := 1) (v := .int .u64 0) (by simp [go_sem])
  obtain ⟨-, hf, -⟩ := gcell hg
  go_wp2
  simp [bodyPost, results, Tryz.results99, go_sem, c0, c1]
  exact ((gtrans ((Grown.refl _).alloc _ _) hg).setCell (by simp) _).setCell (by simp) _

end Go.Proofs.YtopaakjildmjcaaGreat
