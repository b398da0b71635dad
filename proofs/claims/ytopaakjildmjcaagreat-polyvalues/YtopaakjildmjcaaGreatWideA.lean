/- The leaves of package wide and of the document's answer beside it: what each call of Of, Add, Neg and Cmp returns, in whole numbers. -/
import Derived.Test.YtopaakjildmjcaaGreatProg
import Derived.Test.YtopaakjildmjcaaGreatWideMath
import Derived.WalkKit
import Derived.WalkSpells
import Derived.Laws.Externs
import Derived.Shelf.Spec.BitsCarry
namespace Go.Proofs.YtopaakjildmjcaaGreat
open Go.RowKit Go.Proofs.Wd
set_option linter.unusedVariables false
set_option linter.unusedSimpArgs false
set_option maxRecDepth 10000

theorem hide {p : Prop} (h : p) : Hid p := h
theorem unhide {p : Prop} (h : Hid p) : p := h

theorem gtrans {a b c : World} (h : Grown a b) (k : Grown b c) : Grown a c :=
  ⟨World.keptBut_trans h.1 k.1, fun x => (k.2.1 x).trans (h.2.1 x), Nat.le_trans h.2.2 k.2.2⟩
theorem gcell {W w1 : World} (h : Grown W w1) : (∀ b o, b < W.heap.size → w1.cell? ⟨b, o, none⟩ = W.cell? ⟨b, o, none⟩) ∧ (∀ a, w1.frozen? a = W.frozen? a) ∧ W.heap.size ≤ w1.heap.size :=
  ⟨fun _ _ hb => h.1.cell hb (fun f => f), h.2.1, h.2.2⟩

theorem gat {W w1 : World} (h : Grown W w1) {b o : Nat} {v : Value} (hv : W.cell? ⟨b, o, none⟩ = some v) : w1.cell? ⟨b, o, none⟩ = some v := by
  rw [(gcell h).1 b o ?_]
  · exact hv
  · by_cases hb : b < W.heap.size
    · exact hb
    · rw [World.cell?] at hv
      simp [Array.getElem?_eq_none (Nat.le_of_not_lt hb)] at hv

/-- A borrow. -/
def bor (x y : Int) : Int := if x < y then 1 else 0
theorem bor0 (x y : Int) : 0 ≤ bor x y := by unfold bor; split <;> decide
theorem bor1 (x y : Int) : bor x y ≤ 1 := by unfold bor; split <;> decide

theorem add64 (x y c : Int) (hx : 0 ≤ x) (hy : 0 ≤ y) (hc0 : 0 ≤ c) (hc : c ≤ 1) (w : World) : (callFunc 117 #[.int .u64 x, .int .u64 y, .int .u64 c]).run Tryz.prog w =
    .ok (.value (.tuple #[.int .u64 ((x + y + c) % 18446744073709551616), .int .u64 ((x + y + c) / 18446744073709551616)])) w := by
  rw [run_callFunc_extern Tryz.func117 (by kernel_rfl) (by kernel_rfl) (by kernel_rfl) (e := add64Entry) (by kernel_rfl), run_add64 x y c hx hy hc0 hc]
  rfl
theorem add64_0 (x y : Int) (hx : 0 ≤ x) (hy : 0 ≤ y) (w : World) : (callFunc 117 #[.int .u64 x, .int .u64 y, .int .u64 0]).run Tryz.prog w =
    .ok (.value (.tuple #[.int .u64 ((x + y) % 18446744073709551616), .int .u64 ((x + y) / 18446744073709551616)])) w := by
  simpa using add64 x y 0 hx hy (Int.le_refl 0) (by decide) w
theorem sub64 (x y b : Int) (hx : 0 ≤ x) (hy : 0 ≤ y) (hy' : y < 18446744073709551616) (hb0 : 0 ≤ b) (hb : b ≤ 1) (w : World) : (callFunc 147 #[.int .u64 x, .int .u64 y, .int .u64 b]).run Tryz.prog w =
    .ok (.value (.tuple #[.int .u64 ((x - y - b) % 18446744073709551616), .int .u64 (bor x (y + b))])) w := by
  obtain ⟨x, rfl⟩ := Int.eq_ofNat_of_zero_le hx
  obtain ⟨y, rfl⟩ := Int.eq_ofNat_of_zero_le hy
  obtain ⟨b, rfl⟩ := Int.eq_ofNat_of_zero_le hb0
  have e1 : (((x + 18446744073709551616 - y - b) % 18446744073709551616 : Nat) : Int) = ((x : Int) - y - b) % 18446744073709551616 := by omega
  have e2 : ((if x < y + b then 1 else 0 : Nat) : Int) = bor x (y + b) := by unfold bor; split <;> split <;> omega
  rw [← e1, ← e2, run_callFunc_extern Tryz.func147 (by kernel_rfl) (by kernel_rfl) (by kernel_rfl) (e := sub64Entry) (by kernel_rfl), run_sub64 x y b (by omega)]
  rfl
theorem sub64_0 (x y : Int) (hx : 0 ≤ x) (hy : 0 ≤ y) (hy' : y < 18446744073709551616) (w : World) : (callFunc 147 #[.int .u64 x, .int .u64 y, .int .u64 0]).run Tryz.prog w =
    .ok (.value (.tuple #[.int .u64 ((x - y) % 18446744073709551616), .int .u64 (bor x y)])) w := by
  simpa using sub64 x y 0 hx hy hy' (Int.le_refl 0) (by decide) w

theorem uw0 (x : Int) : 0 ≤ IntKind.u64.wrap x := by rw [IntKind.wrap_u64]; omega
theorem uw1 (x : Int) : IntKind.u64.wrap x < 18446744073709551616 := by rw [IntKind.wrap_u64]; omega

set_option maxHeartbeats 400000 in
theorem wideOf (n : Int) (hn : I64 n) (w : World) :
    Calls Tryz.prog 126 #[.int .i64 n] w fun e w' => e = .returned (.agg #[.int .i64 (hiOf n), .int .u64 (loOf n)]) ∧ Grown w w' := by
  go_enter Tryz.func126, Tryz.ntmps126
  go_wp2
  simp [bodyPost, results, Tryz.results126, go_sem]
  unfold I64 at hn
  exact ⟨⟨by unfold hiOf; omega, by rw [IntKind.wrap_u64]; rfl⟩, (Grown.refl _).alloc _ _⟩

set_option maxHeartbeats 400000 in
theorem refOf (n : Int) (hn : I64 n) (w : World) :
    Calls Tryz.prog 109 #[.int .i64 n] w fun e w' => e = .returned (.agg #[.int .i64 (hiOf n), .int .u64 (loOf n)]) ∧ Grown w w' := by
  unfold I64 at hn
  by_cases hs : n < 0
  · go_enter Tryz.func109, Tryz.ntmps109
    go_wp2
    simp [bodyPost, results, Tryz.results109, go_sem]
    exact ⟨⟨by unfold hiOf; omega, by rw [IntKind.wrap_u64]; rfl⟩, (Grown.refl _).alloc _ _⟩
  · go_enter Tryz.func109, Tryz.ntmps109
    go_wp2
    simp [bodyPost, results, Tryz.results109, go_sem]
    exact ⟨⟨by unfold hiOf; omega, by unfold loOf; omega⟩, (Grown.refl _).alloc _ _⟩

set_option maxHeartbeats 400000 in
theorem wideAdd (ah al bh bl : Int) (h1 : I64 ah) (h2 : U64 al) (h3 : I64 bh) (h4 : U64 bl) (w : World) :
    Calls Tryz.prog 96 #[.agg #[.int .i64 ah, .int .u64 al], .agg #[.int .i64 bh, .int .u64 bl]] w fun e w' => e = .returned (.agg #[.int .i64 (hiOf (val ah al + val bh bl)), .int .u64 (loOf (val ah al + val bh bl))]) ∧ Grown w w' := by
  unfold I64 at h1 h3; unfold U64 at h2 h4
  have k0 : 0 ≤ (al + bl) / 18446744073709551616 := by omega
  have k1 : (al + bl) / 18446744073709551616 ≤ 1 := by omega
  go_enter Tryz.func96, Tryz.ntmps96
  go_wp2_with (first | simp only [add64_0 al bl h2.1 h4.1] | simp only [add64 _ _ _ (uw0 ah) (uw0 bh) k0 k1])
  simp [bodyPost, results, Tryz.results96, go_sem]
  exact ⟨⟨by simp only [wrap64, IntKind.wrap_u64]; unfold hiOf val; omega, by unfold loOf val; omega⟩, (((Grown.refl _).alloc _ _).alloc _ _).alloc _ _⟩

set_option maxHeartbeats 400000 in
theorem refAdd (ah al bh bl : Int) (h1 : I64 ah) (h2 : U64 al) (h3 : I64 bh) (h4 : U64 bl) (w : World) :
    Calls Tryz.prog 113 #[.agg #[.int .i64 ah, .int .u64 al], .agg #[.int .i64 bh, .int .u64 bl]] w fun e w' => e = .returned (.agg #[.int .i64 (hiOf (val ah al + val bh bl)), .int .u64 (loOf (val ah al + val bh bl))]) ∧ Grown w w' := by
  unfold I64 at h1 h3; unfold U64 at h2 h4
  by_cases hs : IntKind.u64.wrap (al + bl) < al
  all_goals
    go_enter Tryz.func113, Tryz.ntmps113
    go_wp2
    simp [bodyPost, results, Tryz.results113, go_sem]
    rw [IntKind.wrap_u64] at hs
    exact ⟨⟨by simp only [wrap64, IntKind.wrap_u64]; unfold hiOf val; omega, by rw [IntKind.wrap_u64]; unfold loOf val; omega⟩, (((Grown.refl _).alloc _ _).alloc _ _).alloc _ _⟩

set_option maxHeartbeats 400000 in
theorem wideNeg (ah al : Int) (h1 : I64 ah) (h2 : U64 al) (w : World) :
    Calls Tryz.prog 145 #[.agg #[.int .i64 ah, .int .u64 al]] w fun e w' => e = .returned (.agg #[.int .i64 (hiOf (-val ah al)), .int .u64 (loOf (-val ah al))]) ∧ Grown w w' := by
  unfold I64 at h1; unfold U64 at h2
  have q0 := sub64_0 0 al (Int.le_refl 0) h2.1 h2.2
  have q1 := sub64 0 (IntKind.u64.wrap ah) (bor 0 al) (Int.le_refl 0) (uw0 ah) (uw1 ah) (bor0 _ _) (bor1 _ _)
  have Q0 := hide q0; have Q1 := hide q1; clear q0 q1
  go_enter Tryz.func145, Tryz.ntmps145
  go_wp2_with (first | simp only [unhide Q0] | simp only [unhide Q1])
  simp [bodyPost, results, Tryz.results145, go_sem]
  exact ⟨⟨by simp only [wrap64, IntKind.wrap_u64]; unfold hiOf val bor; split <;> omega, by unfold loOf val; omega⟩, (((Grown.refl _).alloc _ _).alloc _ _)⟩

set_option maxHeartbeats 400000 in
theorem refNeg (ah al : Int) (h1 : I64 ah) (h2 : U64 al) (w : World) :
    Calls Tryz.prog 112 #[.agg #[.int .i64 ah, .int .u64 al]] w fun e w' => e = .returned (.agg #[.int .i64 (hiOf (-val ah al)), .int .u64 (loOf (-val ah al))]) ∧ Grown w w' := by
  unfold I64 at h1; unfold U64 at h2
  go_enter Tryz.func112, Tryz.ntmps112
  go_wp2_with fail
  refine (refAdd _ _ 0 1 (by unfold I64; simp only [wrap64, IntKind.wrap_u64]; omega) (by unfold U64; omega) (by unfold I64; omega) (by unfold U64; omega) _).mono ?_
  rintro e w1 ⟨rfl, hg⟩
  obtain ⟨hc, hf, hz⟩ := gcell hg
  go_wp2
  simp [bodyPost, results, Tryz.results112, go_sem, hc, hz]
  exact ⟨⟨by simp only [wrap64, IntKind.wrap_u64]; unfold hiOf val; omega, by simp only [wrap64, IntKind.wrap_u64]; unfold loOf val; omega⟩, ((gtrans (((Grown.refl _).alloc _ _).alloc _ _) hg).setCell (by simp) _).setCell (by simp) _⟩

theorem ret_int {k : IntKind} {a b : Int} (h : a = b) : Ending.returned (.int k a) = .returned (.int k b) := by rw [h]

set_option maxHeartbeats 400000 in
theorem wideCmp (ah al bh bl : Int) (h1 : I64 ah) (h2 : U64 al) (h3 : I64 bh) (h4 : U64 bl) (w : World) :
    Calls Tryz.prog 124 #[.agg #[.int .i64 ah, .int .u64 al], .agg #[.int .i64 bh, .int .u64 bl]] w fun e w' => e = .returned (.int .i64 (cmpI (val ah al) (val bh bl))) ∧ Grown w w' := by
  unfold I64 at h1 h3; unfold U64 at h2 h4
  by_cases g1 : ah < bh
  · go_enter Tryz.func124, Tryz.ntmps124
    go_wp2
    go_ret
    exact ⟨ret_int (by unfold cmpI val; rw [if_pos (by omega)]), ((Grown.refl _).alloc _ _).alloc _ _⟩
  by_cases g2 : bh < ah
  · go_enter Tryz.func124, Tryz.ntmps124
    go_wp2
    go_ret
    exact ⟨ret_int (by unfold cmpI val; rw [if_neg (by omega), if_neg (by omega)]), ((Grown.refl _).alloc _ _).alloc _ _⟩
  obtain rfl : ah = bh := by omega
  by_cases g3 : al < bl
  · go_enter Tryz.func124, Tryz.ntmps124
    go_wp2
    go_ret
    exact ⟨ret_int (by unfold cmpI val; rw [if_pos (by omega)]), ((Grown.refl _).alloc _ _).alloc _ _⟩
  by_cases g4 : bl < al
  · go_enter Tryz.func124, Tryz.ntmps124
    go_wp2
    go_ret
    exact ⟨ret_int (by unfold cmpI val; rw [if_neg (by omega), if_neg (by omega)]), ((Grown.refl _).alloc _ _).alloc _ _⟩
  obtain rfl : al = bl := by omega
  go_enter Tryz.func124, Tryz.ntmps124
  go_wp2
  go_ret
  exact ⟨ret_int (by unfold cmpI val; rw [if_neg (by omega), if_pos rfl]), ((Grown.refl _).alloc _ _).alloc _ _⟩

set_option maxHeartbeats 400000 in
theorem refCmp (ah al bh bl : Int) (h1 : I64 ah) (h2 : U64 al) (h3 : I64 bh) (h4 : U64 bl) (w : World) :
    Calls Tryz.prog 114 #[.agg #[.int .i64 ah, .int .u64 al], .agg #[.int .i64 bh, .int .u64 bl]] w fun e w' => e = .returned (.int .i64 (cmpI (val ah al) (val bh bl))) ∧ Grown w w' := by
  unfold I64 at h1 h3; unfold U64 at h2 h4
  by_cases g1 : ah < bh
  · go_enter Tryz.func114, Tryz.ntmps114
    go_wp2
    go_ret
    exact ⟨ret_int (by unfold cmpI val; rw [if_pos (by omega)]), ((Grown.refl _).alloc _ _).alloc _ _⟩
  by_cases g2 : bh < ah
  · go_enter Tryz.func114, Tryz.ntmps114
    go_wp2
    go_ret
    exact ⟨ret_int (by unfold cmpI val; rw [if_neg (by omega), if_neg (by omega)]), ((Grown.refl _).alloc _ _).alloc _ _⟩
  obtain rfl : ah = bh := by omega
  by_cases g3 : al < bl
  · go_enter Tryz.func114, Tryz.ntmps114
    go_wp2
    go_ret
    exact ⟨ret_int (by unfold cmpI val; rw [if_pos (by omega)]), ((Grown.refl _).alloc _ _).alloc _ _⟩
  by_cases g4 : bl < al
  · go_enter Tryz.func114, Tryz.ntmps114
    go_wp2
    go_ret
    exact ⟨ret_int (by unfold cmpI val; rw [if_neg (by omega), if_neg (by omega)]), ((Grown.refl _).alloc _ _).alloc _ _⟩
  obtain rfl : al = bl := by omega
  go_enter Tryz.func114, Tryz.ntmps114
  go_wp2
  go_ret
  exact ⟨ret_int (by unfold cmpI val; rw [if_neg (by omega), if_pos rfl]), ((Grown.refl _).alloc _ _).alloc _ _⟩

end Go.Proofs.YtopaakjildmjcaaGreat
