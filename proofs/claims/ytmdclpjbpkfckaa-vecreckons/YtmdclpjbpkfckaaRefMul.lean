/- The document's product, by bits, is the product: the loop of its Mul walked. -/
import Derived.Test.YtmdclpjbpkfckaaRefA
namespace Go.Proofs.Ytmdclpjbpkfckaa
open Go.RowKit Go.Proofs.Wd
set_option linter.unusedVariables false
set_option linter.unusedSimpArgs false

/-- What the product has come to when the bits from k on are done. -/
def mulTo (a b : Int) (k : Nat) : Int := if 64 ≤ k then 0 else a * (b / 2 ^ k)
theorem mulTo_zero (a b : Int) : mulTo a b 0 = a * b := by unfold mulTo; simp
theorem half_pow (b : Int) (k : Nat) : b / 2 ^ k = 2 * (b / 2 ^ (k + 1)) + b / 2 ^ k % 2 := by
  have e : b / 2 ^ (k + 1) = b / 2 ^ k / 2 := by rw [Int.ediv_ediv_of_nonneg (Int.le_of_lt (pow2_pos k))]; rw [Int.pow_succ]
  rw [e]; omega
theorem mulTo_top_yes (a b : Int) (h : I64 b) (hb : b / 2 ^ 63 % 2 = 1) : mulTo a b 63 = -a := by
  unfold mulTo; rw [if_neg (by omega)]
  unfold I64 at h
  rw [show b / 2 ^ 63 = -1 from by omega]; omega
theorem mulTo_top_no (a b : Int) (h : I64 b) (hb : ¬ b / 2 ^ 63 % 2 = 1) : mulTo a b 63 = 0 := by
  unfold mulTo; rw [if_neg (by omega)]
  unfold I64 at h
  rw [show b / 2 ^ 63 = 0 from by omega]; omega
theorem mulTo_yes (a b : Int) (k : Nat) (h : k < 63) (hb : b / 2 ^ k % 2 = 1) : mulTo a b k = 2 * mulTo a b (k + 1) + one false + a := by
  unfold mulTo; rw [if_neg (by omega), if_neg (by omega)]
  have := half_pow b k
  rw [hb] at this
  rw [this]; unfold one; simp; grind
theorem mulTo_no (a b : Int) (k : Nat) (h : k < 63) (hb : ¬ b / 2 ^ k % 2 = 1) : mulTo a b k = 2 * mulTo a b (k + 1) + one false := by
  unfold mulTo; rw [if_neg (by omega), if_neg (by omega)]
  have := half_pow b k
  rw [show b / 2 ^ k % 2 = 0 from by omega] at this
  rw [this]; unfold one; simp; grind

theorem mulTo_off (a b : Int) (k : Nat) (hk : k < 64) (h : I64 b) (hb : ¬ b / 2 ^ k % 2 = 1) : mulTo a b k = 2 * mulTo a b (k + 1) + one false := by
  by_cases e : k < 63
  · exact mulTo_no a b k e hb
  · obtain rfl : k = 63 := by omega
    rw [mulTo_top_no a b h hb]; unfold mulTo one; simp

set_option maxHeartbeats 2000000 in
theorem refMul (a b : Int) (h1 : I64 a) (h2 : I64 b) (w : World) :
    Calls Try.prog 83 #[.int .i64 a, .int .i64 b] w fun e w' => e = .returned (.agg #[.int .i64 (hiOf (a * b)), .int .u64 (loOf (a * b))]) ∧ Grown w w' := by
  go_enter Try.func83, Try.ntmps83
  go_wp2_with fail
  refine (refOf a h1 _).mono ?_
  rintro e w1 ⟨rfl, hg1⟩
  go_wp2_with fail
  refine (refOf b h2 _).mono ?_
  rintro e w2 ⟨rfl, hg2⟩
  obtain ⟨r0, r1⟩ := gat2 (gtrans hg1 hg2) w.heap.size (.int .i64 0) (.int .u64 0) (by constructor <;> simp [go_sem])
  have hgw2 : Grown w w2 := gtrans ((Grown.refl _).alloc _ _) (gtrans hg1 hg2)
  clear hg1 hg2
  have l0 := heap_gt r0
  go_wp2
  have u0 : hiOf (mulTo a b 64) = 0 := by unfold mulTo; simp; decide
  have u1 : loOf (mulTo a b 64) = 0 := by unfold mulTo; simp; decide
  have U0 := hide u0; have U1 := hide u1
  clear u0 u1
  go_loopw [8] (fun i wr => ∃ k : Nat, k ≤ 64 ∧ i = .int .i64 ((k : Int) - 1) ∧ (wr.cell? ⟨w.heap.size, 0, none⟩ = some (.int .i64 0) ∧ wr.cell? ⟨w.heap.size, 1, none⟩ = some (.int .u64 0)) ∧ (wr.cell? ⟨w2.heap.size, 0, none⟩ = some (.int .i64 (hiOf a)) ∧ wr.cell? ⟨w2.heap.size, 1, none⟩ = some (.int .u64 (loOf a))) ∧ (wr.cell? ⟨w2.heap.size + 1, 0, none⟩ = some (.int .i64 (hiOf b)) ∧ wr.cell? ⟨w2.heap.size + 1, 1, none⟩ = some (.int .u64 (loOf b))) ∧ (wr.cell? ⟨w2.heap.size + 1 + 1, 0, none⟩ = some (.int .i64 (hiOf (mulTo a b k))) ∧ wr.cell? ⟨w2.heap.size + 1 + 1, 1, none⟩ = some (.int .u64 (loOf (mulTo a b k)))) ∧ Grown w wr) (fun i _ => (intOf i + 1).toNat)
  case atStart =>
    refine ⟨64, by omega, rfl, gat2 ((((Grown.refl w2).alloc _ _).alloc _ _).alloc _ _) _ _ _ ⟨r0, r1⟩, ⟨by simp [go_sem], by simp [go_sem]⟩, ⟨by simp [go_sem], by simp [go_sem]⟩, ⟨?_, ?_⟩, ((hgw2.alloc _ _).alloc _ _).alloc _ _⟩
    · rw [unhide U0]; simp [go_sem]
    · rw [unhide U1]; simp [go_sem]
  case round =>
    obtain ⟨k, hk, rfl, ⟨r0, r1⟩, ⟨x0, x1⟩, ⟨y0, y1⟩, ⟨o0, o1⟩, hgr⟩ := hrel
    have lw : w.heap.size ≤ w2.heap.size := hgw2.2.2
    have m0 : w.heap.size ≠ w2.heap.size + 1 + 1 := by omega
    have m1 : w2.heap.size + 1 + 1 ≠ w.heap.size := by omega
    by_cases hk0 : k = 0
    · subst hk0
      rw [mulTo_zero] at o0 o1
      have f0 := fun o => frz hgr w.heap.size o (by omega)
      go_wp2
      simp [bodyPost, results, Try.results83, go_sem, *]
      exact Grown.setCell (Grown.setCell hgr (by dsimp only; omega) _) (by dsimp only; omega) _
    · obtain ⟨j, rfl⟩ : ∃ j, k = j + 1 := ⟨k - 1, by omega⟩
      rw [show ((j + 1 : Nat) : Int) - 1 = (j : Int) from by omega]
      have BT := hide (fun w => refBit b j (by omega) (by omega) w)
      rw [Int.toNat_natCast] at BT
      clear hk0 U0 U1
      by_cases hb : b / 2 ^ j % 2 = 1
      · rw [show decide (b / 2 ^ j % 2 = 1) = true from by simpa using hb] at BT
        by_cases h63 : j = 63
        · have HV := hide (mulTo_top_yes a b h2 (by rw [← h63]; exact hb))
          subst h63
          clear hb
          go_wp2_with fail
          refine (refTwice _ false _).mono ?_
          rintro e w3 ⟨rfl, hg3⟩
          obtain ⟨r30, r31⟩ := gat2 hg3 (w.heap.size) (.int .i64 0) (.int .u64 0) (by constructor <;> simp [go_sem, *])
          obtain ⟨x30, x31⟩ := gat2 hg3 (w2.heap.size) (.int .i64 (hiOf a)) (.int .u64 (loOf a)) (by constructor <;> simp [go_sem, *])
          obtain ⟨y30, y31⟩ := gat2 hg3 (w2.heap.size + 1) (.int .i64 (hiOf b)) (.int .u64 (loOf b)) (by constructor <;> simp [go_sem, *])
          obtain ⟨o30, o31⟩ := gat2 hg3 (w2.heap.size + 1 + 1) _ _ ⟨o0, o1⟩
          have hgw3 : Grown w w3 := gtrans hgr hg3
          have f3 := fun o => frz hgw3 (w2.heap.size + 1 + 1) o (by have := hgw2.2.2; omega)
          clear hg3 r0 r1 x0 x1 y0 y1 o0 o1 hgr
          go_wp2_with fail
          refine (unhide BT _).mono ?_
          rintro e w4 ⟨rfl, hg4⟩
          obtain ⟨r40, r41⟩ := gat2 hg4 (w.heap.size) (.int .i64 0) (.int .u64 0) (by constructor <;> simp [go_sem, *])
          obtain ⟨x40, x41⟩ := gat2 hg4 (w2.heap.size) (.int .i64 (hiOf a)) (.int .u64 (loOf a)) (by constructor <;> simp [go_sem, *])
          obtain ⟨y40, y41⟩ := gat2 hg4 (w2.heap.size + 1) (.int .i64 (hiOf b)) (.int .u64 (loOf b)) (by constructor <;> simp [go_sem, *])
          obtain ⟨o40, o41⟩ := gat2 hg4 (w2.heap.size + 1 + 1) (.int .i64 (hiOf (2 * mulTo a b (63 + 1) + one false))) (.int .u64 (loOf (2 * mulTo a b (63 + 1) + one false))) (by constructor <;> simp [go_sem, *])
          have hgw4 : Grown w w4 := gtrans (Grown.setCell (Grown.setCell hgw3 (by dsimp only; have := hgw2.2.2; omega) _) (by dsimp only; have := hgw2.2.2; omega) _) hg4
          have f4 := fun o => frz hgw4 (w2.heap.size + 1 + 1) o (by have := hgw2.2.2; omega)
          clear hg4 r30 r31 x30 x31 y30 y31 o30 o31 hgw3 f3
          go_wp2_with fail
          refine (refNegV _ _).mono ?_
          rintro e w5 ⟨rfl, hg5⟩
          obtain ⟨r50, r51⟩ := gat2 hg5 _ _ _ ⟨r40, r41⟩
          obtain ⟨x50, x51⟩ := gat2 hg5 _ _ _ ⟨x40, x41⟩
          obtain ⟨y50, y51⟩ := gat2 hg5 _ _ _ ⟨y40, y41⟩
          obtain ⟨o50, o51⟩ := gat2 hg5 _ _ _ ⟨o40, o41⟩
          have hgw5 : Grown w w5 := gtrans hgw4 hg5
          have f5 := fun o => frz hgw5 (w2.heap.size + 1 + 1) o (by omega)
          clear hg5 r40 r41 x40 x41 y40 y41 o40 o41 hgw4 f4
          go_wp2
          go_roundw
          case rel =>
            refine ⟨63, by omega, by go_num, ⟨by simp [go_sem, *], by simp [go_sem, *]⟩, ⟨by simp [go_sem, *], by simp [go_sem, *]⟩, ⟨by simp [go_sem, *], by simp [go_sem, *]⟩, ?_, Grown.setCell (Grown.setCell hgw5 (by dsimp only; omega) _) (by dsimp only; omega) _⟩
            rw [unhide HV]; constructor <;> simp [go_sem, *]
          case measure => simp [intOf]
        · have HV := hide (mulTo_yes a b j (by omega) hb)
          have h63' : ((j : Int) == 63) = false := by rw [beq_eq_false_iff_ne]; omega
          clear hb
          go_wp2_with fail
          refine (refTwice _ false _).mono ?_
          rintro e w3 ⟨rfl, hg3⟩
          obtain ⟨r30, r31⟩ := gat2 hg3 (w.heap.size) (.int .i64 0) (.int .u64 0) (by constructor <;> simp [go_sem, *])
          obtain ⟨x30, x31⟩ := gat2 hg3 (w2.heap.size) (.int .i64 (hiOf a)) (.int .u64 (loOf a)) (by constructor <;> simp [go_sem, *])
          obtain ⟨y30, y31⟩ := gat2 hg3 (w2.heap.size + 1) (.int .i64 (hiOf b)) (.int .u64 (loOf b)) (by constructor <;> simp [go_sem, *])
          obtain ⟨o30, o31⟩ := gat2 hg3 (w2.heap.size + 1 + 1) _ _ ⟨o0, o1⟩
          have hgw3 : Grown w w3 := gtrans hgr hg3
          have f3 := fun o => frz hgw3 (w2.heap.size + 1 + 1) o (by have := hgw2.2.2; omega)
          clear hg3 r0 r1 x0 x1 y0 y1 o0 o1 hgr
          go_wp2_with fail
          refine (unhide BT _).mono ?_
          rintro e w4 ⟨rfl, hg4⟩
          obtain ⟨r40, r41⟩ := gat2 hg4 (w.heap.size) (.int .i64 0) (.int .u64 0) (by constructor <;> simp [go_sem, *])
          obtain ⟨x40, x41⟩ := gat2 hg4 (w2.heap.size) (.int .i64 (hiOf a)) (.int .u64 (loOf a)) (by constructor <;> simp [go_sem, *])
          obtain ⟨y40, y41⟩ := gat2 hg4 (w2.heap.size + 1) (.int .i64 (hiOf b)) (.int .u64 (loOf b)) (by constructor <;> simp [go_sem, *])
          obtain ⟨o40, o41⟩ := gat2 hg4 (w2.heap.size + 1 + 1) (.int .i64 (hiOf (2 * mulTo a b (j + 1) + one false))) (.int .u64 (loOf (2 * mulTo a b (j + 1) + one false))) (by constructor <;> simp [go_sem, *])
          have hgw4 : Grown w w4 := gtrans (Grown.setCell (Grown.setCell hgw3 (by dsimp only; have := hgw2.2.2; omega) _) (by dsimp only; have := hgw2.2.2; omega) _) hg4
          have f4 := fun o => frz hgw4 (w2.heap.size + 1 + 1) o (by have := hgw2.2.2; omega)
          clear hg4 r30 r31 x30 x31 y30 y31 o30 o31 hgw3 f3
          go_wp2_with fail
          refine (refAddV _ _ _).mono ?_
          rintro e w5 ⟨rfl, hg5⟩
          obtain ⟨r50, r51⟩ := gat2 hg5 _ _ _ ⟨r40, r41⟩
          obtain ⟨x50, x51⟩ := gat2 hg5 _ _ _ ⟨x40, x41⟩
          obtain ⟨y50, y51⟩ := gat2 hg5 _ _ _ ⟨y40, y41⟩
          obtain ⟨o50, o51⟩ := gat2 hg5 _ _ _ ⟨o40, o41⟩
          have hgw5 : Grown w w5 := gtrans hgw4 hg5
          have f5 := fun o => frz hgw5 (w2.heap.size + 1 + 1) o (by omega)
          clear hg5 r40 r41 x40 x41 y40 y41 o40 o41 hgw4 f4
          go_wp2
          go_roundw
          case rel =>
            refine ⟨j, by omega, by go_num, ⟨by simp [go_sem, *], by simp [go_sem, *]⟩, ⟨by simp [go_sem, *], by simp [go_sem, *]⟩, ⟨by simp [go_sem, *], by simp [go_sem, *]⟩, ?_, Grown.setCell (Grown.setCell hgw5 (by dsimp only; omega) _) (by dsimp only; omega) _⟩
            rw [unhide HV]; constructor <;> simp [go_sem, *]
          case measure => simp [intOf]
      · rw [show decide (b / 2 ^ j % 2 = 1) = false from by simpa using hb] at BT
        have HV := hide (mulTo_off a b j (by omega) h2 hb)
        clear hb
        go_wp2_with fail
        refine (refTwice _ false _).mono ?_
        rintro e w3 ⟨rfl, hg3⟩
        obtain ⟨r30, r31⟩ := gat2 hg3 (w.heap.size) (.int .i64 0) (.int .u64 0) (by constructor <;> simp [go_sem, *])
        obtain ⟨x30, x31⟩ := gat2 hg3 (w2.heap.size) (.int .i64 (hiOf a)) (.int .u64 (loOf a)) (by constructor <;> simp [go_sem, *])
        obtain ⟨y30, y31⟩ := gat2 hg3 (w2.heap.size + 1) (.int .i64 (hiOf b)) (.int .u64 (loOf b)) (by constructor <;> simp [go_sem, *])
        obtain ⟨o30, o31⟩ := gat2 hg3 (w2.heap.size + 1 + 1) _ _ ⟨o0, o1⟩
        have hgw3 : Grown w w3 := gtrans hgr hg3
        have f3 := fun o => frz hgw3 (w2.heap.size + 1 + 1) o (by have := hgw2.2.2; omega)
        clear hg3 r0 r1 x0 x1 y0 y1 o0 o1 hgr
        go_wp2_with fail
        refine (unhide BT _).mono ?_
        rintro e w4 ⟨rfl, hg4⟩
        obtain ⟨r40, r41⟩ := gat2 hg4 (w.heap.size) (.int .i64 0) (.int .u64 0) (by constructor <;> simp [go_sem, *])
        obtain ⟨x40, x41⟩ := gat2 hg4 (w2.heap.size) (.int .i64 (hiOf a)) (.int .u64 (loOf a)) (by constructor <;> simp [go_sem, *])
        obtain ⟨y40, y41⟩ := gat2 hg4 (w2.heap.size + 1) (.int .i64 (hiOf b)) (.int .u64 (loOf b)) (by constructor <;> simp [go_sem, *])
        obtain ⟨o40, o41⟩ := gat2 hg4 (w2.heap.size + 1 + 1) (.int .i64 (hiOf (2 * mulTo a b (j + 1) + one false))) (.int .u64 (loOf (2 * mulTo a b (j + 1) + one false))) (by constructor <;> simp [go_sem, *])
        have hgw4 : Grown w w4 := gtrans (Grown.setCell (Grown.setCell hgw3 (by dsimp only; have := hgw2.2.2; omega) _) (by dsimp only; have := hgw2.2.2; omega) _) hg4
        have f4 := fun o => frz hgw4 (w2.heap.size + 1 + 1) o (by have := hgw2.2.2; omega)
        clear hg4 r30 r31 x30 x31 y30 y31 o30 o31 hgw3 f3
        go_wp2
        go_roundw
        case rel =>
          refine ⟨j, by omega, by go_num, ⟨r40, r41⟩, ⟨x40, x41⟩, ⟨y40, y41⟩, ?_, hgw4⟩
          rw [unhide HV]; exact ⟨o40, o41⟩
        case measure => simp [intOf]

end Go.Proofs.Ytmdclpjbpkfckaa
