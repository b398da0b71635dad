/- RefA RefMul RefRound RefDiv RefQuo FixR RootR RootS RefU, one after another. -/
import Derived.Test.YtcobicnpdmgnjaaWideV
import Derived.Test.YtcobicnpdmgnjaaNearMath
import Derived.Deep.DeepCutAuto
import Derived.Deep.RegionWith
import Derived.Test.YtcobicnpdmgnjaaFixMath
import Derived.Test.YtcobicnpdmgnjaaRootB
import Derived.Test.YtcobicnpdmgnjaaUnitC
/- The document's answer for layer 1: what its helpers twice, bit, below and whole return, in whole numbers modulo 2^128. -/
namespace Go.Proofs.Ytcobicnpdmgnjaa
open Go.RowKit Go.Proofs.Wd
set_option linter.unusedVariables false
set_option linter.unusedSimpArgs false

/-- 1 or 0. -/
def one (b : Bool) : Int := if b = true then 1 else 0
/-- A number modulo 2^128, from 0 on. -/
def umag (A : Int) : Int := A % 340282366920938463463374607431768211456

theorem refAddV (A B : Int) (w : World) :
    Calls Try.prog 98 #[.agg #[.int .i64 (hiOf A), .int .u64 (loOf A)], .agg #[.int .i64 (hiOf B), .int .u64 (loOf B)]] w fun e w' => e = .returned (.agg #[.int .i64 (hiOf (A + B)), .int .u64 (loOf (A + B))]) ∧ Grown w w' := by
  have q := refAdd (hiOf A) (loOf A) (hiOf B) (loOf B) (hiOf_I64 _) (loOf_U64 _) (hiOf_I64 _) (loOf_U64 _) w
  rw [val_of, val_of, hiOf_add, loOf_add] at q
  exact q
theorem refNegV (A : Int) (w : World) :
    Calls Try.prog 103 #[.agg #[.int .i64 (hiOf A), .int .u64 (loOf A)]] w fun e w' => e = .returned (.agg #[.int .i64 (hiOf (-A)), .int .u64 (loOf (-A))]) ∧ Grown w w' := by
  have q := refNeg (hiOf A) (loOf A) (hiOf_I64 _) (loOf_U64 _) w
  rw [val_of, hiOf_neg, loOf_neg] at q
  exact q

theorem bit_lo (A n : Int) (h0 : 0 ≤ n) (h1 : n < 64) : loOf A / 2 ^ n.toNat % 2 = A / 2 ^ n.toNat % 2 := by
  have hm := pow2_mul n.toNat (64 - n).toNat (by omega)
  have hK := pow2_pos n.toNat
  have e2 : (2 : Int) ^ (64 - n).toNat = 2 * 2 ^ (63 - n).toNat := by
    rw [show (64 - n).toNat = 1 + (63 - n).toNat from by omega, Int.pow_add]; rfl
  unfold loOf
  have h := Int.emod_add_mul_ediv A 18446744073709551616
  have e3 : A = A % 18446744073709551616 + 2 ^ n.toNat * (2 * (2 ^ (63 - n).toNat * (A / 18446744073709551616))) := by
    rw [e2] at hm
    have : (18446744073709551616 : Int) * (A / 18446744073709551616) = 2 ^ n.toNat * (2 * (2 ^ (63 - n).toNat * (A / 18446744073709551616))) := by
      rw [← hm]; grind
    omega
  have e4 : A / 2 ^ n.toNat = A % 18446744073709551616 / 2 ^ n.toNat + 2 * (2 ^ (63 - n).toNat * (A / 18446744073709551616)) := by
    have q := Int.add_mul_ediv_left (A % 18446744073709551616) (2 * (2 ^ (63 - n).toNat * (A / 18446744073709551616))) (by omega : (2 : Int) ^ n.toNat ≠ 0)
    rw [← e3] at q
    exact q
  rw [e4]
  omega
theorem bit_hi (A n : Int) (h0 : 64 ≤ n) (h1 : n < 128) : IntKind.u64.wrap (hiOf A) / 2 ^ (n - 64).toNat % 2 = A / 2 ^ n.toNat % 2 := by
  have e1 : IntKind.u64.wrap (hiOf A) = loOf (A / 18446744073709551616) := by rw [IntKind.wrap_u64]; unfold hiOf loOf; omega
  rw [e1, bit_lo _ _ (by omega) (by omega), Int.ediv_ediv_of_nonneg (by decide)]
  rw [show (18446744073709551616 : Int) = 2 ^ 64 from by decide, ← Int.pow_add, show 64 + (n - 64).toNat = n.toNat from by omega]

set_option maxHeartbeats 400000 in
theorem refBit (A n : Int) (h0 : 0 ≤ n) (h1 : n < 128) (w : World) :
    Calls Try.prog 104 #[.agg #[.int .i64 (hiOf A), .int .u64 (loOf A)], .int .i64 n] w fun e w' => e = .returned (.bool (decide (A / 2 ^ n.toNat % 2 = 1))) ∧ Grown w w' := by
  by_cases hs : n < 64
  · have HB := hide (bit_lo A n h0 hs)
    have hl := loOf_U64 A
    unfold U64 at hl
    go_enter Try.func104, Try.ntmps104
    go_wp2
    go_ret
    exact ⟨congrArg (fun b => Ending.returned (.bool b)) (by rw [Int.tmod_eq_emod_of_nonneg (dv0 _ _ (pow2_pos _) hl.1), unhide HB]; exact Bool.eq_iff_iff.2 (by simp)), (Grown.refl _).alloc _ _⟩
  · have HB := hide (bit_hi A n (by omega) h1)
    go_enter Try.func104, Try.ntmps104
    go_wp2
    go_ret
    exact ⟨congrArg (fun b => Ending.returned (.bool b)) (by rw [Int.tmod_eq_emod_of_nonneg (dv0 _ _ (pow2_pos _) (uw0 _)), unhide HB]; exact Bool.eq_iff_iff.2 (by simp)), (Grown.refl _).alloc _ _⟩

set_option maxHeartbeats 400000 in
theorem refTwice (A : Int) (b : Bool) (w : World) :
    Calls Try.prog 100 #[.agg #[.int .i64 (hiOf A), .int .u64 (loOf A)], .bool b] w fun e w' => e = .returned (.agg #[.int .i64 (hiOf (2 * A + one b)), .int .u64 (loOf (2 * A + one b))]) ∧ Grown w w' := by
  cases b
  · go_enter Try.func100, Try.ntmps100
    go_wp2_with fail
    refine (refAddV _ _ _).mono ?_
    rintro e w1 ⟨rfl, hg1⟩
    obtain ⟨d0, d1⟩ := gat2 hg1 (w.heap.size + 1) (.int .i64 0) (.int .u64 0) (by constructor <;> simp [go_sem])
    have hgw1 : Grown w w1 := gtrans (((Grown.refl _).alloc _ _).alloc _ _) hg1
    have l1 := heap_gt d0; have n1 := Nat.ne_of_gt l1; have o1 := Nat.ne_of_lt l1
    have f1 := fun o => frz hgw1 (w.heap.size + 1) o (by omega)
    clear hg1
    go_wp2
    simp [bodyPost, results, Try.results100, go_sem, *]
    exact ⟨⟨by unfold one hiOf; simp; omega, by (try simp only [IntKind.wrap_u64]); unfold one loOf; simp; omega⟩, Grown.alloc (Grown.setCell (Grown.setCell hgw1 (by dsimp only; omega) _) (by dsimp only; omega) _) _ _⟩
  · go_enter Try.func100, Try.ntmps100
    go_wp2_with fail
    refine (refAddV _ _ _).mono ?_
    rintro e w1 ⟨rfl, hg1⟩
    obtain ⟨d0, d1⟩ := gat2 hg1 (w.heap.size + 1) (.int .i64 0) (.int .u64 0) (by constructor <;> simp [go_sem])
    have hgw1 : Grown w w1 := gtrans (((Grown.refl _).alloc _ _).alloc _ _) hg1
    have l1 := heap_gt d0; have n1 := Nat.ne_of_gt l1; have o1 := Nat.ne_of_lt l1
    have f1 := fun o => frz hgw1 (w.heap.size + 1) o (by omega)
    clear hg1
    go_wp2
    simp [bodyPost, results, Try.results100, go_sem, *]
    exact ⟨⟨by unfold one hiOf; simp; omega, by (try simp only [IntKind.wrap_u64]); unfold one loOf; simp; omega⟩, Grown.alloc (Grown.setCell (Grown.setCell hgw1 (by dsimp only; omega) _) (by dsimp only; omega) _) _ _⟩

set_option maxHeartbeats 400000 in
theorem refBelow (A B : Int) (w : World) :
    Calls Try.prog 113 #[.agg #[.int .i64 (hiOf A), .int .u64 (loOf A)], .agg #[.int .i64 (hiOf B), .int .u64 (loOf B)]] w fun e w' => e = .returned (.bool (decide (umag A < umag B))) ∧ Grown w w' := by
  have fA : umag A = IntKind.u64.wrap (hiOf A) * 18446744073709551616 + loOf A := by rw [IntKind.wrap_u64]; unfold umag hiOf loOf; omega
  have fB : umag B = IntKind.u64.wrap (hiOf B) * 18446744073709551616 + loOf B := by rw [IntKind.wrap_u64]; unfold umag hiOf loOf; omega
  have lA := loOf_U64 A; have lB := loOf_U64 B
  have hA := hiOf_I64 A; have hB := hiOf_I64 B
  unfold U64 at lA lB; unfold I64 at hA hB
  rw [fA, fB]
  clear fA fB
  generalize hiOf A = ah at *
  generalize hiOf B = bh at *
  generalize loOf A = al at *
  generalize loOf B = bl at *
  have inj : ah ≠ bh → IntKind.u64.wrap ah ≠ IntKind.u64.wrap bh := by simp only [IntKind.wrap_u64]; omega
  by_cases g1 : IntKind.u64.wrap ah < IntKind.u64.wrap bh
  · have e : decide (IntKind.u64.wrap ah * 18446744073709551616 + al < IntKind.u64.wrap bh * 18446744073709551616 + bl) = true := by simp; omega
    rw [e]
    clear e inj
    go_enter Try.func113, Try.ntmps113
    go_wp2
    go_ret
    exact ⟨rfl, ((Grown.refl _).alloc _ _).alloc _ _⟩
  · by_cases g2 : ah = bh
    · subst g2
      have e : decide (IntKind.u64.wrap ah * 18446744073709551616 + al < IntKind.u64.wrap ah * 18446744073709551616 + bl) = decide (al < bl) := by rw [decide_eq_decide]; omega
      rw [e]
      clear e inj
      go_enter Try.func113, Try.ntmps113
      go_wp2
      go_ret
      exact ⟨rfl, ((Grown.refl _).alloc _ _).alloc _ _⟩
    · have e : decide (IntKind.u64.wrap ah * 18446744073709551616 + al < IntKind.u64.wrap bh * 18446744073709551616 + bl) = false := by have := inj g2; simp; omega
      rw [e]
      have g3 : (ah == bh) = false := by simpa using g2
      clear e inj g2
      go_enter Try.func113, Try.ntmps113
      go_wp2
      go_ret
      exact ⟨rfl, ((Grown.refl _).alloc _ _).alloc _ _⟩

set_option maxHeartbeats 400000 in
theorem refWhole (A : Int) (w : World) :
    Calls Try.prog 102 #[.agg #[.int .i64 (hiOf A), .int .u64 (loOf A)]] w fun e w' => e = .returned (.agg #[.int .i64 (hiOf (absI (wrapW A))), .int .u64 (loOf (absI (wrapW A)))]) ∧ Grown w w' := by
  by_cases hs : hiOf A < 0
  · have HW : Hid (absI (wrapW A) = -wrapW A) := by
      have : wrapW A < 0 := by rw [← val_of]; have := loOf_U64 A; unfold U64 at this; unfold val; omega
      unfold absI; rw [if_pos this]; exact hide rfl
    go_enter Try.func102, Try.ntmps102
    go_wp2_with fail
    refine (refNegV _ _).mono ?_
    rintro e w1 ⟨rfl, hg1⟩
    obtain ⟨d0, d1⟩ := gat2 hg1 (w.heap.size + 1) (.int .i64 0) (.int .u64 0) (by constructor <;> simp [go_sem])
    have hgw1 : Grown w w1 := gtrans (((Grown.refl _).alloc _ _).alloc _ _) hg1
    have f1 := fun o => frz hgw1 (w.heap.size + 1) o (by omega)
    clear hg1
    go_wp2
    simp [bodyPost, results, Try.results102, go_sem, *]
    rw [unhide HW, hiOf_neg, loOf_neg]
    exact ⟨⟨rfl, rfl⟩, Grown.setCell (Grown.setCell hgw1 (by dsimp only; omega) _) (by dsimp only; omega) _⟩
  · have HW : Hid (absI (wrapW A) = wrapW A) := by
      have : ¬ wrapW A < 0 := by rw [← val_of]; have := loOf_U64 A; unfold U64 at this; unfold val; omega
      unfold absI; rw [if_neg this]; exact hide rfl
    go_enter Try.func102, Try.ntmps102
    go_wp2
    simp [bodyPost, results, Try.results102, go_sem]
    rw [unhide HW, hiOf_wrapW, loOf_wrapW]
    exact ⟨⟨rfl, rfl⟩, ((Grown.refl _).alloc _ _).alloc _ _⟩

end Go.Proofs.Ytcobicnpdmgnjaa

/- The document's product, by bits, is the product: the loop of its Mul walked. -/
namespace Go.Proofs.Ytcobicnpdmgnjaa
open Go.RowKit Go.Proofs.Wd
set_option linter.unusedVariables false
set_option linter.unusedSimpArgs false

/-- What the product has come to when the bits from k on are done. -/
def mulTo (a b : Int) (k : Nat) : Int := if 64 ≤ k then 0 else a * (b / 2 ^ k)
theorem mulTo_zero (a b : Int) : mulTo a b 0 = a * b := by unfold mulTo; simp
theorem half_pow (b : Int) (k : Nat) : b / 2 ^ k = 2 * (b / 2 ^ (k + 1)) + b / 2 ^ k % 2 := by
  have e : b / 2 ^ (k + 1) = b / 2 ^ k / 2 := by rw [Int.ediv_ediv_of_nonneg (Int.le_of_lt (pow2_pos k))]; rw [Int.pow_succ]
  rw [e]; omega
theorem mulTo_top_yes (a b : Int) (h : I64 b) (hb : b / 2 ^ 63 % 2 = 1) : mulTo a b 63 = -a := by
  unfold mulTo; rw [if_neg (by omega)]
  unfold I64 at h
  rw [show b / 2 ^ 63 = -1 from by omega]; omega
theorem mulTo_top_no (a b : Int) (h : I64 b) (hb : ¬ b / 2 ^ 63 % 2 = 1) : mulTo a b 63 = 0 := by
  unfold mulTo; rw [if_neg (by omega)]
  unfold I64 at h
  rw [show b / 2 ^ 63 = 0 from by omega]; omega
theorem mulTo_yes (a b : Int) (k : Nat) (h : k < 63) (hb : b / 2 ^ k % 2 = 1) : mulTo a b k = 2 * mulTo a b (k + 1) + one false + a := by
  unfold mulTo; rw [if_neg (by omega), if_neg (by omega)]
  have := half_pow b k
  rw [hb] at this
  rw [this]; unfold one; simp; grind
theorem mulTo_no (a b : Int) (k : Nat) (h : k < 63) (hb : ¬ b / 2 ^ k % 2 = 1) : mulTo a b k = 2 * mulTo a b (k + 1) + one false := by
  unfold mulTo; rw [if_neg (by omega), if_neg (by omega)]
  have := half_pow b k
  rw [show b / 2 ^ k % 2 = 0 from by omega] at this
  rw [this]; unfold one; simp; grind

theorem mulTo_off (a b : Int) (k : Nat) (hk : k < 64) (h : I64 b) (hb : ¬ b / 2 ^ k % 2 = 1) : mulTo a b k = 2 * mulTo a b (k + 1) + one false := by
  by_cases e : k < 63
  · exact mulTo_no a b k e hb
  · obtain rfl : k = 63 := by omega
    rw [mulTo_top_no a b h hb]; unfold mulTo one; simp

set_option maxHeartbeats 2000000 in
theorem refMul (a b : Int) (h1 : I64 a) (h2 : I64 b) (w : World) :
    Calls Try.prog 89 #[.int .i64 a, .int .i64 b] w fun e w' => e = .returned (.agg #[.int .i64 (hiOf (a * b)), .int .u64 (loOf (a * b))]) ∧ Grown w w' := by
  go_enter Try.func89, Try.ntmps89
  go_wp2_with fail
  refine (refOf a h1 _).mono ?_
  rintro e w1 ⟨rfl, hg1⟩
  go_wp2_with fail
  refine (refOf b h2 _).mono ?_
  rintro e w2 ⟨rfl, hg2⟩
  obtain ⟨r0, r1⟩ := gat2 (gtrans hg1 hg2) w.heap.size (.int .i64 0) (.int .u64 0) (by constructor <;> simp [go_sem])
  have hgw2 : Grown w w2 := gtrans ((Grown.refl _).alloc _ _) (gtrans hg1 hg2)
  clear hg1 hg2
  have l0 := heap_gt r0
  go_wp2
  have u0 : hiOf (mulTo a b 64) = 0 := by unfold mulTo; simp; decide
  have u1 : loOf (mulTo a b 64) = 0 := by unfold mulTo; simp; decide
  have U0 := hide u0; have U1 := hide u1
  clear u0 u1
  go_loopw [8] (fun i wr => ∃ k : Nat, k ≤ 64 ∧ i = .int .i64 ((k : Int) - 1) ∧ (wr.cell? ⟨w.heap.size, 0, none⟩ = some (.int .i64 0) ∧ wr.cell? ⟨w.heap.size, 1, none⟩ = some (.int .u64 0)) ∧ (wr.cell? ⟨w2.heap.size, 0, none⟩ = some (.int .i64 (hiOf a)) ∧ wr.cell? ⟨w2.heap.size, 1, none⟩ = some (.int .u64 (loOf a))) ∧ (wr.cell? ⟨w2.heap.size + 1, 0, none⟩ = some (.int .i64 (hiOf b)) ∧ wr.cell? ⟨w2.heap.size + 1, 1, none⟩ = some (.int .u64 (loOf b))) ∧ (wr.cell? ⟨w2.heap.size + 1 + 1, 0, none⟩ = some (.int .i64 (hiOf (mulTo a b k))) ∧ wr.cell? ⟨w2.heap.size + 1 + 1, 1, none⟩ = some (.int .u64 (loOf (mulTo a b k)))) ∧ Grown w wr) (fun i _ => (intOf i + 1).toNat)
  case atStart =>
    refine ⟨64, by omega, rfl, gat2 ((((Grown.refl w2).alloc _ _).alloc _ _).alloc _ _) _ _ _ ⟨r0, r1⟩, ⟨by simp [go_sem], by simp [go_sem]⟩, ⟨by simp [go_sem], by simp [go_sem]⟩, ⟨?_, ?_⟩, ((hgw2.alloc _ _).alloc _ _).alloc _ _⟩
    · rw [unhide U0]; simp [go_sem]
    · rw [unhide U1]; simp [go_sem]
  case round =>
    obtain ⟨k, hk, rfl, ⟨r0, r1⟩, ⟨x0, x1⟩, ⟨y0, y1⟩, ⟨o0, o1⟩, hgr⟩ := hrel
    have lw : w.heap.size ≤ w2.heap.size := hgw2.2.2
    have m0 : w.heap.size ≠ w2.heap.size + 1 + 1 := by omega
    have m1 : w2.heap.size + 1 + 1 ≠ w.heap.size := by omega
    by_cases hk0 : k = 0
    · subst hk0
      rw [mulTo_zero] at o0 o1
      have f0 := fun o => frz hgr w.heap.size o (by omega)
      go_wp2
      simp [bodyPost, results, Try.results89, go_sem, *]
      exact Grown.setCell (Grown.setCell hgr (by dsimp only; omega) _) (by dsimp only; omega) _
    · obtain ⟨j, rfl⟩ : ∃ j, k = j + 1 := ⟨k - 1, by omega⟩
      rw [show ((j + 1 : Nat) : Int) - 1 = (j : Int) from by omega]
      have BT := hide (fun w => refBit b j (by omega) (by omega) w)
      rw [Int.toNat_natCast] at BT
      clear hk0 U0 U1
      by_cases hb : b / 2 ^ j % 2 = 1
      · rw [show decide (b / 2 ^ j % 2 = 1) = true from by simpa using hb] at BT
        by_cases h63 : j = 63
        · have HV := hide (mulTo_top_yes a b h2 (by rw [← h63]; exact hb))
          subst h63
          clear hb
          go_wp2_with fail
          refine (refTwice _ false _).mono ?_
          rintro e w3 ⟨rfl, hg3⟩
          obtain ⟨r30, r31⟩ := gat2 hg3 (w.heap.size) (.int .i64 0) (.int .u64 0) (by constructor <;> simp [go_sem, *])
          obtain ⟨x30, x31⟩ := gat2 hg3 (w2.heap.size) (.int .i64 (hiOf a)) (.int .u64 (loOf a)) (by constructor <;> simp [go_sem, *])
          obtain ⟨y30, y31⟩ := gat2 hg3 (w2.heap.size + 1) (.int .i64 (hiOf b)) (.int .u64 (loOf b)) (by constructor <;> simp [go_sem, *])
          obtain ⟨o30, o31⟩ := gat2 hg3 (w2.heap.size + 1 + 1) _ _ ⟨o0, o1⟩
          have hgw3 : Grown w w3 := gtrans hgr hg3
          have f3 := fun o => frz hgw3 (w2.heap.size + 1 + 1) o (by have := hgw2.2.2; omega)
          clear hg3 r0 r1 x0 x1 y0 y1 o0 o1 hgr
          go_wp2_with fail
          refine (unhide BT _).mono ?_
          rintro e w4 ⟨rfl, hg4⟩
          obtain ⟨r40, r41⟩ := gat2 hg4 (w.heap.size) (.int .i64 0) (.int .u64 0) (by constructor <;> simp [go_sem, *])
          obtain ⟨x40, x41⟩ := gat2 hg4 (w2.heap.size) (.int .i64 (hiOf a)) (.int .u64 (loOf a)) (by constructor <;> simp [go_sem, *])
          obtain ⟨y40, y41⟩ := gat2 hg4 (w2.heap.size + 1) (.int .i64 (hiOf b)) (.int .u64 (loOf b)) (by constructor <;> simp [go_sem, *])
          obtain ⟨o40, o41⟩ := gat2 hg4 (w2.heap.size + 1 + 1) (.int .i64 (hiOf (2 * mulTo a b (63 + 1) + one false))) (.int .u64 (loOf (2 * mulTo a b (63 + 1) + one false))) (by constructor <;> simp [go_sem, *])
          have hgw4 : Grown w w4 := gtrans (Grown.setCell (Grown.setCell hgw3 (by dsimp only; have := hgw2.2.2; omega) _) (by dsimp only; have := hgw2.2.2; omega) _) hg4
          have f4 := fun o => frz hgw4 (w2.heap.size + 1 + 1) o (by have := hgw2.2.2; omega)
          clear hg4 r30 r31 x30 x31 y30 y31 o30 o31 hgw3 f3
          go_wp2_with fail
          refine (refNegV _ _).mono ?_
          rintro e w5 ⟨rfl, hg5⟩
          obtain ⟨r50, r51⟩ := gat2 hg5 _ _ _ ⟨r40, r41⟩
          obtain ⟨x50, x51⟩ := gat2 hg5 _ _ _ ⟨x40, x41⟩
          obtain ⟨y50, y51⟩ := gat2 hg5 _ _ _ ⟨y40, y41⟩
          obtain ⟨o50, o51⟩ := gat2 hg5 _ _ _ ⟨o40, o41⟩
          have hgw5 : Grown w w5 := gtrans hgw4 hg5
          have f5 := fun o => frz hgw5 (w2.heap.size + 1 + 1) o (by omega)
          clear hg5 r40 r41 x40 x41 y40 y41 o40 o41 hgw4 f4
          go_wp2
          go_roundw
          case rel =>
            refine ⟨63, by omega, by go_num, ⟨by simp [go_sem, *], by simp [go_sem, *]⟩, ⟨by simp [go_sem, *], by simp [go_sem, *]⟩, ⟨by simp [go_sem, *], by simp [go_sem, *]⟩, ?_, Grown.setCell (Grown.setCell hgw5 (by dsimp only; omega) _) (by dsimp only; omega) _⟩
            rw [unhide HV]; constructor <;> simp [go_sem, *]
          case measure => simp [intOf]
        · have HV := hide (mulTo_yes a b j (by omega) hb)
          have h63' : ((j : Int) == 63) = false := by rw [beq_eq_false_iff_ne]; omega
          clear hb
          go_wp2_with fail
          refine (refTwice _ false _).mono ?_
          rintro e w3 ⟨rfl, hg3⟩
          obtain ⟨r30, r31⟩ := gat2 hg3 (w.heap.size) (.int .i64 0) (.int .u64 0) (by constructor <;> simp [go_sem, *])
          obtain ⟨x30, x31⟩ := gat2 hg3 (w2.heap.size) (.int .i64 (hiOf a)) (.int .u64 (loOf a)) (by constructor <;> simp [go_sem, *])
          obtain ⟨y30, y31⟩ := gat2 hg3 (w2.heap.size + 1) (.int .i64 (hiOf b)) (.int .u64 (loOf b)) (by constructor <;> simp [go_sem, *])
          obtain ⟨o30, o31⟩ := gat2 hg3 (w2.heap.size + 1 + 1) _ _ ⟨o0, o1⟩
          have hgw3 : Grown w w3 := gtrans hgr hg3
          have f3 := fun o => frz hgw3 (w2.heap.size + 1 + 1) o (by have := hgw2.2.2; omega)
          clear hg3 r0 r1 x0 x1 y0 y1 o0 o1 hgr
          go_wp2_with fail
          refine (unhide BT _).mono ?_
          rintro e w4 ⟨rfl, hg4⟩
          obtain ⟨r40, r41⟩ := gat2 hg4 (w.heap.size) (.int .i64 0) (.int .u64 0) (by constructor <;> simp [go_sem, *])
          obtain ⟨x40, x41⟩ := gat2 hg4 (w2.heap.size) (.int .i64 (hiOf a)) (.int .u64 (loOf a)) (by constructor <;> simp [go_sem, *])
          obtain ⟨y40, y41⟩ := gat2 hg4 (w2.heap.size + 1) (.int .i64 (hiOf b)) (.int .u64 (loOf b)) (by constructor <;> simp [go_sem, *])
          obtain ⟨o40, o41⟩ := gat2 hg4 (w2.heap.size + 1 + 1) (.int .i64 (hiOf (2 * mulTo a b (j + 1) + one false))) (.int .u64 (loOf (2 * mulTo a b (j + 1) + one false))) (by constructor <;> simp [go_sem, *])
          have hgw4 : Grown w w4 := gtrans (Grown.setCell (Grown.setCell hgw3 (by dsimp only; have := hgw2.2.2; omega) _) (by dsimp only; have := hgw2.2.2; omega) _) hg4
          have f4 := fun o => frz hgw4 (w2.heap.size + 1 + 1) o (by have := hgw2.2.2; omega)
          clear hg4 r30 r31 x30 x31 y30 y31 o30 o31 hgw3 f3
          go_wp2_with fail
          refine (refAddV _ _ _).mono ?_
          rintro e w5 ⟨rfl, hg5⟩
          obtain ⟨r50, r51⟩ := gat2 hg5 _ _ _ ⟨r40, r41⟩
          obtain ⟨x50, x51⟩ := gat2 hg5 _ _ _ ⟨x40, x41⟩
          obtain ⟨y50, y51⟩ := gat2 hg5 _ _ _ ⟨y40, y41⟩
          obtain ⟨o50, o51⟩ := gat2 hg5 _ _ _ ⟨o40, o41⟩
          have hgw5 : Grown w w5 := gtrans hgw4 hg5
          have f5 := fun o => frz hgw5 (w2.heap.size + 1 + 1) o (by omega)
          clear hg5 r40 r41 x40 x41 y40 y41 o40 o41 hgw4 f4
          go_wp2
          go_roundw
          case rel =>
            refine ⟨j, by omega, by go_num, ⟨by simp [go_sem, *], by simp [go_sem, *]⟩, ⟨by simp [go_sem, *], by simp [go_sem, *]⟩, ⟨by simp [go_sem, *], by simp [go_sem, *]⟩, ?_, Grown.setCell (Grown.setCell hgw5 (by dsimp only; omega) _) (by dsimp only; omega) _⟩
            rw [unhide HV]; constructor <;> simp [go_sem, *]
          case measure => simp [intOf]
      · rw [show decide (b / 2 ^ j % 2 = 1) = false from by simpa using hb] at BT
        have HV := hide (mulTo_off a b j (by omega) h2 hb)
        clear hb
        go_wp2_with fail
        refine (refTwice _ false _).mono ?_
        rintro e w3 ⟨rfl, hg3⟩
        obtain ⟨r30, r31⟩ := gat2 hg3 (w.heap.size) (.int .i64 0) (.int .u64 0) (by constructor <;> simp [go_sem, *])
        obtain ⟨x30, x31⟩ := gat2 hg3 (w2.heap.size) (.int .i64 (hiOf a)) (.int .u64 (loOf a)) (by constructor <;> simp [go_sem, *])
        obtain ⟨y30, y31⟩ := gat2 hg3 (w2.heap.size + 1) (.int .i64 (hiOf b)) (.int .u64 (loOf b)) (by constructor <;> simp [go_sem, *])
        obtain ⟨o30, o31⟩ := gat2 hg3 (w2.heap.size + 1 + 1) _ _ ⟨o0, o1⟩
        have hgw3 : Grown w w3 := gtrans hgr hg3
        have f3 := fun o => frz hgw3 (w2.heap.size + 1 + 1) o (by have := hgw2.2.2; omega)
        clear hg3 r0 r1 x0 x1 y0 y1 o0 o1 hgr
        go_wp2_with fail
        refine (unhide BT _).mono ?_
        rintro e w4 ⟨rfl, hg4⟩
        obtain ⟨r40, r41⟩ := gat2 hg4 (w.heap.size) (.int .i64 0) (.int .u64 0) (by constructor <;> simp [go_sem, *])
        obtain ⟨x40, x41⟩ := gat2 hg4 (w2.heap.size) (.int .i64 (hiOf a)) (.int .u64 (loOf a)) (by constructor <;> simp [go_sem, *])
        obtain ⟨y40, y41⟩ := gat2 hg4 (w2.heap.size + 1) (.int .i64 (hiOf b)) (.int .u64 (loOf b)) (by constructor <;> simp [go_sem, *])
        obtain ⟨o40, o41⟩ := gat2 hg4 (w2.heap.size + 1 + 1) (.int .i64 (hiOf (2 * mulTo a b (j + 1) + one false))) (.int .u64 (loOf (2 * mulTo a b (j + 1) + one false))) (by constructor <;> simp [go_sem, *])
        have hgw4 : Grown w w4 := gtrans (Grown.setCell (Grown.setCell hgw3 (by dsimp only; have := hgw2.2.2; omega) _) (by dsimp only; have := hgw2.2.2; omega) _) hg4
        have f4 := fun o => frz hgw4 (w2.heap.size + 1 + 1) o (by have := hgw2.2.2; omega)
        clear hg4 r30 r31 x30 x31 y30 y31 o30 o31 hgw3 f3
        go_wp2
        go_roundw
        case rel =>
          refine ⟨j, by omega, by go_num, ⟨r40, r41⟩, ⟨x40, x41⟩, ⟨y40, y41⟩, ?_, hgw4⟩
          rw [unhide HV]; exact ⟨o40, o41⟩
        case measure => simp [intOf]

end Go.Proofs.Ytcobicnpdmgnjaa

/- The document's quotient, bit by bit, is the rounded quotient: the loop of its helper rounded walked. -/
namespace Go.Proofs.Ytcobicnpdmgnjaa
open Go.RowKit Go.Proofs.Wd
set_option linter.unusedVariables false
set_option linter.unusedSimpArgs false
attribute [local go_sem ↓] Go.wp_at_zero Go.wp_at_succ

theorem umag_small (A : Int) (h : 0 ≤ A ∧ A < 340282366920938463463374607431768211456) : umag A = A := by unfold umag; omega
theorem pow_half (a : Int) (k : Nat) : a / 2 ^ k = 2 * (a / 2 ^ (k + 1)) + a / 2 ^ k % 2 := by
  have e : a / 2 ^ (k + 1) = a / 2 ^ k / 2 := by rw [Int.ediv_ediv_of_nonneg (Int.le_of_lt (pow2_pos k))]; rw [Int.pow_succ]
  rw [e]; omega
/-- One step of a long division: the next bit is t. -/
theorem long_step (x d t : Int) (hd : 0 < d) (ht : t = 0 ∨ t = 1) :
    (2 * (x % d) + t < d → (2 * x + t) / d = 2 * (x / d) ∧ (2 * x + t) % d = 2 * (x % d) + t) ∧
    (¬ 2 * (x % d) + t < d → (2 * x + t) / d = 2 * (x / d) + 1 ∧ (2 * x + t) % d = 2 * (x % d) + t + -d) := by
  have e1 := Int.emod_add_mul_ediv x d
  have e2 := Int.emod_nonneg x (by omega : d ≠ 0)
  have e3 := Int.emod_lt_of_pos x hd
  constructor
  · intro h
    exact du hd (by grind) (by omega) h
  · intro h
    exact du hd (by grind) (by omega) (by omega)
theorem one_bit (a : Int) : one (decide (a % 2 = 1)) = a % 2 := by
  unfold one
  by_cases h : a % 2 = 1
  · simp [h]
  · simp [h]; omega

theorem next_of (Q : Int) : hiOf (wrapW Q + val 0 1) = hiOf (Q + 1) ∧ loOf (wrapW Q + val 0 1) = loOf (Q + 1) := by
  unfold hiOf loOf wrapW val; omega
theorem hilo_ne_u (A B : Int) (hA : 0 ≤ A ∧ A < 340282366920938463463374607431768211456) (hB : 0 ≤ B ∧ B < 340282366920938463463374607431768211456) (h : A ≠ B) : hiOf A ≠ hiOf B ∨ loOf A ≠ loOf B := by
  unfold hiOf loOf; omega
theorem even_next (Q : Int) : hiOf (2 * Q + one false) = hiOf (2 * Q + 1) ∧ IntKind.u64.wrap (loOf (2 * Q + one false) + 1) = loOf (2 * Q + 1) := by
  rw [IntKind.wrap_u64]; unfold one hiOf loOf; simp; omega
theorem div128 (A : Int) (h0 : 0 ≤ A) (h1 : A < 340282366920938463463374607431768211456) : A / 2 ^ 128 = 0 :=
  Int.ediv_eq_zero_of_lt h0 (Int.lt_of_lt_of_le h1 (by decide))

set_option maxHeartbeats 2000000 in
theorem refRounded_loop (A D : Int) (hA : 0 ≤ A ∧ A ≤ 170141183460469231731687303715884105728) (hD : 0 < D ∧ D ≤ 170141183460469231731687303715884105728) (w : World) :
    Calls Try.prog 101 #[.agg #[.int .i64 (hiOf A), .int .u64 (loOf A)], .agg #[.int .i64 (hiOf D), .int .u64 (loOf D)]] w fun e w' => e = .returned (.agg #[.int .i64 (hiOf (nearQ (A / D) (A % D) (D - A % D))), .int .u64 (loOf (nearQ (A / D) (A % D) (D - A % D)))]) ∧ Grown w w' := by
  go_enter Try.func101, Try.ntmps101
  go_wp2
  have u0 : A / 2 ^ 128 = 0 := div128 A hA.1 (by omega)
  have z0 : hiOf (A / 2 ^ 128 / D) = 0 ∧ loOf (A / 2 ^ 128 / D) = 0 := by rw [u0, Int.zero_ediv]; decide
  have z1 : hiOf (A / 2 ^ 128 % D) = 0 ∧ loOf (A / 2 ^ 128 % D) = 0 := by rw [u0, Int.zero_emod]; decide
  have Z0 := hide z0; have Z1 := hide z1
  clear u0 z0 z1
  go_loopw [7] (fun i wr => ∃ k : Nat, k ≤ 128 ∧ i = .int .i64 ((k : Int) - 1) ∧ (wr.cell? ⟨w.heap.size, 0, none⟩ = some (.int .i64 (hiOf (A))) ∧ wr.cell? ⟨w.heap.size, 1, none⟩ = some (.int .u64 (loOf (A)))) ∧ (wr.cell? ⟨w.heap.size + 1, 0, none⟩ = some (.int .i64 (hiOf (D))) ∧ wr.cell? ⟨w.heap.size + 1, 1, none⟩ = some (.int .u64 (loOf (D)))) ∧ (wr.cell? ⟨w.heap.size + 1 + 1, 0, none⟩ = some (.int .i64 0) ∧ wr.cell? ⟨w.heap.size + 1 + 1, 1, none⟩ = some (.int .u64 0)) ∧ (wr.cell? ⟨w.heap.size + 1 + 1 + 1, 0, none⟩ = some (.int .i64 (hiOf (A / 2 ^ k / D))) ∧ wr.cell? ⟨w.heap.size + 1 + 1 + 1, 1, none⟩ = some (.int .u64 (loOf (A / 2 ^ k / D)))) ∧ (wr.cell? ⟨w.heap.size + 1 + 1 + 1 + 1, 0, none⟩ = some (.int .i64 (hiOf (A / 2 ^ k % D))) ∧ wr.cell? ⟨w.heap.size + 1 + 1 + 1 + 1, 1, none⟩ = some (.int .u64 (loOf (A / 2 ^ k % D)))) ∧ Grown w wr) (fun i _ => (intOf i + 1).toNat)
  case atStart =>
    refine ⟨128, by omega, rfl, ⟨by simp [go_sem], by simp [go_sem]⟩, ⟨by simp [go_sem], by simp [go_sem]⟩, ⟨by simp [go_sem], by simp [go_sem]⟩, ⟨?_, ?_⟩, ⟨?_, ?_⟩, (((((Grown.refl _).alloc _ _).alloc _ _).alloc _ _).alloc _ _).alloc _ _⟩
    · rw [(unhide Z0).1]; simp [go_sem]
    · rw [(unhide Z0).2]; simp [go_sem]
    · rw [(unhide Z1).1]; simp [go_sem]
    · rw [(unhide Z1).2]; simp [go_sem]
  case round =>
    obtain ⟨k, hk, rfl, ⟨a00, a01⟩, ⟨d00, d01⟩, ⟨z00, z01⟩, ⟨q00, q01⟩, ⟨r00, r01⟩, hg0⟩ := hrel
    clear Z0 Z1
    by_cases hk0 : k = 0
    · subst hk0
      rw [show A / 2 ^ 0 = A from by simp] at q00 q01 r00 r01
      have hr0 := Int.emod_nonneg A (by omega : D ≠ 0)
      have hr1 := Int.emod_lt_of_pos A hD.1
      obtain ⟨Q, hQ⟩ : ∃ Q, A / D = Q := ⟨_, rfl⟩
      obtain ⟨R, hR⟩ : ∃ R, A % D = R := ⟨_, rfl⟩
      rw [hQ] at q00 q01
      rw [hR] at r00 r01 hr0 hr1
      have HQ := hide hQ; have HR := hide hR
      clear hQ hR
      have BL := hide (fun w => refBelow (D + -R) R w)
      rw [umag_small (D + -R) (by omega), umag_small R (by omega)] at BL
      have A1 := hide (fun w => refAdd (hiOf Q) (loOf Q) 0 1 (hiOf_I64 _) (loOf_U64 _) (by unfold I64; omega) (by unfold U64; omega) w)
      rw [val_of, (next_of Q).1, (next_of Q).2] at A1
      have hlo := loOf_U64 Q
      unfold U64 at hlo
      have hpar : loOf Q % 2 = Q % 2 := by unfold loOf; omega
      have HP := hide hpar
      have HNE := hide (fun h => hilo_ne_u (D + -R) R (by omega) (by omega) h)
      clear hpar
      go_upto_region 10 with fail
      go_cut [8] (fun s8 wx => ∃ g, s8 = .pointer (some ⟨g, 0, none⟩) ∧ (wx.cell? ⟨g, 0, none⟩ = some (.int .i64 (hiOf (D + -R))) ∧ wx.cell? ⟨g, 1, none⟩ = some (.int .u64 (loOf (D + -R)))) ∧ (wx.cell? ⟨w.heap.size, 0, none⟩ = some (.int .i64 (hiOf (A))) ∧ wx.cell? ⟨w.heap.size, 1, none⟩ = some (.int .u64 (loOf (A)))) ∧ (wx.cell? ⟨w.heap.size + 1, 0, none⟩ = some (.int .i64 (hiOf (D))) ∧ wx.cell? ⟨w.heap.size + 1, 1, none⟩ = some (.int .u64 (loOf (D)))) ∧ (wx.cell? ⟨w.heap.size + 1 + 1, 0, none⟩ = some (.int .i64 0) ∧ wx.cell? ⟨w.heap.size + 1 + 1, 1, none⟩ = some (.int .u64 0)) ∧ (wx.cell? ⟨w.heap.size + 1 + 1 + 1, 0, none⟩ = some (.int .i64 (hiOf (Q))) ∧ wx.cell? ⟨w.heap.size + 1 + 1 + 1, 1, none⟩ = some (.int .u64 (loOf (Q)))) ∧ (wx.cell? ⟨w.heap.size + 1 + 1 + 1 + 1, 0, none⟩ = some (.int .i64 (hiOf (R))) ∧ wx.cell? ⟨w.heap.size + 1 + 1 + 1 + 1, 1, none⟩ = some (.int .u64 (loOf (R)))) ∧ Grown w wx)
      case first =>
        have l0 := heap_gt r00; have nr1 : w.heap.size + 1 < wr.heap.size := (by omega); have nr2 : w.heap.size + 1 + 1 < wr.heap.size := (by omega); have nr3 : w.heap.size + 1 + 1 + 1 < wr.heap.size := (by omega); have nr0 : w.heap.size < wr.heap.size := (by omega); have mr0 : wr.heap.size ≠ w.heap.size := (by omega); have pr0 : w.heap.size ≠ wr.heap.size := (by omega); have mr1 : wr.heap.size ≠ w.heap.size + 1 := (by omega); have pr1 : w.heap.size + 1 ≠ wr.heap.size := (by omega); have mr2 : wr.heap.size ≠ w.heap.size + 1 + 1 := (by omega); have pr2 : w.heap.size + 1 + 1 ≠ wr.heap.size := (by omega); have mr3 : wr.heap.size ≠ w.heap.size + 1 + 1 + 1 := (by omega); have pr3 : w.heap.size + 1 + 1 + 1 ≠ wr.heap.size := (by omega); have mr4 : wr.heap.size ≠ w.heap.size + 1 + 1 + 1 + 1 := (by omega); have pr4 : w.heap.size + 1 + 1 + 1 + 1 ≠ wr.heap.size := (by omega)
        go_region_held3 (fun w' => (w'.cell? ⟨w.heap.size + 1, 0, none⟩ = some (.int .i64 (hiOf (D))) ∧ w'.cell? ⟨w.heap.size + 1, 1, none⟩ = some (.int .u64 (loOf (D)))) ∧ (w'.cell? ⟨w.heap.size + 1 + 1 + 1 + 1, 0, none⟩ = some (.int .i64 (hiOf (R))) ∧ w'.cell? ⟨w.heap.size + 1 + 1 + 1 + 1, 1, none⟩ = some (.int .u64 (loOf (R)))))
          (simp [go_sem, *])
          (first
            | (go_at_call 103; refine (refNegV _ _).mono ?_; rintro e wm ⟨rfl, hgm⟩; have hgwm : Grown w wm := gtrans (by first | exact Grown.drew hg0 | exact Grown.drew (Grown.alloc hg0 _ _)) hgm; obtain ⟨am0, am1⟩ := gat2 hgm (w.heap.size) (.int .i64 (hiOf (A))) (.int .u64 (loOf (A))) (by constructor <;> simp [go_sem, *]); obtain ⟨dm0, dm1⟩ := gat2 hgm (w.heap.size + 1) (.int .i64 (hiOf (D))) (.int .u64 (loOf (D))) (by constructor <;> simp [go_sem, *]); obtain ⟨zm0, zm1⟩ := gat2 hgm (w.heap.size + 1 + 1) (.int .i64 0) (.int .u64 0) (by constructor <;> simp [go_sem, *]); obtain ⟨qm0, qm1⟩ := gat2 hgm (w.heap.size + 1 + 1 + 1) (.int .i64 (hiOf (Q))) (.int .u64 (loOf (Q))) (by constructor <;> simp [go_sem, *]); obtain ⟨rm0, rm1⟩ := gat2 hgm (w.heap.size + 1 + 1 + 1 + 1) (.int .i64 (hiOf (R))) (.int .u64 (loOf (R))) (by constructor <;> simp [go_sem, *]); have lm := heap_gt rm0; have nm1 : w.heap.size + 1 < wm.heap.size := (by omega); have nm2 : w.heap.size + 1 + 1 < wm.heap.size := (by omega); have nm3 : w.heap.size + 1 + 1 + 1 < wm.heap.size := (by omega); have nm0 : w.heap.size < wm.heap.size := (by omega); have mm0 : wm.heap.size ≠ w.heap.size := (by omega); have pm0 : w.heap.size ≠ wm.heap.size := (by omega); have mm1 : wm.heap.size ≠ w.heap.size + 1 := (by omega); have pm1 : w.heap.size + 1 ≠ wm.heap.size := (by omega); have mm2 : wm.heap.size ≠ w.heap.size + 1 + 1 := (by omega); have pm2 : w.heap.size + 1 + 1 ≠ wm.heap.size := (by omega); have mm3 : wm.heap.size ≠ w.heap.size + 1 + 1 + 1 := (by omega); have pm3 : w.heap.size + 1 + 1 + 1 ≠ wm.heap.size := (by omega); have mm4 : wm.heap.size ≠ w.heap.size + 1 + 1 + 1 + 1 := (by omega); have pm4 : w.heap.size + 1 + 1 + 1 + 1 ≠ wm.heap.size := (by omega); (try (refine with_gat2 hgm wr.heap.size (.int .i64 0) (.int .u64 0) ?_ ?_ ?_; (focus (first | assumption | (simp [go_sem]; done))); (focus (first | assumption | (simp [go_sem]; done))); intro yu0 yu1)))
            | (go_at_call 98; refine (refAddV _ _ _).mono ?_; rintro e wa ⟨rfl, hga⟩; have hgwa : Grown w wa := gtrans (by first | exact hgwm | exact Grown.alloc hgwm _ _) hga; have zz0 := fun o => frz hgwa wr.heap.size o hg0.2.2; have zz1 := fun o => frz hgwa wm.heap.size o hgwm.2.2; obtain ⟨aa0, aa1⟩ := gat2 hga (w.heap.size) (.int .i64 (hiOf (A))) (.int .u64 (loOf (A))) (by constructor <;> simp [go_sem, *]); obtain ⟨da0, da1⟩ := gat2 hga (w.heap.size + 1) (.int .i64 (hiOf (D))) (.int .u64 (loOf (D))) (by constructor <;> simp [go_sem, *]); obtain ⟨za0, za1⟩ := gat2 hga (w.heap.size + 1 + 1) (.int .i64 0) (.int .u64 0) (by constructor <;> simp [go_sem, *]); obtain ⟨qa0, qa1⟩ := gat2 hga (w.heap.size + 1 + 1 + 1) (.int .i64 (hiOf (Q))) (.int .u64 (loOf (Q))) (by constructor <;> simp [go_sem, *]); obtain ⟨ra0, ra1⟩ := gat2 hga (w.heap.size + 1 + 1 + 1 + 1) (.int .i64 (hiOf (R))) (.int .u64 (loOf (R))) (by constructor <;> simp [go_sem, *]); have la := heap_gt ra0; have na1 : w.heap.size + 1 < wa.heap.size := (by omega); have na2 : w.heap.size + 1 + 1 < wa.heap.size := (by omega); have na3 : w.heap.size + 1 + 1 + 1 < wa.heap.size := (by omega); have na0 : w.heap.size < wa.heap.size := (by omega); have ma0 : wa.heap.size ≠ w.heap.size := (by omega); have pa0 : w.heap.size ≠ wa.heap.size := (by omega); have ma1 : wa.heap.size ≠ w.heap.size + 1 := (by omega); have pa1 : w.heap.size + 1 ≠ wa.heap.size := (by omega); have ma2 : wa.heap.size ≠ w.heap.size + 1 + 1 := (by omega); have pa2 : w.heap.size + 1 + 1 ≠ wa.heap.size := (by omega); have ma3 : wa.heap.size ≠ w.heap.size + 1 + 1 + 1 := (by omega); have pa3 : w.heap.size + 1 + 1 + 1 ≠ wa.heap.size := (by omega); have ma4 : wa.heap.size ≠ w.heap.size + 1 + 1 + 1 + 1 := (by omega); have pa4 : w.heap.size + 1 + 1 + 1 + 1 ≠ wa.heap.size := (by omega); (try (refine with_gat2 hga wr.heap.size (.int .i64 0) (.int .u64 0) ?_ ?_ ?_; (focus (first | assumption | (simp [go_sem]; done))); (focus (first | assumption | (simp [go_sem]; done))); intro yv0 yv1)); (try (refine with_gat2 hga wm.heap.size (.int .i64 0) (.int .u64 0) ?_ ?_ ?_; (focus (first | assumption | (simp [go_sem]; done))); (focus (first | assumption | (simp [go_sem]; done))); intro yx0 yx1))))
        all_goals go_wp2_with fail
        all_goals go_meet
        all_goals refine ⟨_, rfl, ⟨?_, ?_⟩, ⟨?_, ?_⟩, ⟨?_, ?_⟩, ⟨?_, ?_⟩, ⟨?_, ?_⟩, ⟨?_, ?_⟩, ?_⟩
        all_goals first | (simp [go_sem, *]; done) | exact Grown.alloc hgwa _ _ | exact Grown.setCell (Grown.setCell hgwa hg0.2.2 _) hg0.2.2 _ | exact Grown.setCell (Grown.setCell hgwa hgwm.2.2 _) hgwm.2.2 _
      case rest =>
      obtain ⟨g, rfl, ⟨g20, g21⟩, ⟨a20, a21⟩, ⟨d20, d21⟩, ⟨z20, z21⟩, ⟨q20, q21⟩, ⟨r20, r21⟩, k2⟩ := hcut
      clear a00 a01 d00 d01 z00 z01 q00 q01 r00 r01 hg0
      by_cases c1 : D + -R < R
      · have HN := hide (show nearQ Q R (D + -R) = Q + 1 from by unfold nearQ; rw [if_pos (Or.inl c1)])
        rw [show decide (D + -R < R) = true from by simpa using c1] at BL
        clear c1
        go_wp2_with fail
        refine (unhide BL _).mono ?_
        rintro e w3 ⟨rfl, hg3⟩
        obtain ⟨z30, z31⟩ := gat2 hg3 _ _ _ ⟨z20, z21⟩
        obtain ⟨q30, q31⟩ := gat2 hg3 _ _ _ ⟨q20, q21⟩
        obtain ⟨r30, r31⟩ := gat2 hg3 _ _ _ ⟨r20, r21⟩
        obtain ⟨g30, g31⟩ := gat2 hg3 _ _ _ ⟨g20, g21⟩
        have k3 : Grown w w3 := gtrans k2 hg3
        clear hg3 k2 a20 a21 d20 d21 z20 z21 q20 q21 r20 r21 g20 g21 BL
        go_wp2_with fail
        refine (unhide A1 _).mono ?_
        rintro e w4 ⟨rfl, hg4⟩
        obtain ⟨z40, z41⟩ := gat2 hg4 _ _ _ ⟨z30, z31⟩
        obtain ⟨q40, q41⟩ := gat2 hg4 _ _ _ ⟨q30, q31⟩
        have k4 : Grown w w4 := gtrans k3 hg4
        have f4 := fun o => frz k4 (w.heap.size + 1 + 1 + 1) o (by omega)
        have f5 := fun o => frz k4 (w.heap.size + 1 + 1) o (by omega)
        clear hg4 k3 z30 z31 q30 q31 r30 r31 g30 g31
        go_wp2
        simp [bodyPost, results, Try.results101, go_sem, *]
        rw [unhide HQ, unhide HR, Int.sub_eq_add_neg, unhide HN]
        exact ⟨⟨rfl, rfl⟩, Grown.setCell (Grown.setCell (Grown.setCell (Grown.setCell k4 (by dsimp only; omega) _) (by dsimp only; omega) _) (by dsimp only; omega) _) (by dsimp only; omega) _⟩
      rw [show decide (D + -R < R) = false from by simpa using c1] at BL
      by_cases c2 : D + -R = R
      · have c3 : (hiOf (D + -R) == hiOf R) = true := by rw [c2]; simp
        have c4 : (loOf (D + -R) == loOf R) = true := by rw [c2]; simp
        by_cases c5 : Q % 2 = 1
        · have HN := hide (show nearQ Q R (D + -R) = Q + 1 from by unfold nearQ; rw [if_pos (Or.inr ⟨c2, c5⟩)])
          have c6 : loOf Q % 2 = 1 := by rw [unhide HP]; exact c5
          clear c1 c2 c5
          go_wp2_with fail
          refine (unhide BL _).mono ?_
          rintro e w3 ⟨rfl, hg3⟩
          obtain ⟨z30, z31⟩ := gat2 hg3 _ _ _ ⟨z20, z21⟩
          obtain ⟨q30, q31⟩ := gat2 hg3 _ _ _ ⟨q20, q21⟩
          obtain ⟨r30, r31⟩ := gat2 hg3 _ _ _ ⟨r20, r21⟩
          obtain ⟨g30, g31⟩ := gat2 hg3 _ _ _ ⟨g20, g21⟩
          have k3 : Grown w w3 := gtrans k2 hg3
          clear hg3 k2 a20 a21 d20 d21 z20 z21 q20 q21 r20 r21 g20 g21 BL
          go_wp2_with fail
          refine (unhide A1 _).mono ?_
          rintro e w4 ⟨rfl, hg4⟩
          obtain ⟨z40, z41⟩ := gat2 hg4 _ _ _ ⟨z30, z31⟩
          obtain ⟨q40, q41⟩ := gat2 hg4 _ _ _ ⟨q30, q31⟩
          have k4 : Grown w w4 := gtrans k3 hg4
          have f4 := fun o => frz k4 (w.heap.size + 1 + 1 + 1) o (by omega)
          have f5 := fun o => frz k4 (w.heap.size + 1 + 1) o (by omega)
          clear hg4 k3 z30 z31 q30 q31 r30 r31 g30 g31
          go_wp2
          simp [bodyPost, results, Try.results101, go_sem, *]
          rw [unhide HQ, unhide HR, Int.sub_eq_add_neg, unhide HN]
          exact ⟨⟨rfl, rfl⟩, Grown.setCell (Grown.setCell (Grown.setCell (Grown.setCell k4 (by dsimp only; omega) _) (by dsimp only; omega) _) (by dsimp only; omega) _) (by dsimp only; omega) _⟩
        · have HN := hide (show nearQ Q R (D + -R) = Q from by unfold nearQ; rw [if_neg (by omega)])
          have c6 : loOf Q % 2 = 0 := by rw [unhide HP]; omega
          clear c1 c2 c5
          go_wp2_with fail
          refine (unhide BL _).mono ?_
          rintro e w3 ⟨rfl, hg3⟩
          obtain ⟨z30, z31⟩ := gat2 hg3 _ _ _ ⟨z20, z21⟩
          obtain ⟨q30, q31⟩ := gat2 hg3 _ _ _ ⟨q20, q21⟩
          obtain ⟨r30, r31⟩ := gat2 hg3 _ _ _ ⟨r20, r21⟩
          obtain ⟨g30, g31⟩ := gat2 hg3 _ _ _ ⟨g20, g21⟩
          have k3 : Grown w w3 := gtrans k2 hg3
          clear hg3 k2 a20 a21 d20 d21 z20 z21 q20 q21 r20 r21 g20 g21 BL
          have f5 := fun o => frz k3 (w.heap.size + 1 + 1) o (by omega)
          go_wp2
          simp [bodyPost, results, Try.results101, go_sem, *]
          rw [unhide HQ, unhide HR, Int.sub_eq_add_neg, unhide HN]
          exact ⟨⟨rfl, rfl⟩, Grown.setCell (Grown.setCell k3 (by dsimp only; omega) _) (by dsimp only; omega) _⟩
      · have HN := hide (show nearQ Q R (D + -R) = Q from by unfold nearQ; rw [if_neg (by omega)])
        have hne := unhide HNE c2
        by_cases g5 : (hiOf (D + -R) == hiOf R) = true
        · have g6 : (loOf (D + -R) == loOf R) = false := by
            rw [beq_eq_false_iff_ne]; rcases hne with h | h
            · exact absurd (by simpa using g5) h
            · exact h
          clear hne c1 c2
          go_wp2_with fail
          refine (unhide BL _).mono ?_
          rintro e w3 ⟨rfl, hg3⟩
          obtain ⟨z30, z31⟩ := gat2 hg3 _ _ _ ⟨z20, z21⟩
          obtain ⟨q30, q31⟩ := gat2 hg3 _ _ _ ⟨q20, q21⟩
          obtain ⟨r30, r31⟩ := gat2 hg3 _ _ _ ⟨r20, r21⟩
          obtain ⟨g30, g31⟩ := gat2 hg3 _ _ _ ⟨g20, g21⟩
          have k3 : Grown w w3 := gtrans k2 hg3
          clear hg3 k2 a20 a21 d20 d21 z20 z21 q20 q21 r20 r21 g20 g21 BL
          have f5 := fun o => frz k3 (w.heap.size + 1 + 1) o (by omega)
          go_wp2
          simp [bodyPost, results, Try.results101, go_sem, *]
          rw [unhide HQ, unhide HR, Int.sub_eq_add_neg, unhide HN]
          exact ⟨⟨rfl, rfl⟩, Grown.setCell (Grown.setCell k3 (by dsimp only; omega) _) (by dsimp only; omega) _⟩
        · have g6 : (hiOf (D + -R) == hiOf R) = false := by simpa using g5
          clear hne c1 c2 g5
          go_wp2_with fail
          refine (unhide BL _).mono ?_
          rintro e w3 ⟨rfl, hg3⟩
          obtain ⟨z30, z31⟩ := gat2 hg3 _ _ _ ⟨z20, z21⟩
          obtain ⟨q30, q31⟩ := gat2 hg3 _ _ _ ⟨q20, q21⟩
          obtain ⟨r30, r31⟩ := gat2 hg3 _ _ _ ⟨r20, r21⟩
          obtain ⟨g30, g31⟩ := gat2 hg3 _ _ _ ⟨g20, g21⟩
          have k3 : Grown w w3 := gtrans k2 hg3
          clear hg3 k2 a20 a21 d20 d21 z20 z21 q20 q21 r20 r21 g20 g21 BL
          have f5 := fun o => frz k3 (w.heap.size + 1 + 1) o (by omega)
          go_wp2
          simp [bodyPost, results, Try.results101, go_sem, *]
          rw [unhide HQ, unhide HR, Int.sub_eq_add_neg, unhide HN]
          exact ⟨⟨rfl, rfl⟩, Grown.setCell (Grown.setCell k3 (by dsimp only; omega) _) (by dsimp only; omega) _⟩
    · obtain ⟨j, rfl⟩ : ∃ j, k = j + 1 := ⟨k - 1, by omega⟩
      rw [show ((j + 1 : Nat) : Int) - 1 = (j : Int) from by omega]
      have BT := hide (fun w => refBit A j (by omega) (by omega) w)
      rw [Int.toNat_natCast] at BT
      have hob := one_bit (A / 2 ^ j)
      obtain ⟨bt, hbt⟩ : ∃ bt, decide (A / 2 ^ j % 2 = 1) = bt := ⟨_, rfl⟩
      rw [hbt] at BT hob
      have hls := long_step (A / 2 ^ (j + 1)) D (one bt) hD.1 (by rw [hob]; omega)
      rw [hob, ← pow_half A j, ← hob] at hls
      have hr0 := Int.emod_nonneg (A / 2 ^ (j + 1)) (by omega : D ≠ 0)
      have hr1 := Int.emod_lt_of_pos (A / 2 ^ (j + 1)) hD.1
      have ho : one bt = 0 ∨ one bt = 1 := by rw [hob]; omega
      generalize A / 2 ^ (j + 1) / D = Q at *
      generalize A / 2 ^ (j + 1) % D = R at *
      have hm1 := umag_small (2 * R + one bt) (by omega)
      have hm2 := umag_small D (by omega)
      have BL := hide (fun w => refBelow (2 * R + one bt) D w)
      rw [hm1, hm2] at BL
      have HLS := hide hls
      clear hbt hob hr0 hr1 ho hm1 hm2 hk0 hls
      go_upto_region 5 with fail
      go_cut [] (fun wx => (wx.cell? ⟨w.heap.size, 0, none⟩ = some (.int .i64 (hiOf (A))) ∧ wx.cell? ⟨w.heap.size, 1, none⟩ = some (.int .u64 (loOf (A)))) ∧ (wx.cell? ⟨w.heap.size + 1, 0, none⟩ = some (.int .i64 (hiOf (D))) ∧ wx.cell? ⟨w.heap.size + 1, 1, none⟩ = some (.int .u64 (loOf (D)))) ∧ (wx.cell? ⟨w.heap.size + 1 + 1, 0, none⟩ = some (.int .i64 0) ∧ wx.cell? ⟨w.heap.size + 1 + 1, 1, none⟩ = some (.int .u64 0)) ∧ (wx.cell? ⟨w.heap.size + 1 + 1 + 1, 0, none⟩ = some (.int .i64 (hiOf (Q))) ∧ wx.cell? ⟨w.heap.size + 1 + 1 + 1, 1, none⟩ = some (.int .u64 (loOf (Q)))) ∧ (wx.cell? ⟨w.heap.size + 1 + 1 + 1 + 1, 0, none⟩ = some (.int .i64 (hiOf (2 * R + one bt))) ∧ wx.cell? ⟨w.heap.size + 1 + 1 + 1 + 1, 1, none⟩ = some (.int .u64 (loOf (2 * R + one bt)))) ∧ Grown w wx)
      case first =>
        go_region_with
          (first
            | (go_at_call 104; refine (unhide BT _).mono ?_; rintro e w1 ⟨rfl, hg1⟩; obtain ⟨a10, a11⟩ := gat2 hg1 (w.heap.size) (.int .i64 (hiOf (A))) (.int .u64 (loOf (A))) (by constructor <;> simp [go_sem, *]); obtain ⟨d10, d11⟩ := gat2 hg1 (w.heap.size + 1) (.int .i64 (hiOf (D))) (.int .u64 (loOf (D))) (by constructor <;> simp [go_sem, *]); obtain ⟨z10, z11⟩ := gat2 hg1 (w.heap.size + 1 + 1) (.int .i64 0) (.int .u64 0) (by constructor <;> simp [go_sem, *]); obtain ⟨q10, q11⟩ := gat2 hg1 (w.heap.size + 1 + 1 + 1) (.int .i64 (hiOf (Q))) (.int .u64 (loOf (Q))) (by constructor <;> simp [go_sem, *]); obtain ⟨r10, r11⟩ := gat2 hg1 (w.heap.size + 1 + 1 + 1 + 1) (.int .i64 (hiOf (R))) (.int .u64 (loOf (R))) (by constructor <;> simp [go_sem, *]); have k1 : Grown w w1 := gtrans (by exact Grown.drew hg0) hg1)
            | (go_at_call 100; refine (refTwice _ _ _).mono ?_; rintro e w2 ⟨rfl, hg2⟩; obtain ⟨a20, a21⟩ := gat2 hg2 (w.heap.size) (.int .i64 (hiOf (A))) (.int .u64 (loOf (A))) (by constructor <;> simp [go_sem, *]); obtain ⟨d20, d21⟩ := gat2 hg2 (w.heap.size + 1) (.int .i64 (hiOf (D))) (.int .u64 (loOf (D))) (by constructor <;> simp [go_sem, *]); obtain ⟨z20, z21⟩ := gat2 hg2 (w.heap.size + 1 + 1) (.int .i64 0) (.int .u64 0) (by constructor <;> simp [go_sem, *]); obtain ⟨q20, q21⟩ := gat2 hg2 (w.heap.size + 1 + 1 + 1) (.int .i64 (hiOf (Q))) (.int .u64 (loOf (Q))) (by constructor <;> simp [go_sem, *]); obtain ⟨r20, r21⟩ := gat2 hg2 (w.heap.size + 1 + 1 + 1 + 1) (.int .i64 (hiOf (R))) (.int .u64 (loOf (R))) (by constructor <;> simp [go_sem, *]); have k2 : Grown w w2 := gtrans k1 hg2; have f2 := fun o => frz k2 (w.heap.size + 1 + 1 + 1 + 1) o (by omega)))
        all_goals go_wp2_with fail
        all_goals go_meet
        all_goals exact ⟨⟨by simp [go_sem, *], by simp [go_sem, *]⟩, ⟨by simp [go_sem, *], by simp [go_sem, *]⟩, ⟨by simp [go_sem, *], by simp [go_sem, *]⟩, ⟨by simp [go_sem, *], by simp [go_sem, *]⟩, ⟨by simp [go_sem, *], by simp [go_sem, *]⟩, Grown.setCell (Grown.setCell k2 (by dsimp only; omega) _) (by dsimp only; omega) _⟩
      case rest =>
      obtain ⟨⟨a20, a21⟩, ⟨d20, d21⟩, ⟨z20, z21⟩, ⟨q20, q21⟩, ⟨r20, r21⟩, k2⟩ := hcut
      clear a00 a01 d00 d01 z00 z01 q00 q01 r00 r01 hg0
      go_wp2_with fail
      refine (refTwice _ _ _).mono ?_
      rintro e w3 ⟨rfl, hg3⟩
      obtain ⟨a30, a31⟩ := gat2 hg3 (w.heap.size) (.int .i64 (hiOf (A))) (.int .u64 (loOf (A))) (by constructor <;> simp [go_sem, *])
      obtain ⟨d30, d31⟩ := gat2 hg3 (w.heap.size + 1) (.int .i64 (hiOf (D))) (.int .u64 (loOf (D))) (by constructor <;> simp [go_sem, *])
      obtain ⟨z30, z31⟩ := gat2 hg3 (w.heap.size + 1 + 1) (.int .i64 0) (.int .u64 0) (by constructor <;> simp [go_sem, *])
      obtain ⟨q30, q31⟩ := gat2 hg3 (w.heap.size + 1 + 1 + 1) (.int .i64 (hiOf (Q))) (.int .u64 (loOf (Q))) (by constructor <;> simp [go_sem, *])
      obtain ⟨r30, r31⟩ := gat2 hg3 (w.heap.size + 1 + 1 + 1 + 1) (.int .i64 (hiOf (2 * R + one bt))) (.int .u64 (loOf (2 * R + one bt))) (by constructor <;> simp [go_sem, *])
      have k3 : Grown w w3 := gtrans k2 hg3
      have f3 := fun o => frz k3 (w.heap.size + 1 + 1 + 1) o (by omega)
      clear hg3 k2 a20 a21 d20 d21 z20 z21 q20 q21 r20 r21
      go_wp2_with fail
      refine (unhide BL _).mono ?_
      rintro e w4 ⟨rfl, hg4⟩
      obtain ⟨a40, a41⟩ := gat2 hg4 (w.heap.size) (.int .i64 (hiOf (A))) (.int .u64 (loOf (A))) (by constructor <;> simp [go_sem, *])
      obtain ⟨d40, d41⟩ := gat2 hg4 (w.heap.size + 1) (.int .i64 (hiOf (D))) (.int .u64 (loOf (D))) (by constructor <;> simp [go_sem, *])
      obtain ⟨z40, z41⟩ := gat2 hg4 (w.heap.size + 1 + 1) (.int .i64 0) (.int .u64 0) (by constructor <;> simp [go_sem, *])
      obtain ⟨q40, q41⟩ := gat2 hg4 (w.heap.size + 1 + 1 + 1) (.int .i64 (hiOf (2 * Q + one false))) (.int .u64 (loOf (2 * Q + one false))) (by constructor <;> simp [go_sem, *])
      obtain ⟨r40, r41⟩ := gat2 hg4 (w.heap.size + 1 + 1 + 1 + 1) (.int .i64 (hiOf (2 * R + one bt))) (.int .u64 (loOf (2 * R + one bt))) (by constructor <;> simp [go_sem, *])
      have k4 : Grown w w4 := gtrans (Grown.setCell (Grown.setCell k3 (by dsimp only; omega) _) (by dsimp only; omega) _) hg4
      clear hg4 k3 f3 a30 a31 d30 d31 z30 z31 q30 q31 r30 r31
      by_cases hlt : 2 * R + one bt < D
      · obtain ⟨v1, v2⟩ := (unhide HLS).1 hlt
        have V1 := hide v1; have V2 := hide v2
        rw [show decide (2 * R + one bt < D) = true from by simpa using hlt]
        clear v1 v2 hlt HLS
        go_wp2
        go_roundw
        case rel =>
          refine ⟨j, by omega, by go_num, ⟨a40, a41⟩, ⟨d40, d41⟩, ⟨z40, z41⟩, ?_, ?_, k4⟩
          · rw [unhide V1, show 2 * Q = 2 * Q + one false from by unfold one; simp]; exact ⟨q40, q41⟩
          · rw [unhide V2]; exact ⟨r40, r41⟩
        case measure => simp [intOf]
      · obtain ⟨v1, v2⟩ := (unhide HLS).2 (by omega)
        have V1 := hide v1; have V2 := hide v2
        rw [show decide (2 * R + one bt < D) = false from by simpa using hlt]
        clear v1 v2 hlt HLS
        go_upto_region 8 with fail
        go_cut [] (fun wx => (wx.cell? ⟨w.heap.size, 0, none⟩ = some (.int .i64 (hiOf (A))) ∧ wx.cell? ⟨w.heap.size, 1, none⟩ = some (.int .u64 (loOf (A)))) ∧ (wx.cell? ⟨w.heap.size + 1, 0, none⟩ = some (.int .i64 (hiOf (D))) ∧ wx.cell? ⟨w.heap.size + 1, 1, none⟩ = some (.int .u64 (loOf (D)))) ∧ (wx.cell? ⟨w.heap.size + 1 + 1, 0, none⟩ = some (.int .i64 0) ∧ wx.cell? ⟨w.heap.size + 1 + 1, 1, none⟩ = some (.int .u64 0)) ∧ (wx.cell? ⟨w.heap.size + 1 + 1 + 1, 0, none⟩ = some (.int .i64 (hiOf (2 * Q + one false))) ∧ wx.cell? ⟨w.heap.size + 1 + 1 + 1, 1, none⟩ = some (.int .u64 (loOf (2 * Q + one false)))) ∧ (wx.cell? ⟨w.heap.size + 1 + 1 + 1 + 1, 0, none⟩ = some (.int .i64 (hiOf (2 * R + one bt + -D))) ∧ wx.cell? ⟨w.heap.size + 1 + 1 + 1 + 1, 1, none⟩ = some (.int .u64 (loOf (2 * R + one bt + -D)))) ∧ Grown w wx)
        case first =>
          go_region_with
            (first
              | (go_at_call 103; refine (refNegV _ _).mono ?_; rintro e w5 ⟨rfl, hg5⟩; obtain ⟨a50, a51⟩ := gat2 hg5 (w.heap.size) (.int .i64 (hiOf (A))) (.int .u64 (loOf (A))) (by constructor <;> simp [go_sem, *]); obtain ⟨d50, d51⟩ := gat2 hg5 (w.heap.size + 1) (.int .i64 (hiOf (D))) (.int .u64 (loOf (D))) (by constructor <;> simp [go_sem, *]); obtain ⟨z50, z51⟩ := gat2 hg5 (w.heap.size + 1 + 1) (.int .i64 0) (.int .u64 0) (by constructor <;> simp [go_sem, *]); obtain ⟨q50, q51⟩ := gat2 hg5 (w.heap.size + 1 + 1 + 1) (.int .i64 (hiOf (2 * Q + one false))) (.int .u64 (loOf (2 * Q + one false))) (by constructor <;> simp [go_sem, *]); obtain ⟨r50, r51⟩ := gat2 hg5 (w.heap.size + 1 + 1 + 1 + 1) (.int .i64 (hiOf (2 * R + one bt))) (.int .u64 (loOf (2 * R + one bt))) (by constructor <;> simp [go_sem, *]); have k5 : Grown w w5 := gtrans (by exact Grown.drew k4) hg5)
              | (go_at_call 98; refine (refAddV _ _ _).mono ?_; rintro e w6 ⟨rfl, hg6⟩; obtain ⟨a60, a61⟩ := gat2 hg6 (w.heap.size) (.int .i64 (hiOf (A))) (.int .u64 (loOf (A))) (by constructor <;> simp [go_sem, *]); obtain ⟨d60, d61⟩ := gat2 hg6 (w.heap.size + 1) (.int .i64 (hiOf (D))) (.int .u64 (loOf (D))) (by constructor <;> simp [go_sem, *]); obtain ⟨z60, z61⟩ := gat2 hg6 (w.heap.size + 1 + 1) (.int .i64 0) (.int .u64 0) (by constructor <;> simp [go_sem, *]); obtain ⟨q60, q61⟩ := gat2 hg6 (w.heap.size + 1 + 1 + 1) (.int .i64 (hiOf (2 * Q + one false))) (.int .u64 (loOf (2 * Q + one false))) (by constructor <;> simp [go_sem, *]); obtain ⟨r60, r61⟩ := gat2 hg6 (w.heap.size + 1 + 1 + 1 + 1) (.int .i64 (hiOf (2 * R + one bt))) (.int .u64 (loOf (2 * R + one bt))) (by constructor <;> simp [go_sem, *]); have k6 : Grown w w6 := gtrans k5 hg6; have f6 := fun o => frz k6 (w.heap.size + 1 + 1 + 1 + 1) o (by omega)))
          all_goals go_wp2_with fail
          all_goals go_meet
          all_goals exact ⟨⟨by simp [go_sem, *], by simp [go_sem, *]⟩, ⟨by simp [go_sem, *], by simp [go_sem, *]⟩, ⟨by simp [go_sem, *], by simp [go_sem, *]⟩, ⟨by simp [go_sem, *], by simp [go_sem, *]⟩, ⟨by simp [go_sem, *], by simp [go_sem, *]⟩, Grown.setCell (Grown.setCell k6 (by dsimp only; omega) _) (by dsimp only; omega) _⟩
        case rest =>
        obtain ⟨⟨a60, a61⟩, ⟨d60, d61⟩, ⟨z60, z61⟩, ⟨q60, q61⟩, ⟨r60, r61⟩, k6⟩ := hcut
        clear a40 a41 d40 d41 z40 z41 q40 q41 r40 r41 k4
        have f7 := fun o => frz k6 (w.heap.size + 1 + 1 + 1) o (by omega)
        go_wp2
        go_roundw
        case rel =>
          refine ⟨j, by omega, by go_num, ⟨by simp [go_sem, *], by simp [go_sem, *]⟩, ⟨by simp [go_sem, *], by simp [go_sem, *]⟩, ⟨by simp [go_sem, *], by simp [go_sem, *]⟩, ?_, ?_, Grown.setCell k6 (by dsimp only; omega) _⟩
          · rw [unhide V1, ← (even_next Q).1, ← (even_next Q).2]; constructor <;> simp [go_sem, *]
          · rw [unhide V2]; constructor <;> simp [go_sem, *]
        case measure => simp [intOf]

end Go.Proofs.Ytcobicnpdmgnjaa

/- The document's Round and Div, walked over its helper rounded. -/
namespace Go.Proofs.Ytcobicnpdmgnjaa
open Go.RowKit Go.Proofs.Wd
set_option linter.unusedVariables false
set_option linter.unusedSimpArgs false
attribute [local go_sem ↓] Go.wp_at_zero Go.wp_at_succ

theorem one_two (k : Nat) : 2 * (2 : Int) ^ k + one false = 2 ^ (k + 1) := by unfold one; rw [Int.pow_succ]; simp; omega
theorem abs_range (A : Int) (hA : wrapW A = A) : 0 ≤ absI A ∧ absI A ≤ 170141183460469231731687303715884105728 := by
  have : -170141183460469231731687303715884105728 ≤ A ∧ A < 170141183460469231731687303715884105728 := by rw [← hA]; unfold wrapW; omega
  unfold absI; split <;> omega
theorem hi_sign (A : Int) (hA : wrapW A = A) : (hiOf A < 0) = (A < 0) := by
  have : -170141183460469231731687303715884105728 ≤ A ∧ A < 170141183460469231731687303715884105728 := by rw [← hA]; unfold wrapW; omega
  unfold hiOf; apply propext; omega

set_option maxHeartbeats 4000000 in
theorem refRound (A n : Int) (hA : wrapW A = A) (h3 : 0 ≤ n) (h4 : n ≤ 127) (w : World) :
    Calls Try.prog 88 #[.agg #[.int .i64 (hiOf A), .int .u64 (loOf A)], .int .i64 n] w fun e w' => e = .returned (.tuple #[.agg #[.int .i64 (hiOf (rdiv A (2 ^ n.toNat))), .int .u64 (loOf (rdiv A (2 ^ n.toNat)))], .int .i64 0]) ∧ Grown w w' := by
  have hn0 : decide (n < 0) = false := by simp; omega
  have hn1 : decide (127 < n) = false := by simp; omega
  have hK := pow2_pos n.toNat
  have hK' := pow127 n h3 h4
  have hab := abs_range A hA
  have RD := hide (fun w => refRounded_loop (absI A) (2 ^ n.toNat) hab ⟨hK, hK'⟩ w)
  have HS := hide (sg_near A (2 ^ n.toNat) (decide (A < 0)) hK rfl)
  have HI := hide (hi_sign A hA)
  have HA := hide hA
  clear hK hK' hab hA
  go_enter Try.func88, Try.ntmps88
  go_wp2
  go_loopw [7] (fun i wr => ∃ k : Nat, (k : Int) ≤ n ∧ i = .int .i64 (k : Int) ∧ (wr.cell? ⟨w.heap.size, 0, none⟩ = some (.int .i64 (hiOf (A))) ∧ wr.cell? ⟨w.heap.size, 1, none⟩ = some (.int .u64 (loOf (A)))) ∧ (wr.cell? ⟨w.heap.size + 1, 0, none⟩ = some (.int .i64 0) ∧ wr.cell? ⟨w.heap.size + 1, 1, none⟩ = some (.int .u64 0)) ∧ (wr.cell? ⟨w.heap.size + 1 + 1, 0, none⟩ = some (.int .i64 (hiOf (2 ^ k))) ∧ wr.cell? ⟨w.heap.size + 1 + 1, 1, none⟩ = some (.int .u64 (loOf (2 ^ k)))) ∧ Grown w wr) (fun i _ => (n - intOf i).toNat)
  case atStart => exact ⟨0, by omega, rfl, ⟨by simp [go_sem], by simp [go_sem]⟩, ⟨by simp [go_sem], by simp [go_sem]⟩, ⟨by rw [show hiOf (2 ^ 0) = 0 from by decide]; simp [go_sem], by rw [show loOf (2 ^ 0) = 1 from by decide]; simp [go_sem]⟩, (((Grown.refl _).alloc _ _).alloc _ _).alloc _ _⟩
  case round =>
    obtain ⟨k, hk, rfl, ⟨a0, a1⟩, ⟨z0, z1⟩, ⟨d0, d1⟩, gr⟩ := hrel
    by_cases hlt : (k : Int) < n
    · have HT := hide (one_two k)
      go_wp2_with fail
      refine (refTwice _ _ _).mono ?_
      rintro e w1 ⟨rfl, hg1⟩
      obtain ⟨a10, a11⟩ := gat2 hg1 _ _ _ ⟨a0, a1⟩
      obtain ⟨z10, z11⟩ := gat2 hg1 _ _ _ ⟨z0, z1⟩
      obtain ⟨d10, d11⟩ := gat2 hg1 _ _ _ ⟨d0, d1⟩
      have k1 : Grown w w1 := gtrans gr hg1
      have f1 := fun o => frz k1 (w.heap.size + 1 + 1) o (by omega)
      clear hg1 a0 a1 z0 z1 d0 d1 gr
      go_wp2
      go_roundw
      case rel =>
        refine ⟨k + 1, by omega, by go_num, ⟨by simp [go_sem, *], by simp [go_sem, *]⟩, ⟨by simp [go_sem, *], by simp [go_sem, *]⟩, ?_, Grown.setCell (Grown.setCell k1 (by dsimp only; omega) _) (by dsimp only; omega) _⟩
        rw [← unhide HT]; constructor <;> simp [go_sem, *]
      case measure => simp [intOf]; omega
    · obtain rfl : n = (k : Int) := by omega
      rw [Int.toNat_natCast] at RD HS
      obtain ⟨D, hD⟩ : ∃ D, (2 : Int) ^ k = D := ⟨_, rfl⟩
      have HD := hide hD
      rw [hD] at d0 d1 RD HS
      clear hD
      obtain ⟨V, hV⟩ : ∃ V, nearQ (absI A / D) (absI A % D) (D - absI A % D) = V := ⟨_, rfl⟩
      rw [hV] at RD HS
      have HW := hide (show absI (wrapW A) = absI A from by rw [unhide HA])
      rw [← unhide HW] at RD
      clear hV
      go_upto_region 8 with fail
      go_cut [8] (fun s8 wx => ∃ g, s8 = .pointer (some ⟨g, 0, none⟩) ∧ (wx.cell? ⟨g, 0, none⟩ = some (.int .i64 (hiOf (V))) ∧ wx.cell? ⟨g, 1, none⟩ = some (.int .u64 (loOf (V)))) ∧ (wx.cell? ⟨w.heap.size, 0, none⟩ = some (.int .i64 (hiOf (A))) ∧ wx.cell? ⟨w.heap.size, 1, none⟩ = some (.int .u64 (loOf (A)))) ∧ (wx.cell? ⟨w.heap.size + 1, 0, none⟩ = some (.int .i64 0) ∧ wx.cell? ⟨w.heap.size + 1, 1, none⟩ = some (.int .u64 0)) ∧ Grown w wx)
      case first =>
        have lwr := heap_gt d0; have nwr0 : w.heap.size < wr.heap.size := (by omega); have mwr0 : wr.heap.size ≠ w.heap.size := (by omega); have pwr0 : w.heap.size ≠ wr.heap.size := (by omega); have nwr1 : w.heap.size + 1 < wr.heap.size := (by omega); have mwr1 : wr.heap.size ≠ w.heap.size + 1 := (by omega); have pwr1 : w.heap.size + 1 ≠ wr.heap.size := (by omega); have nwr2 : w.heap.size + 1 + 1 < wr.heap.size := (by omega); have mwr2 : wr.heap.size ≠ w.heap.size + 1 + 1 := (by omega); have pwr2 : w.heap.size + 1 + 1 ≠ wr.heap.size := (by omega)
        go_region_held3 (fun w' => (w'.cell? ⟨w.heap.size, 0, none⟩ = some (.int .i64 (hiOf (A))) ∧ w'.cell? ⟨w.heap.size, 1, none⟩ = some (.int .u64 (loOf (A)))) ∧ (w'.cell? ⟨w.heap.size + 1 + 1, 0, none⟩ = some (.int .i64 (hiOf (D))) ∧ w'.cell? ⟨w.heap.size + 1 + 1, 1, none⟩ = some (.int .u64 (loOf (D)))))
          (simp [go_sem, *])
          (first
            | (go_at_call 102; refine (refWhole _ _).mono ?_; rintro e wm ⟨rfl, hwm⟩; have gwm : Grown w wm := gtrans (by first | exact Grown.drew gr | exact Grown.drew (Grown.alloc gr _ _)) hwm; obtain ⟨awm0, awm1⟩ := gat2 hwm (w.heap.size) (.int .i64 (hiOf (A))) (.int .u64 (loOf (A))) (by constructor <;> simp [go_sem, *]); obtain ⟨zwm0, zwm1⟩ := gat2 hwm (w.heap.size + 1) (.int .i64 0) (.int .u64 0) (by constructor <;> simp [go_sem, *]); obtain ⟨dwm0, dwm1⟩ := gat2 hwm (w.heap.size + 1 + 1) (.int .i64 (hiOf (D))) (.int .u64 (loOf (D))) (by constructor <;> simp [go_sem, *]); have lwm := heap_gt dwm0; have nwm0 : w.heap.size < wm.heap.size := (by omega); have mwm0 : wm.heap.size ≠ w.heap.size := (by omega); have pwm0 : w.heap.size ≠ wm.heap.size := (by omega); have nwm1 : w.heap.size + 1 < wm.heap.size := (by omega); have mwm1 : wm.heap.size ≠ w.heap.size + 1 := (by omega); have pwm1 : w.heap.size + 1 ≠ wm.heap.size := (by omega); have nwm2 : w.heap.size + 1 + 1 < wm.heap.size := (by omega); have mwm2 : wm.heap.size ≠ w.heap.size + 1 + 1 := (by omega); have pwm2 : w.heap.size + 1 + 1 ≠ wm.heap.size := (by omega); (try (refine with_gat2 hwm wr.heap.size (.int .i64 0) (.int .u64 0) ?_ ?_ ?_; (focus (first | assumption | (simp [go_sem]; done))); (focus (first | assumption | (simp [go_sem]; done))); intro ywm00 ywm01)))
            | (go_at_call 101; refine (unhide RD _).mono ?_; rintro e wa ⟨rfl, hwa⟩; have gwa : Grown w wa := gtrans (by first | exact gwm | exact Grown.alloc gwm _ _) hwa; obtain ⟨awa0, awa1⟩ := gat2 hwa (w.heap.size) (.int .i64 (hiOf (A))) (.int .u64 (loOf (A))) (by constructor <;> simp [go_sem, *]); obtain ⟨zwa0, zwa1⟩ := gat2 hwa (w.heap.size + 1) (.int .i64 0) (.int .u64 0) (by constructor <;> simp [go_sem, *]); obtain ⟨dwa0, dwa1⟩ := gat2 hwa (w.heap.size + 1 + 1) (.int .i64 (hiOf (D))) (.int .u64 (loOf (D))) (by constructor <;> simp [go_sem, *]); have lwa := heap_gt dwa0; have nwa0 : w.heap.size < wa.heap.size := (by omega); have mwa0 : wa.heap.size ≠ w.heap.size := (by omega); have pwa0 : w.heap.size ≠ wa.heap.size := (by omega); have nwa1 : w.heap.size + 1 < wa.heap.size := (by omega); have mwa1 : wa.heap.size ≠ w.heap.size + 1 := (by omega); have pwa1 : w.heap.size + 1 ≠ wa.heap.size := (by omega); have nwa2 : w.heap.size + 1 + 1 < wa.heap.size := (by omega); have mwa2 : wa.heap.size ≠ w.heap.size + 1 + 1 := (by omega); have pwa2 : w.heap.size + 1 + 1 ≠ wa.heap.size := (by omega); have zz0 := fun o => frz gwa wr.heap.size o gr.2.2; have zz1 := fun o => frz gwa wm.heap.size o gwm.2.2; (try (refine with_gat2 hwa wr.heap.size (.int .i64 0) (.int .u64 0) ?_ ?_ ?_; (focus (first | assumption | (simp [go_sem]; done))); (focus (first | assumption | (simp [go_sem]; done))); intro ywa00 ywa01)); (try (refine with_gat2 hwa wm.heap.size (.int .i64 0) (.int .u64 0) ?_ ?_ ?_; (focus (first | assumption | (simp [go_sem]; done))); (focus (first | assumption | (simp [go_sem]; done))); intro ywa10 ywa11))))
        all_goals go_wp2_with fail
        all_goals go_meet
        all_goals refine ⟨_, rfl, ⟨?_, ?_⟩, ⟨?_, ?_⟩, ⟨?_, ?_⟩, ?_⟩
        all_goals first | (simp [go_sem, *]; done) | exact Grown.alloc gwa _ _ | exact Grown.setCell (Grown.setCell gwa gr.2.2 _) gr.2.2 _ | exact Grown.setCell (Grown.setCell gwa gwm.2.2 _) gwm.2.2 _
      case rest =>
      obtain ⟨g, rfl, ⟨g20, g21⟩, ⟨a20, a21⟩, ⟨z20, z21⟩, k2⟩ := hcut
      clear a0 a1 d0 d1 z0 z1 gr
      by_cases hs : hiOf A < 0
      · have hs' : A < 0 := by rw [← unhide HI]; exact hs
        rw [show sg (decide (A < 0)) V = -V from by unfold sg; simp [hs']] at HS
        go_wp2_with fail
        refine (refNegV _ _).mono ?_
        rintro e w3 ⟨rfl, hg3⟩
        obtain ⟨z30, z31⟩ := gat2 hg3 _ _ _ ⟨z20, z21⟩
        have k3 : Grown w w3 := gtrans k2 hg3
        have f5 := fun o => frz k3 (w.heap.size + 1) o (by omega)
        clear z20 z21
        go_wp2
        simp [bodyPost, results, Try.results88, go_sem, *]
        rw [unhide HD, ← unhide HS]
        exact ⟨⟨rfl, rfl⟩, Grown.setCell (Grown.setCell k3 (by dsimp only; omega) _) (by dsimp only; omega) _⟩
      · have hs' : ¬ A < 0 := by rw [← unhide HI]; omega
        rw [show sg (decide (A < 0)) V = V from by unfold sg; simp [hs']] at HS
        have z30 := z20; have z31 := z21; have k3 := k2
        have f5 := fun o => frz k3 (w.heap.size + 1) o (by omega)
        clear z20 z21
        go_wp2
        simp [bodyPost, results, Try.results88, go_sem, *]
        rw [unhide HD, ← unhide HS]
        exact ⟨⟨rfl, rfl⟩, Grown.setCell (Grown.setCell k3 (by dsimp only; omega) _) (by dsimp only; omega) _⟩

set_option maxHeartbeats 400000 in
theorem refRound_bad (ah al n : Int) (h : n < 0 ∨ 127 < n) (w : World) :
    Calls Try.prog 88 #[.agg #[.int .i64 ah, .int .u64 al], .int .i64 n] w fun e w' => e = .returned (.tuple #[.agg #[.int .i64 0, .int .u64 0], .int .i64 2]) ∧ Grown w w' := by
  rcases h with h | h
  · go_enter Try.func88, Try.ntmps88
    go_wp2
    simp [bodyPost, results, Try.results88, go_sem]
    exact ((Grown.refl _).alloc _ _).alloc _ _
  · have h' : ¬ n < 0 := by omega
    go_enter Try.func88, Try.ntmps88
    go_wp2
    simp [bodyPost, results, Try.results88, go_sem]
    exact ((Grown.refl _).alloc _ _).alloc _ _

end Go.Proofs.Ytcobicnpdmgnjaa

/- The document's quotient and Div, walked. -/
namespace Go.Proofs.Ytcobicnpdmgnjaa
open Go.RowKit Go.Proofs.Wd
set_option linter.unusedVariables false
set_option linter.unusedSimpArgs false
attribute [local go_sem ↓] Go.wp_at_zero Go.wp_at_succ

end Go.Proofs.Ytcobicnpdmgnjaa

/- The document's answer for fix: what taken, fits, sum, Add, Half, Sub, Neg, Mul, Whole and Div return, in whole numbers. -/
namespace Go.Proofs.Ytcobicnpdmgnjaa
open Go.RowKit Go.Proofs.Wd
set_option linter.unusedVariables false
set_option linter.unusedSimpArgs false
attribute [local go_sem ↓] Go.wp_at_zero Go.wp_at_succ

theorem in_wideR (v : Int) (h : -39614081257132168796771975168 ≤ v ∧ v ≤ 39614081257132168796771975168) : wrapW v = v := wrapW_in _ (by omega)

set_option maxHeartbeats 400000 in
theorem refTaken (a : Int) (h : I64 a) (w : World) :
    Calls Try.prog 87 #[.int .i64 a] w fun e w' => e = .returned (.tuple #[.int .i64 (tk a), .bool (nb a)]) ∧ Grown w w' := by
  by_cases hs : a = -9223372036854775808
  · rw [show tk a = -9223372036854775807 from by unfold tk; rw [if_pos hs], show nb a = true from by unfold nb; simp [hs]]
    go_enter Try.func87, Try.ntmps87
    go_wp2
    go_ret2
    exact ⟨rfl, Grown.refl _⟩
  · rw [show tk a = a from by unfold tk; rw [if_neg hs], show nb a = false from by unfold nb; simp [hs]]
    have hs' : ¬ a < -9223372036854775807 := by unfold I64 at h; omega
    clear hs
    go_enter Try.func87, Try.ntmps87
    go_wp2
    go_ret2
    exact ⟨rfl, Grown.refl _⟩

set_option maxHeartbeats 400000 in
theorem refFits (A : Int) (c : Bool) (hA : wrapW A = A) (w : World) :
    Calls Try.prog 90 #[.agg #[.int .i64 (hiOf A), .int .u64 (loOf A)], .bool c] w fun e w' => e = .returned (.tuple #[.int .i64 (fitI A), .bool (fitB A || c)]) ∧ Grown w w' := by
  have R := hide (fun w => refFit (hiOf A) (loOf A) (hiOf_I64 _) (loOf_U64 _) w)
  rw [val_of, hA] at R
  clear hA
  generalize fitI A = u at *
  generalize fitB A = v at *
  go_enter Try.func90, Try.ntmps90
  go_wp2_with fail
  refine (unhide R _).mono ?_
  rintro e w1 ⟨rfl, hg⟩
  have k1 : Grown w w1 := gtrans ((Grown.refl _).alloc _ _) hg
  clear hg
  cases v <;> cases c <;> (go_wp2; go_ret2; exact ⟨rfl, k1⟩)

set_option maxHeartbeats 1000000 in
theorem refSum2 (a b n V : Int) (ha : I64 a) (hb : I64 b) (h3 : 0 ≤ n) (h4 : n ≤ 127) (hV : rdiv (tk a + tk b) (2 ^ n.toNat) = V) (hW : wrapW V = V) (w : World) :
    Calls Try.prog 86 #[.int .i64 a, .int .i64 b, .int .i64 n] w fun e w' => e = .returned (.tuple #[.int .i64 (fitI V), .bool (cutB V a b)]) ∧ Grown w w' := by
  have T1 := hide (fun w => refTaken a ha w)
  have T2 := hide (fun w => refTaken b hb w)
  have O1 := hide (fun w => refOf (tk a) (tk_I64 a ha) w)
  have O2 := hide (fun w => refOf (tk b) (tk_I64 b hb) w)
  have A1 := hide (fun w => refAddV (tk a) (tk b) w)
  have h1 := tk_Fx a ha; have h2 := tk_Fx b hb
  have R1 := hide (fun w => refRound (tk a + tk b) n (in_wideR _ (by unfold Fx at h1 h2; omega)) h3 h4 w)
  rw [hV] at R1
  have K1 := hide (fun w => refFits V (nb a || nb b) hW w)
  rw [show cutB V a b = (fitB V || (nb a || nb b)) from by unfold cutB; rw [Bool.or_assoc]]
  clear h1 h2 ha hb h3 h4 hV hW
  generalize tk a = x at *
  generalize tk b = y at *
  generalize nb a = p at *
  generalize nb b = q at *
  generalize x + y = s at *
  obtain ⟨u, hu⟩ : ∃ u, fitI V = u := ⟨_, rfl⟩
  obtain ⟨v, hv⟩ : ∃ v, (fitB V || (p || q)) = v := ⟨_, rfl⟩
  rw [hu, hv] at K1 ⊢
  clear hu hv
  go_enter Try.func86, Try.ntmps86
  go_wp2_with fail
  refine (unhide T1 _).mono ?_
  rintro e w1 ⟨rfl, g1⟩
  go_wp2_with fail
  refine (unhide T2 _).mono ?_
  rintro e w2 ⟨rfl, hg2⟩
  have g2 := gtrans g1 hg2
  clear g1 hg2
  go_wp2_with fail
  refine (unhide O1 _).mono ?_
  rintro e w3 ⟨rfl, hg3⟩
  have g3 := gtrans g2 hg3
  clear g2 hg3
  go_wp2_with fail
  refine (unhide O2 _).mono ?_
  rintro e w4 ⟨rfl, hg4⟩
  have g4 := gtrans g3 hg4
  clear g3 hg4
  go_wp2_with fail
  refine (unhide A1 _).mono ?_
  rintro e w5 ⟨rfl, hg5⟩
  have g5 := gtrans g4 hg5
  clear g4 hg5
  go_wp2_with fail
  refine (unhide R1 _).mono ?_
  rintro e w6 ⟨rfl, hg6⟩
  have g6 := gtrans g5 hg6
  clear g5 hg6
  cases p <;> cases q <;> (go_wp2_with fail; refine (unhide K1 _).mono ?_; rintro e w7 ⟨rfl, hg7⟩; have g7 := gtrans (g6.alloc _ _) hg7; go_wp2; go_ret2; exact ⟨rfl, g7⟩)

theorem rawq_one (m : Int) : rawq m 1 = m := by
  unfold rawq; rw [Int.emod_one, Int.ediv_one, if_neg (by omega)]
theorem rdiv_one (v : Int) : rdiv v 1 = v := by
  unfold rdiv
  rw [show (((1 : Int).natAbs : Nat) : Int) = 1 from rfl, rawq_one]
  by_cases h : v < 0
  · rw [if_pos (by simp [h])]; omega
  · rw [if_neg (by simp [h])]; omega

set_option maxHeartbeats 400000 in
theorem refAdd2 (a b : Int) (ha : I64 a) (hb : I64 b) (w : World) :
    Calls Try.prog 74 #[.int .i64 a, .int .i64 b] w fun e w' => e = .returned (.tuple #[.int .i64 (fitI (tk a + tk b)), .bool (cutB (tk a + tk b) a b)]) ∧ Grown w w' := by
  have h1 := tk_Fx a ha; have h2 := tk_Fx b hb
  have R := hide (fun w => refSum2 a b 0 (tk a + tk b) ha hb (by omega) (by omega) (by rw [show (2 : Int) ^ (0 : Int).toNat = 1 from by decide]; exact rdiv_one _) (in_wideR _ (by unfold Fx at h1 h2; omega)) w)
  clear h1 h2 ha hb
  generalize fitI (tk a + tk b) = u at *
  generalize cutB (tk a + tk b) a b = v at *
  go_enter Try.func74, Try.ntmps74
  go_wp2_with fail
  refine (unhide R _).mono ?_
  rintro e w1 ⟨rfl, hg⟩
  go_wp2
  go_ret2
  exact ⟨rfl, hg⟩

set_option maxHeartbeats 1000000 in
theorem refMul2 (a b : Int) (ha : I64 a) (hb : I64 b) (w : World) :
    Calls Try.prog 76 #[.int .i64 a, .int .i64 b] w fun e w' => e = .returned (.tuple #[.int .i64 (fitI (rdiv (tk a * tk b) 4294967296)), .bool (cutB (rdiv (tk a * tk b) 4294967296) a b)]) ∧ Grown w w' := by
  have T1 := hide (fun w => refTaken a ha w)
  have T2 := hide (fun w => refTaken b hb w)
  have M1 := hide (fun w => refMul (tk a) (tk b) (tk_I64 a ha) (tk_I64 b hb) w)
  have h1 := tk_Fx a ha; have h2 := tk_Fx b hb
  have R1 := hide (fun w => refRound (tk a * tk b) 32 (wrapW_prod _ _ h1 h2) (by omega) (by omega) w)
  rw [show (2 : Int) ^ (32 : Int).toNat = 4294967296 from by decide] at R1
  have h0 := prod_range _ _ h1 h2
  have h3 := rdiv_abs (tk a * tk b) 4294967296 85070591730234615847396907784232501249 (by omega) h0
  have K1 := hide (fun w => refFits (rdiv (tk a * tk b) 4294967296) (nb a || nb b) (wrapW_in _ (by omega)) w)
  rw [show cutB (rdiv (tk a * tk b) 4294967296) a b = (fitB (rdiv (tk a * tk b) 4294967296) || (nb a || nb b)) from by unfold cutB; rw [Bool.or_assoc]]
  clear h0 h1 h2 h3 ha hb
  generalize rdiv (tk a * tk b) 4294967296 = V at *
  generalize tk a * tk b = s at *
  generalize tk a = x at *
  generalize tk b = y at *
  generalize nb a = p at *
  generalize nb b = q at *
  obtain ⟨u, hu⟩ : ∃ u, fitI V = u := ⟨_, rfl⟩
  obtain ⟨v, hv⟩ : ∃ v, (fitB V || (p || q)) = v := ⟨_, rfl⟩
  rw [hu, hv] at K1 ⊢
  clear hu hv
  go_enter Try.func76, Try.ntmps76
  go_wp2_with fail
  refine (unhide T1 _).mono ?_
  rintro e w1 ⟨rfl, g1⟩
  go_wp2_with fail
  refine (unhide T2 _).mono ?_
  rintro e w2 ⟨rfl, hg2⟩
  have g2 := gtrans g1 hg2
  clear g1 hg2
  go_wp2_with fail
  refine (unhide M1 _).mono ?_
  rintro e w5 ⟨rfl, hg5⟩
  have g5 := gtrans g2 hg5
  clear g2 hg5
  go_wp2_with fail
  refine (unhide R1 _).mono ?_
  rintro e w6 ⟨rfl, hg6⟩
  have g6 := gtrans g5 hg6
  clear g5 hg6
  cases p <;> cases q <;> (go_wp2_with fail; refine (unhide K1 _).mono ?_; rintro e w7 ⟨rfl, hg7⟩; have g7 := gtrans (g6.alloc _ _) hg7; go_wp2; go_ret2; exact ⟨rfl, g7⟩)

theorem tk_zero (b : Int) : tk b = 0 ↔ b = 0 := by unfold tk; split <;> omega

end Go.Proofs.Ytcobicnpdmgnjaa

/- The document's answer for layer 3: square, above, root, Whole, nearest, Sqrt and Hypot, walked: what each returns, in whole numbers. -/
namespace Go.Proofs.Ytcobicnpdmgnjaa
open Go.RowKit Go.Proofs.Wd
set_option linter.unusedVariables false
set_option linter.unusedSimpArgs false

theorem refCmpV (A B : Int) (w : World) :
    Calls Try.prog 114 #[.agg #[.int .i64 (hiOf A), .int .u64 (loOf A)], .agg #[.int .i64 (hiOf B), .int .u64 (loOf B)]] w fun e w' => e = .returned (.int .i64 (cmpI (wrapW A) (wrapW B))) ∧ Grown w w' := by
  have q := refCmp (hiOf A) (loOf A) (hiOf B) (loOf B) (hiOf_I64 _) (loOf_U64 _) (hiOf_I64 _) (loOf_U64 _) w
  rw [val_of, val_of] at q
  exact q

theorem sq_even (n : Int) (h : n % 2 = 0) : n / 2 * (n / 2) + n / 2 * (n / 2) + (n / 2 * (n / 2) + n / 2 * (n / 2)) = n * n := by
  obtain ⟨k, hk⟩ : ∃ k, n / 2 = k := ⟨_, rfl⟩
  rw [hk]
  have : n = 2 * k := by omega
  rw [this]; grind
theorem sq_odd (n : Int) (h : n % 2 = 1) : n / 2 * (n / 2) + n / 2 * (n / 2) + n / 2 * 2 + (n / 2 * (n / 2) + n / 2 * (n / 2) + n / 2 * 2) + 1 = n * n := by
  obtain ⟨k, hk⟩ : ∃ k, n / 2 = k := ⟨_, rfl⟩
  rw [hk]
  have : n = 2 * k + 1 := by omega
  rw [this]; grind

end Go.Proofs.Ytcobicnpdmgnjaa

/- The document's answer for layer 3: above, root, Whole, nearest, Sqrt and Hypot, walked: what each returns, in whole numbers. -/
namespace Go.Proofs.Ytcobicnpdmgnjaa
open Go.RowKit Go.Proofs.Wd
set_option linter.unusedVariables false
set_option linter.unusedSimpArgs false

theorem cmpI_gtB (x y : Int) : (decide (0 < cmpI x y)) = decide (y < x) := by
  by_cases c : y < x
  · rw [cmpI_gt x y c]; simp [c]
  · have := cmpI_le x y (by omega)
    rw [show decide (y < x) = false from by simpa using c]; simp; omega

/-- What holds when the bits from k on are done. -/
def RInv (v : Int) (k : Nat) (o : Int) : Prop := 0 ≤ o ∧ o + 2 ^ k ≤ 18446744073709551616 ∧ o * o ≤ v ∧ v < (o + 2 ^ k) * (o + 2 ^ k)
theorem rinv_up (v : Int) (k : Nat) (o : Int) (h : RInv v (k + 1) o) (c : ¬ v < (o + 2 ^ k) * (o + 2 ^ k)) : RInv v k (o + 2 ^ k) := by
  obtain ⟨a, b, d, e⟩ := h
  have p : (0 : Int) < 2 ^ k := Int.pow_pos (by decide)
  rw [Int.pow_succ] at b e
  unfold RInv
  generalize (2 : Int) ^ k = K at *
  rw [show o + K + K = o + K * 2 from by omega]
  exact ⟨by omega, b, by omega, e⟩
theorem rinv_dn (v : Int) (k : Nat) (o : Int) (h : RInv v (k + 1) o) (c : v < (o + 2 ^ k) * (o + 2 ^ k)) : RInv v k o := by
  obtain ⟨a, b, d, e⟩ := h
  have p : (0 : Int) < 2 ^ k := Int.pow_pos (by decide)
  rw [Int.pow_succ] at b
  unfold RInv
  generalize (2 : Int) ^ k = K at *
  exact ⟨a, by omega, d, c⟩
theorem rinv_end (v o : Int) (h : RInv v 0 o) : o = rt v := by
  obtain ⟨a, b, d, e⟩ := h
  exact (rt_eq v o ⟨a, d, e⟩).symm
theorem rinv_room (v : Int) (k : Nat) (o : Int) (h : RInv v (k + 1) o) : 0 ≤ o ∧ o + 2 ^ k < 18446744073709551616 ∧ 0 < (2 : Int) ^ k := by
  obtain ⟨a, b, d, e⟩ := h
  have p : (0 : Int) < 2 ^ k := Int.pow_pos (by decide)
  rw [Int.pow_succ] at b
  generalize (2 : Int) ^ k = K at *
  omega
theorem rinv_start (v : Int) (h0 : 0 ≤ v) (h1 : v < 170141183460469231731687303715884105728) : RInv v 64 0 := by
  unfold RInv
  rw [show (0 : Int) + 2 ^ 64 = 18446744073709551616 from by decide]
  omega

theorem whE_le (v : Int) (h0 : 0 ≤ v) (h1 : v < 170141183460469231731687303715884105728) : (rt v ≤ 9223372036854775807 → whN v = rt v ∧ whE v = 0) ∧ (9223372036854775807 < rt v → whN v = 0 ∧ whE v = 2) := by
  constructor
  · intro h
    by_cases c : v < 85070591730234615865843651857942052864
    · exact wh_good v ⟨h0, c⟩
    · have := rt_ge63 v (by omega); omega
  · intro h
    by_cases c : v < 85070591730234615865843651857942052864
    · have := rt_lt63 v h0 c; omega
    · exact wh_bad v (by omega)

end Go.Proofs.Ytcobicnpdmgnjaa

/- The document's unit: what each of its functions answers. -/
namespace Go.Proofs.Ytcobicnpdmgnjaa
open Go.RowKit Go.Proofs.Wd
set_option linter.unusedVariables false
set_option linter.unusedSimpArgs false
attribute [local go_sem ↓] Go.wp_at_zero Go.wp_at_succ

def RC (U : Nat) (c : Bool) (n : Int) (w : World) : Prop := Blk U #[.bool c, .int .i64 n] 69 w
theorem RC.c0 {U : Nat} {c : Bool} {n : Int} {w : World} (h : RC U c n w) : w.cell? ⟨U, 0, none⟩ = some (.bool c) := Blk.cell h 0
theorem RC.c1 {U : Nat} {c : Bool} {n : Int} {w : World} (h : RC U c n w) : w.cell? ⟨U, 1, none⟩ = some (.int .i64 n) := Blk.cell h 1
theorem RC.set0 {U : Nat} {c : Bool} {n : Int} {w : World} (h : RC U c n w) (d : Bool) : RC U d n (w.setCell ⟨U, 0, none⟩ (.bool d)) := Blk.set h 0 _
theorem RC.set1 {U : Nat} {c : Bool} {n : Int} {w : World} (h : RC U c n w) (m : Int) : RC U c m (w.setCell ⟨U, 1, none⟩ (.int .i64 m)) := Blk.set h 1 _

set_option maxHeartbeats 400000 in
theorem refUNew (w : World) : Calls Try.prog 26 #[] w fun e w' => e = .returned (.pointer (some ⟨w.heap.size, 0, none⟩)) ∧ RC w.heap.size false 0 w' ∧ Grown w w' := by
  go_enter Try.func26, Try.ntmps26
  go_wp2
  go_ret
  exact ⟨rfl, heap_alloc_new w _, (Grown.refl _).alloc _ _⟩

set_option maxHeartbeats 400000 in
theorem refUDid (U : Nat) (c d : Bool) (n x : Int) (hn : 0 ≤ n ∧ n < 4611686018427387904) (w : World) (h : RC U c n w) : Calls Try.prog 75 #[.pointer (some ⟨U, 0, none⟩), .int .i64 x, .bool d] w fun e w' => e = .returned (.int .i64 x) ∧ RC U (c || d) (n + 1) w' ∧ Mod U w w' := by
  have h0 := h.c0
  have h1 := h.c1
  have f0 := h.free 0
  have f1 := h.free 1
  have H := hide h
  clear h
  obtain ⟨n0, n1⟩ := hn
  cases c
  all_goals
    go_enter Try.func75, Try.ntmps75
    go_wp2
    go_ret
    exact ⟨rfl, ((unhide H).set1 _).set0 _, ((Mod.refl _ _).setCell _ _).setCell _ _⟩

set_option maxHeartbeats 1000000 in
theorem refUPlus (U : Nat) (c : Bool) (n a b : Int) (ha : I64 a) (hb : I64 b) (hn : 0 ≤ n ∧ n < 4611686018427387904) (w : World) (h : RC U c n w) :
    Calls Try.prog 63 #[.pointer (some ⟨U, 0, none⟩), .int .i64 a, .int .i64 b] w fun e w' =>
      e = .returned (.int .i64 (addN a b)) ∧ RC U (c || addC a b) (n + 1) w' ∧ Mod U w w' := by
  have X : Hid (Calls Try.prog 74 #[.int .i64 a, .int .i64 b] w fun e w' => e = .returned (.tuple #[.int .i64 (addN a b), .bool (addC a b)]) ∧ Grown w w') := refAdd2 a b ha hb w
  generalize addN a b = r at *
  generalize addC a b = d at *
  have H := hide h
  have HN := hide hn
  clear h hn ha hb
  go_enter Try.func63, Try.ntmps63
  go_wp2_with fail
  refine (unhide X).mono ?_
  rintro e w1 ⟨rfl, h1⟩
  go_wp2_with fail
  refine (refUDid U c _ n _ (unhide HN) w1 (Blk.grown (unhide H) h1)).mono ?_
  rintro e w2 ⟨rfl, h2, m2⟩
  have H2 : Hid (RC U (c || d) (n + 1) w2 ∧ Mod U w w2) := ⟨h2, (Mod.of h1).trans m2⟩
  clear h1 h2 m2
  go_wp2
  go_ret
  exact ⟨rfl, unhide H2⟩

set_option maxHeartbeats 1000000 in
theorem refUTimes (U : Nat) (c : Bool) (n a b : Int) (ha : I64 a) (hb : I64 b) (hn : 0 ≤ n ∧ n < 4611686018427387904) (w : World) (h : RC U c n w) :
    Calls Try.prog 64 #[.pointer (some ⟨U, 0, none⟩), .int .i64 a, .int .i64 b] w fun e w' =>
      e = .returned (.int .i64 (mulN a b)) ∧ RC U (c || mulC a b) (n + 1) w' ∧ Mod U w w' := by
  have X : Hid (Calls Try.prog 76 #[.int .i64 a, .int .i64 b] w fun e w' => e = .returned (.tuple #[.int .i64 (mulN a b), .bool (mulC a b)]) ∧ Grown w w') := refMul2 a b ha hb w
  generalize mulN a b = r at *
  generalize mulC a b = d at *
  have H := hide h
  have HN := hide hn
  clear h hn ha hb
  go_enter Try.func64, Try.ntmps64
  go_wp2_with fail
  refine (unhide X).mono ?_
  rintro e w1 ⟨rfl, h1⟩
  go_wp2_with fail
  refine (refUDid U c _ n _ (unhide HN) w1 (Blk.grown (unhide H) h1)).mono ?_
  rintro e w2 ⟨rfl, h2, m2⟩
  have H2 : Hid (RC U (c || d) (n + 1) w2 ∧ Mod U w w2) := ⟨h2, (Mod.of h1).trans m2⟩
  clear h1 h2 m2
  go_wp2
  go_ret
  exact ⟨rfl, unhide H2⟩

set_option maxHeartbeats 1000000 in
theorem refUDot_size (U : Nat) (ao bo : Option Addr) (l1 c1 l2 c2 : Nat) (hne : l1 ≠ l2) (hl : l1 ≤ 1000000) (hk : l2 ≤ 1000000) (w : World) :
    Calls Try.prog 51 #[.pointer (some ⟨U, 0, none⟩), .slice ao l1 c1, .slice bo l2 c2] w fun e w' => e = .returned (.tuple #[.int .i64 0, .int .i64 3]) ∧ w' = w := by
  have d : ((l1 : Int) == (l2 : Int)) = false := by simp; omega
  go_enter Try.func51, Try.ntmps51
  go_wp2
  go_ret2
  exact ⟨rfl, rfl⟩

set_option maxHeartbeats 2000000 in
theorem refUDot_ok (U : Nat) (c : Bool) (n : Int) (ao bo : Option Addr) (len c1 c2 : Nat) (X Y : Nat → Int) (hn : 0 ≤ n ∧ n < 2305843009213693952) (hl : len ≤ 1000000) (hX : Hid (∀ i, i < len → I64 (X i))) (hY : Hid (∀ i, i < len → I64 (Y i))) (w : World) (h : RC U c n w)
    (hr : Row w ao len X) (ho : Off U len ao) (ht : Row w bo len Y) (hp : Off U len bo) :
    Calls Try.prog 51 #[.pointer (some ⟨U, 0, none⟩), .slice ao len c1, .slice bo len c2] w fun e w' =>
      e = .returned (.tuple #[.int .i64 (dotN X Y len), .int .i64 0]) ∧ RC U (c || dotC X Y len) (n + 2 * len) w' ∧ Mod U w w' := by
  have H := hide h
  have HR := hide hr
  have HO := hide ho
  have HT := hide ht
  have HP := hide hp
  clear h hr ho ht hp
  obtain ⟨n0, n1⟩ := hn
  go_enter Try.func51, Try.ntmps51
  go_wp2_with fail
  go_loopw [8, 9] (fun t i wr => ∃ k : Nat, k ≤ len ∧ i = .int .i64 k ∧ t = .int .i64 (dotN X Y k) ∧ Hid (RC U (c || dotC X Y k) (n + 2 * k) wr ∧ Mod U w wr)) (fun _ i _ => len - (intOf i).toNat)
  case atStart => exact ⟨0, Nat.zero_le _, rfl, rfl, by show RC _ (c || false) (n + 0) _ ∧ _; rw [Bool.or_false, Int.add_zero]; exact ⟨unhide H, Mod.refl _ _⟩⟩
  case round =>
    obtain ⟨k, hk, rfl, rfl, HU⟩ := hrel
    by_cases hlt : k < len
    · obtain ⟨b1, o1, rfl, hc1⟩ := ((unhide HR).mod (unhide HU).2 (unhide HO)).at hlt
      obtain ⟨b2, o2, rfl, hc2⟩ := ((unhide HT).mod (unhide HU).2 (unhide HP)).at hlt
      have BU := hide (And.intro (unhide HO (by omega) _ rfl) (unhide HP (by omega) _ rfl))
      have M1 := hide (fun w h => refUTimes U (c || dotC X Y k) (n + 2 * k) (X k) (Y k) (unhide hX k hlt) (unhide hY k hlt) ⟨by omega, by omega⟩ w h)
      have A1 := hide (fun w h => refUPlus U (c || dotC X Y k || mulC (X k) (Y k)) (n + 2 * k + 1) (dotN X Y k) (mulN (X k) (Y k)) (dotN_I64 X Y k) (mulN_I64 _ _) ⟨by omega, by omega⟩ w h)
      have i0 : (0 : Int) ≤ (k : Int) := by omega
      have i1 : (k : Int) < (len : Int) := by omega
      have E1 : Hid (dotN X Y (k + 1) = addN (dotN X Y k) (mulN (X k) (Y k))) := rfl
      have E2 : Hid (dotC X Y (k + 1) = (dotC X Y k || mulC (X k) (Y k) || addC (dotN X Y k) (mulN (X k) (Y k)))) := rfl
      generalize mulN (X k) (Y k) = p at *
      generalize mulC (X k) (Y k) = pc at *
      generalize X k = x at *
      generalize Y k = y at *
      generalize dotN X Y k = s at *
      generalize addN s p = q at *
      generalize addC s p = qc at *
      generalize dotC X Y k = dk at *
      go_wp2
      go_region_held3 (fun w' => w'.cell? ⟨b1, o1 + k, none⟩ = some (.int .i64 x) ∧ w'.cell? ⟨b2, o2 + k, none⟩ = some (.int .i64 y))
        (simp [go_sem, *])
        (first
          | (go_at_call 64; refine (unhide M1 _ (by exact (unhide HU).1)).mono ?_; rintro e w3 ⟨rfl, h3, m3⟩; have c31 := Mod.cell (by exact m3) hc1 (unhide BU).1; have c32 := Mod.cell (by exact m3) hc2 (unhide BU).2; have u3 : Hid (RC U (c || dk || pc) (n + 2 * k + 1) w3 ∧ Mod U w w3) := ⟨h3, (unhide HU).2.trans (by exact m3)⟩; clear h3 m3)
          | (go_at_call 63; refine (unhide A1 _ (unhide u3).1).mono ?_; rintro e w5 ⟨rfl, h5, m5⟩; have c51 := m5.cell c31 (unhide BU).1; have c52 := m5.cell c32 (unhide BU).2; have u5 : Hid (RC U (c || dk || pc || qc) (n + 2 * k + 1 + 1) w5 ∧ Mod U w w5) := ⟨h5, (unhide u3).2.trans m5⟩; clear h5 m5))
      have R : Hid (RC U (c || dotC X Y (k + 1)) (n + 2 * ((k + 1 : Nat) : Int)) w5 ∧ Mod U w w5) := by
        refine ⟨?_, (unhide u5).2⟩
        rw [unhide E2, ← Bool.or_assoc, ← Bool.or_assoc, show n + 2 * ((k + 1 : Nat) : Int) = n + 2 * k + 1 + 1 by omega]
        exact (unhide u5).1
      go_wp2
      go_roundw
      case rel => exact ⟨k + 1, by omega, by go_num, by rw [unhide E1], R⟩
      case measure => simp [intOf]; omega
    · obtain rfl : k = len := by omega
      go_wp2
      go_ret2
      exact ⟨rfl, (unhide HU).1, (unhide HU).2⟩

end Go.Proofs.Ytcobicnpdmgnjaa
