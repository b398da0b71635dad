/- The document's answer for layer 1: what its helpers twice, bit, below and whole return, in whole numbers modulo 2^128. -/
import Derived.Test.YtmdclpjbpkfckaaWideV
namespace Go.Proofs.Ytmdclpjbpkfckaa
open Go.RowKit Go.Proofs.Wd
set_option linter.unusedVariables false
set_option linter.unusedSimpArgs false

/-- 1 or 0. -/
def one (b : Bool) : Int := if b = true then 1 else 0
/-- A number modulo 2^128, from 0 on. -/
def umag (A : Int) : Int := A % 340282366920938463463374607431768211456

theorem refAddV (A B : Int) (w : World) :
    Calls Try.prog 63 #[.agg #[.int .i64 (hiOf A), .int .u64 (loOf A)], .agg #[.int .i64 (hiOf B), .int .u64 (loOf B)]] w fun e w' => e = .returned (.agg #[.int .i64 (hiOf (A + B)), .int .u64 (loOf (A + B))]) ∧ Grown w w' := by
  have q := refAdd (hiOf A) (loOf A) (hiOf B) (loOf B) (hiOf_I64 _) (loOf_U64 _) (hiOf_I64 _) (loOf_U64 _) w
  rw [val_of, val_of, hiOf_add, loOf_add] at q
  exact q
theorem refNegV (A : Int) (w : World) :
    Calls Try.prog 65 #[.agg #[.int .i64 (hiOf A), .int .u64 (loOf A)]] w fun e w' => e = .returned (.agg #[.int .i64 (hiOf (-A)), .int .u64 (loOf (-A))]) ∧ Grown w w' := by
  have q := refNeg (hiOf A) (loOf A) (hiOf_I64 _) (loOf_U64 _) w
  rw [val_of, hiOf_neg, loOf_neg] at q
  exact q

theorem bit_lo (A n : Int) (h0 : 0 ≤ n) (h1 : n < 64) : loOf A / 2 ^ n.toNat % 2 = A / 2 ^ n.toNat % 2 := by
  have hm := pow2_mul n.toNat (64 - n).toNat (by omega)
  have hK := pow2_pos n.toNat
  have e2 : (2 : Int) ^ (64 - n).toNat = 2 * 2 ^ (63 - n).toNat := by
    rw [show (64 - n).toNat = 1 + (63 - n).toNat from by omega, Int.pow_add]; rfl
  unfold loOf
  have h := Int.emod_add_mul_ediv A 18446744073709551616
  have e3 : A = A % 18446744073709551616 + 2 ^ n.toNat * (2 * (2 ^ (63 - n).toNat * (A / 18446744073709551616))) := by
    rw [e2] at hm
    have : (18446744073709551616 : Int) * (A / 18446744073709551616) = 2 ^ n.toNat * (2 * (2 ^ (63 - n).toNat * (A / 18446744073709551616))) := by
      rw [← hm]; grind
    omega
  have e4 : A / 2 ^ n.toNat = A % 18446744073709551616 / 2 ^ n.toNat + 2 * (2 ^ (63 - n).toNat * (A / 18446744073709551616)) := by
    have q := Int.add_mul_ediv_left (A % 18446744073709551616) (2 * (2 ^ (63 - n).toNat * (A / 18446744073709551616))) (by omega : (2 : Int) ^ n.toNat ≠ 0)
    rw [← e3] at q
    exact q
  rw [e4]
  omega
theorem bit_hi (A n : Int) (h0 : 64 ≤ n) (h1 : n < 128) : IntKind.u64.wrap (hiOf A) / 2 ^ (n - 64).toNat % 2 = A / 2 ^ n.toNat % 2 := by
  have e1 : IntKind.u64.wrap (hiOf A) = loOf (A / 18446744073709551616) := by rw [IntKind.wrap_u64]; unfold hiOf loOf; omega
  rw [e1, bit_lo _ _ (by omega) (by omega), Int.ediv_ediv_of_nonneg (by decide)]
  rw [show (18446744073709551616 : Int) = 2 ^ 64 from by decide, ← Int.pow_add, show 64 + (n - 64).toNat = n.toNat from by omega]

set_option maxHeartbeats 400000 in
theorem refBit (A n : Int) (h0 : 0 ≤ n) (h1 : n < 128) (w : World) :
    Calls Try.prog 95 #[.agg #[.int .i64 (hiOf A), .int .u64 (loOf A)], .int .i64 n] w fun e w' => e = .returned (.bool (decide (A / 2 ^ n.toNat % 2 = 1))) ∧ Grown w w' := by
  by_cases hs : n < 64
  · have HB := hide (bit_lo A n h0 hs)
    have hl := loOf_U64 A
    unfold U64 at hl
    go_enter Try.func95, Try.ntmps95
    go_wp2
    go_ret
    exact ⟨congrArg (fun b => Ending.returned (.bool b)) (by rw [Int.tmod_eq_emod_of_nonneg (dv0 _ _ (pow2_pos _) hl.1), unhide HB]; exact Bool.eq_iff_iff.2 (by simp)), (Grown.refl _).alloc _ _⟩
  · have HB := hide (bit_hi A n (by omega) h1)
    go_enter Try.func95, Try.ntmps95
    go_wp2
    go_ret
    exact ⟨congrArg (fun b => Ending.returned (.bool b)) (by rw [Int.tmod_eq_emod_of_nonneg (dv0 _ _ (pow2_pos _) (uw0 _)), unhide HB]; exact Bool.eq_iff_iff.2 (by simp)), (Grown.refl _).alloc _ _⟩

set_option maxHeartbeats 400000 in
theorem refTwice (A : Int) (b : Bool) (w : World) :
    Calls Try.prog 92 #[.agg #[.int .i64 (hiOf A), .int .u64 (loOf A)], .bool b] w fun e w' => e = .returned (.agg #[.int .i64 (hiOf (2 * A + one b)), .int .u64 (loOf (2 * A + one b))]) ∧ Grown w w' := by
  cases b
  · go_enter Try.func92, Try.ntmps92
    go_wp2_with fail
    refine (refAddV _ _ _).mono ?_
    rintro e w1 ⟨rfl, hg1⟩
    obtain ⟨d0, d1⟩ := gat2 hg1 (w.heap.size + 1) (.int .i64 0) (.int .u64 0) (by constructor <;> simp [go_sem])
    have hgw1 : Grown w w1 := gtrans (((Grown.refl _).alloc _ _).alloc _ _) hg1
    have l1 := heap_gt d0; have n1 := Nat.ne_of_gt l1; have o1 := Nat.ne_of_lt l1
    have f1 := fun o => frz hgw1 (w.heap.size + 1) o (by omega)
    clear hg1
    go_wp2
    simp [bodyPost, results, Try.results92, go_sem, *]
    exact ⟨⟨by unfold one hiOf; simp; omega, by (try simp only [IntKind.wrap_u64]); unfold one loOf; simp; omega⟩, Grown.alloc (Grown.setCell (Grown.setCell hgw1 (by dsimp only; omega) _) (by dsimp only; omega) _) _ _⟩
  · go_enter Try.func92, Try.ntmps92
    go_wp2_with fail
    refine (refAddV _ _ _).mono ?_
    rintro e w1 ⟨rfl, hg1⟩
    obtain ⟨d0, d1⟩ := gat2 hg1 (w.heap.size + 1) (.int .i64 0) (.int .u64 0) (by constructor <;> simp [go_sem])
    have hgw1 : Grown w w1 := gtrans (((Grown.refl _).alloc _ _).alloc _ _) hg1
    have l1 := heap_gt d0; have n1 := Nat.ne_of_gt l1; have o1 := Nat.ne_of_lt l1
    have f1 := fun o => frz hgw1 (w.heap.size + 1) o (by omega)
    clear hg1
    go_wp2
    simp [bodyPost, results, Try.results92, go_sem, *]
    exact ⟨⟨by unfold one hiOf; simp; omega, by (try simp only [IntKind.wrap_u64]); unfold one loOf; simp; omega⟩, Grown.alloc (Grown.setCell (Grown.setCell hgw1 (by dsimp only; omega) _) (by dsimp only; omega) _) _ _⟩

set_option maxHeartbeats 400000 in
theorem refBelow (A B : Int) (w : World) :
    Calls Try.prog 102 #[.agg #[.int .i64 (hiOf A), .int .u64 (loOf A)], .agg #[.int .i64 (hiOf B), .int .u64 (loOf B)]] w fun e w' => e = .returned (.bool (decide (umag A < umag B))) ∧ Grown w w' := by
  have fA : umag A = IntKind.u64.wrap (hiOf A) * 18446744073709551616 + loOf A := by rw [IntKind.wrap_u64]; unfold umag hiOf loOf; omega
  have fB : umag B = IntKind.u64.wrap (hiOf B) * 18446744073709551616 + loOf B := by rw [IntKind.wrap_u64]; unfold umag hiOf loOf; omega
  have lA := loOf_U64 A; have lB := loOf_U64 B
  have hA := hiOf_I64 A; have hB := hiOf_I64 B
  unfold U64 at lA lB; unfold I64 at hA hB
  rw [fA, fB]
  clear fA fB
  generalize hiOf A = ah at *
  generalize hiOf B = bh at *
  generalize loOf A = al at *
  generalize loOf B = bl at *
  have inj : ah ≠ bh → IntKind.u64.wrap ah ≠ IntKind.u64.wrap bh := by simp only [IntKind.wrap_u64]; omega
  by_cases g1 : IntKind.u64.wrap ah < IntKind.u64.wrap bh
  · have e : decide (IntKind.u64.wrap ah * 18446744073709551616 + al < IntKind.u64.wrap bh * 18446744073709551616 + bl) = true := by simp; omega
    rw [e]
    clear e inj
    go_enter Try.func102, Try.ntmps102
    go_wp2
    go_ret
    exact ⟨rfl, ((Grown.refl _).alloc _ _).alloc _ _⟩
  · by_cases g2 : ah = bh
    · subst g2
      have e : decide (IntKind.u64.wrap ah * 18446744073709551616 + al < IntKind.u64.wrap ah * 18446744073709551616 + bl) = decide (al < bl) := by rw [decide_eq_decide]; omega
      rw [e]
      clear e inj
      go_enter Try.func102, Try.ntmps102
      go_wp2
      go_ret
      exact ⟨rfl, ((Grown.refl _).alloc _ _).alloc _ _⟩
    · have e : decide (IntKind.u64.wrap ah * 18446744073709551616 + al < IntKind.u64.wrap bh * 18446744073709551616 + bl) = false := by have := inj g2; simp; omega
      rw [e]
      have g3 : (ah == bh) = false := by simpa using g2
      clear e inj g2
      go_enter Try.func102, Try.ntmps102
      go_wp2
      go_ret
      exact ⟨rfl, ((Grown.refl _).alloc _ _).alloc _ _⟩

set_option maxHeartbeats 400000 in
theorem refWhole (A : Int) (w : World) :
    Calls Try.prog 94 #[.agg #[.int .i64 (hiOf A), .int .u64 (loOf A)]] w fun e w' => e = .returned (.agg #[.int .i64 (hiOf (absI (wrapW A))), .int .u64 (loOf (absI (wrapW A)))]) ∧ Grown w w' := by
  by_cases hs : hiOf A < 0
  · have HW : Hid (absI (wrapW A) = -wrapW A) := by
      have : wrapW A < 0 := by rw [← val_of]; have := loOf_U64 A; unfold U64 at this; unfold val; omega
      unfold absI; rw [if_pos this]; exact hide rfl
    go_enter Try.func94, Try.ntmps94
    go_wp2_with fail
    refine (refNegV _ _).mono ?_
    rintro e w1 ⟨rfl, hg1⟩
    obtain ⟨d0, d1⟩ := gat2 hg1 (w.heap.size + 1) (.int .i64 0) (.int .u64 0) (by constructor <;> simp [go_sem])
    have hgw1 : Grown w w1 := gtrans (((Grown.refl _).alloc _ _).alloc _ _) hg1
    have f1 := fun o => frz hgw1 (w.heap.size + 1) o (by omega)
    clear hg1
    go_wp2
    simp [bodyPost, results, Try.results94, go_sem, *]
    rw [unhide HW, hiOf_neg, loOf_neg]
    exact ⟨⟨rfl, rfl⟩, Grown.setCell (Grown.setCell hgw1 (by dsimp only; omega) _) (by dsimp only; omega) _⟩
  · have HW : Hid (absI (wrapW A) = wrapW A) := by
      have : ¬ wrapW A < 0 := by rw [← val_of]; have := loOf_U64 A; unfold U64 at this; unfold val; omega
      unfold absI; rw [if_neg this]; exact hide rfl
    go_enter Try.func94, Try.ntmps94
    go_wp2
    simp [bodyPost, results, Try.results94, go_sem]
    rw [unhide HW, hiOf_wrapW, loOf_wrapW]
    exact ⟨⟨rfl, rfl⟩, ((Grown.refl _).alloc _ _).alloc _ _⟩

end Go.Proofs.Ytmdclpjbpkfckaa
