/- RefA RefRound RefDiv RefQuo RefMul FixR RootR RootS RefU MatRa MatRb MatOs MatRc AppB MatRd MatRe, one after another. -/
import Derived.Test.YtopaakjildmjcaaGreatWideV
import Derived.Test.YtopaakjildmjcaaGreatNearMath
import Derived.Deep.DeepCutAuto
import Derived.Deep.RegionWith
import Derived.Test.YtopaakjildmjcaaGreatFixMath
import Derived.Test.YtopaakjildmjcaaGreatRootB
import Derived.Test.YtopaakjildmjcaaGreatUnitC
import Derived.Test.YtopaakjildmjcaaGreatMatAll
import Derived.Test.YtopaakjildmjcaaGreatPolyBase
import Derived.Deep.RegionHeld3
import Derived.Deep.RegionLaw
/- The document's answer for layer 1: what its helpers twice, bit, below and whole return, in whole numbers modulo 2^128. -/
namespace Go.Proofs.YtopaakjildmjcaaGreat
open Go.RowKit Go.Proofs.Wd
set_option linter.unusedVariables false
set_option linter.unusedSimpArgs false
set_option maxRecDepth 10000

/-- 1 or 0. -/
def one (b : Bool) : Int := if b = true then 1 else 0
/-- A number modulo 2^128, from 0 on. -/
def umag (A : Int) : Int := A % 340282366920938463463374607431768211456

theorem refAddV (A B : Int) (w : World) :
    Calls Tryz.prog 113 #[.agg #[.int .i64 (hiOf A), .int .u64 (loOf A)], .agg #[.int .i64 (hiOf B), .int .u64 (loOf B)]] w fun e w' => e = .returned (.agg #[.int .i64 (hiOf (A + B)), .int .u64 (loOf (A + B))]) ∧ Grown w w' := by
  have q := refAdd (hiOf A) (loOf A) (hiOf B) (loOf B) (hiOf_I64 _) (loOf_U64 _) (hiOf_I64 _) (loOf_U64 _) w
  rw [val_of, val_of, hiOf_add, loOf_add] at q
  exact q
theorem refNegV (A : Int) (w : World) :
    Calls Tryz.prog 112 #[.agg #[.int .i64 (hiOf A), .int .u64 (loOf A)]] w fun e w' => e = .returned (.agg #[.int .i64 (hiOf (-A)), .int .u64 (loOf (-A))]) ∧ Grown w w' := by
  have q := refNeg (hiOf A) (loOf A) (hiOf_I64 _) (loOf_U64 _) w
  rw [val_of, hiOf_neg, loOf_neg] at q
  exact q

theorem bit_lo (A n : Int) (h0 : 0 ≤ n) (h1 : n < 64) : loOf A / 2 ^ n.toNat % 2 = A / 2 ^ n.toNat % 2 := by
  have hm := pow2_mul n.toNat (64 - n).toNat (by omega)
  have hK := pow2_pos n.toNat
  have e2 : (2 : Int) ^ (64 - n).toNat = 2 * 2 ^ (63 - n).toNat := by
    rw [show (64 - n).toNat = 1 + (63 - n).toNat from by omega, Int.pow_add]; rfl
  unfold loOf
  have h := Int.emod_add_mul_ediv A 18446744073709551616
  have e3 : A = A % 18446744073709551616 + 2 ^ n.toNat * (2 * (2 ^ (63 - n).toNat * (A / 18446744073709551616))) := by
    rw [e2] at hm
    have : (18446744073709551616 : Int) * (A / 18446744073709551616) = 2 ^ n.toNat * (2 * (2 ^ (63 - n).toNat * (A / 18446744073709551616))) := by
      rw [← hm]; grind
    omega
  have e4 : A / 2 ^ n.toNat = A % 18446744073709551616 / 2 ^ n.toNat + 2 * (2 ^ (63 - n).toNat * (A / 18446744073709551616)) := by
    have q := Int.add_mul_ediv_left (A % 18446744073709551616) (2 * (2 ^ (63 - n).toNat * (A / 18446744073709551616))) (by omega : (2 : Int) ^ n.toNat ≠ 0)
    rw [← e3] at q
    exact q
  rw [e4]
  omega
theorem bit_hi (A n : Int) (h0 : 64 ≤ n) (h1 : n < 128) : IntKind.u64.wrap (hiOf A) / 2 ^ (n - 64).toNat % 2 = A / 2 ^ n.toNat % 2 := by
  have e1 : IntKind.u64.wrap (hiOf A) = loOf (A / 18446744073709551616) := by rw [IntKind.wrap_u64]; unfold hiOf loOf; omega
  rw [e1, bit_lo _ _ (by omega) (by omega), Int.ediv_ediv_of_nonneg (by decide)]
  rw [show (18446744073709551616 : Int) = 2 ^ 64 from by decide, ← Int.pow_add, show 64 + (n - 64).toNat = n.toNat from by omega]

set_option maxHeartbeats 400000 in
theorem refBit (A n : Int) (h0 : 0 ≤ n) (h1 : n < 128) (w : World) :
    Calls Tryz.prog 111 #[.agg #[.int .i64 (hiOf A), .int .u64 (loOf A)], .int .i64 n] w fun e w' => e = .returned (.bool (decide (A / 2 ^ n.toNat % 2 = 1))) ∧ Grown w w' := by
  by_cases hs : n < 64
  · have HB := hide (bit_lo A n h0 hs)
    have hl := loOf_U64 A
    unfold U64 at hl
    go_enter Tryz.func111, Tryz.ntmps111
    go_wp2
    go_ret
    exact ⟨congrArg (fun b => Ending.returned (.bool b)) (by rw [Int.tmod_eq_emod_of_nonneg (dv0 _ _ (pow2_pos _) hl.1), unhide HB]; exact Bool.eq_iff_iff.2 (by simp)), (Grown.refl _).alloc _ _⟩
  · have HB := hide (bit_hi A n (by omega) h1)
    go_enter Tryz.func111, Tryz.ntmps111
    go_wp2
    go_ret
    exact ⟨congrArg (fun b => Ending.returned (.bool b)) (by rw [Int.tmod_eq_emod_of_nonneg (dv0 _ _ (pow2_pos _) (uw0 _)), unhide HB]; exact Bool.eq_iff_iff.2 (by simp)), (Grown.refl _).alloc _ _⟩

set_option maxHeartbeats 400000 in
theorem refTwice (A : Int) (b : Bool) (w : World) :
    Calls Tryz.prog 110 #[.agg #[.int .i64 (hiOf A), .int .u64 (loOf A)], .bool b] w fun e w' => e = .returned (.agg #[.int .i64 (hiOf (2 * A + one b)), .int .u64 (loOf (2 * A + one b))]) ∧ Grown w w' := by
  cases b
  · go_enter Tryz.func110, Tryz.ntmps110
    go_wp2_with fail
    refine (refAddV _ _ _).mono ?_
    rintro e w1 ⟨rfl, hg1⟩
    obtain ⟨d0, d1⟩ := gat2 hg1 (w.heap.size + 1) (.int .i64 0) (.int .u64 0) (by constructor <;> simp [go_sem])
    have hgw1 : Grown w w1 := gtrans (((Grown.refl _).alloc _ _).alloc _ _) hg1
    have l1 := heap_gt d0; have n1 := Nat.ne_of_gt l1; have o1 := Nat.ne_of_lt l1
    have f1 := fun o => frz hgw1 (w.heap.size + 1) o (by omega)
    clear hg1
    go_wp2
    simp [bodyPost, results, Tryz.results110, go_sem, *]
    exact ⟨⟨by unfold one hiOf; simp; omega, by (try simp only [IntKind.wrap_u64]); unfold one loOf; simp; omega⟩, Grown.alloc (Grown.setCell (Grown.setCell hgw1 (by dsimp only; omega) _) (by dsimp only; omega) _) _ _⟩
  · go_enter Tryz.func110, Tryz.ntmps110
    go_wp2_with fail
    refine (refAddV _ _ _).mono ?_
    rintro e w1 ⟨rfl, hg1⟩
    obtain ⟨d0, d1⟩ := gat2 hg1 (w.heap.size + 1) (.int .i64 0) (.int .u64 0) (by constructor <;> simp [go_sem])
    have hgw1 : Grown w w1 := gtrans (((Grown.refl _).alloc _ _).alloc _ _) hg1
    have l1 := heap_gt d0; have n1 := Nat.ne_of_gt l1; have o1 := Nat.ne_of_lt l1
    have f1 := fun o => frz hgw1 (w.heap.size + 1) o (by omega)
    clear hg1
    go_wp2
    simp [bodyPost, results, Tryz.results110, go_sem, *]
    exact ⟨⟨by unfold one hiOf; simp; omega, by (try simp only [IntKind.wrap_u64]); unfold one loOf; simp; omega⟩, Grown.alloc (Grown.setCell (Grown.setCell hgw1 (by dsimp only; omega) _) (by dsimp only; omega) _) _ _⟩

set_option maxHeartbeats 400000 in
theorem refBelow (A B : Int) (w : World) :
    Calls Tryz.prog 138 #[.agg #[.int .i64 (hiOf A), .int .u64 (loOf A)], .agg #[.int .i64 (hiOf B), .int .u64 (loOf B)]] w fun e w' => e = .returned (.bool (decide (umag A < umag B))) ∧ Grown w w' := by
  have fA : umag A = IntKind.u64.wrap (hiOf A) * 18446744073709551616 + loOf A := by rw [IntKind.wrap_u64]; unfold umag hiOf loOf; omega
  have fB : umag B = IntKind.u64.wrap (hiOf B) * 18446744073709551616 + loOf B := by rw [IntKind.wrap_u64]; unfold umag hiOf loOf; omega
  have lA := loOf_U64 A; have lB := loOf_U64 B
  have hA := hiOf_I64 A; have hB := hiOf_I64 B
  unfold U64 at lA lB; unfold I64 at hA hB
  rw [fA, fB]
  clear fA fB
  generalize hiOf A = ah at *
  generalize hiOf B = bh at *
  generalize loOf A = al at *
  generalize loOf B = bl at *
  have inj : ah ≠ bh → IntKind.u64.wrap ah ≠ IntKind.u64.wrap bh := by simp only [IntKind.wrap_u64]; omega
  by_cases g1 : IntKind.u64.wrap ah < IntKind.u64.wrap bh
  · have e : decide (IntKind.u64.wrap ah * 18446744073709551616 + al < IntKind.u64.wrap bh * 18446744073709551616 + bl) = true := by simp; omega
    rw [e]
    clear e inj
    go_enter Tryz.func138, Tryz.ntmps138
    go_wp2
    go_ret
    exact ⟨rfl, ((Grown.refl _).alloc _ _).alloc _ _⟩
  · by_cases g2 : ah = bh
    · subst g2
      have e : decide (IntKind.u64.wrap ah * 18446744073709551616 + al < IntKind.u64.wrap ah * 18446744073709551616 + bl) = decide (al < bl) := by rw [decide_eq_decide]; omega
      rw [e]
      clear e inj
      go_enter Tryz.func138, Tryz.ntmps138
      go_wp2
      go_ret
      exact ⟨rfl, ((Grown.refl _).alloc _ _).alloc _ _⟩
    · have e : decide (IntKind.u64.wrap ah * 18446744073709551616 + al < IntKind.u64.wrap bh * 18446744073709551616 + bl) = false := by have := inj g2; simp; omega
      rw [e]
      have g3 : (ah == bh) = false := by simpa using g2
      clear e inj g2
      go_enter Tryz.func138, Tryz.ntmps138
      go_wp2
      go_ret
      exact ⟨rfl, ((Grown.refl _).alloc _ _).alloc _ _⟩

set_option maxHeartbeats 400000 in
theorem refWhole (A : Int) (w : World) :
    Calls Tryz.prog 130 #[.agg #[.int .i64 (hiOf A), .int .u64 (loOf A)]] w fun e w' => e = .returned (.agg #[.int .i64 (hiOf (absI (wrapW A))), .int .u64 (loOf (absI (wrapW A)))]) ∧ Grown w w' := by
  by_cases hs : hiOf A < 0
  · have HW : Hid (absI (wrapW A) = -wrapW A) := by
      have : wrapW A < 0 := by rw [← val_of]; have := loOf_U64 A; unfold U64 at this; unfold val; omega
      unfold absI; rw [if_pos this]; exact hide rfl
    go_enter Tryz.func130, Tryz.ntmps130
    go_wp2_with fail
    refine (refNegV _ _).mono ?_
    rintro e w1 ⟨rfl, hg1⟩
    obtain ⟨d0, d1⟩ := gat2 hg1 (w.heap.size + 1) (.int .i64 0) (.int .u64 0) (by constructor <;> simp [go_sem])
    have hgw1 : Grown w w1 := gtrans (((Grown.refl _).alloc _ _).alloc _ _) hg1
    have f1 := fun o => frz hgw1 (w.heap.size + 1) o (by omega)
    clear hg1
    go_wp2
    simp [bodyPost, results, Tryz.results130, go_sem, *]
    rw [unhide HW, hiOf_neg, loOf_neg]
    exact ⟨⟨rfl, rfl⟩, Grown.setCell (Grown.setCell hgw1 (by dsimp only; omega) _) (by dsimp only; omega) _⟩
  · have HW : Hid (absI (wrapW A) = wrapW A) := by
      have : ¬ wrapW A < 0 := by rw [← val_of]; have := loOf_U64 A; unfold U64 at this; unfold val; omega
      unfold absI; rw [if_neg this]; exact hide rfl
    go_enter Tryz.func130, Tryz.ntmps130
    go_wp2
    simp [bodyPost, results, Tryz.results130, go_sem]
    rw [unhide HW, hiOf_wrapW, loOf_wrapW]
    exact ⟨⟨rfl, rfl⟩, ((Grown.refl _).alloc _ _).alloc _ _⟩

end Go.Proofs.YtopaakjildmjcaaGreat

/- The document's quotient, bit by bit, is the rounded quotient: the loop of its helper rounded walked. -/
namespace Go.Proofs.YtopaakjildmjcaaGreat
open Go.RowKit Go.Proofs.Wd
set_option linter.unusedVariables false
set_option linter.unusedSimpArgs false
set_option maxRecDepth 10000
attribute [local go_sem ↓] Go.wp_at_zero Go.wp_at_succ

theorem umag_small (A : Int) (h : 0 ≤ A ∧ A < 340282366920938463463374607431768211456) : umag A = A := by unfold umag; omega
theorem pow_half (a : Int) (k : Nat) : a / 2 ^ k = 2 * (a / 2 ^ (k + 1)) + a / 2 ^ k % 2 := by
  have e : a / 2 ^ (k + 1) = a / 2 ^ k / 2 := by rw [Int.ediv_ediv_of_nonneg (Int.le_of_lt (pow2_pos k))]; rw [Int.pow_succ]
  rw [e]; omega
/-- One step of a long division: the next bit is t. -/
theorem long_step (x d t : Int) (hd : 0 < d) (ht : t = 0 ∨ t = 1) :
    (2 * (x % d) + t < d → (2 * x + t) / d = 2 * (x / d) ∧ (2 * x + t) % d = 2 * (x % d) + t) ∧
    (¬ 2 * (x % d) + t < d → (2 * x + t) / d = 2 * (x / d) + 1 ∧ (2 * x + t) % d = 2 * (x % d) + t + -d) := by
  have e1 := Int.emod_add_mul_ediv x d
  have e2 := Int.emod_nonneg x (by omega : d ≠ 0)
  have e3 := Int.emod_lt_of_pos x hd
  constructor
  · intro h
    exact du hd (by grind) (by omega) h
  · intro h
    exact du hd (by grind) (by omega) (by omega)
theorem one_bit (a : Int) : one (decide (a % 2 = 1)) = a % 2 := by
  unfold one
  by_cases h : a % 2 = 1
  · simp [h]
  · simp [h]; omega

theorem next_of (Q : Int) : hiOf (wrapW Q + val 0 1) = hiOf (Q + 1) ∧ loOf (wrapW Q + val 0 1) = loOf (Q + 1) := by
  unfold hiOf loOf wrapW val; omega
theorem hilo_ne_u (A B : Int) (hA : 0 ≤ A ∧ A < 340282366920938463463374607431768211456) (hB : 0 ≤ B ∧ B < 340282366920938463463374607431768211456) (h : A ≠ B) : hiOf A ≠ hiOf B ∨ loOf A ≠ loOf B := by
  unfold hiOf loOf; omega
theorem even_next (Q : Int) : hiOf (2 * Q + one false) = hiOf (2 * Q + 1) ∧ IntKind.u64.wrap (loOf (2 * Q + one false) + 1) = loOf (2 * Q + 1) := by
  rw [IntKind.wrap_u64]; unfold one hiOf loOf; simp; omega
theorem div128 (A : Int) (h0 : 0 ≤ A) (h1 : A < 340282366920938463463374607431768211456) : A / 2 ^ 128 = 0 :=
  Int.ediv_eq_zero_of_lt h0 (Int.lt_of_lt_of_le h1 (by decide))

set_option maxHeartbeats 2000000 in
theorem refRounded_loop (A D : Int) (hA : 0 ≤ A ∧ A ≤ 170141183460469231731687303715884105728) (hD : 0 < D ∧ D ≤ 170141183460469231731687303715884105728) (w : World) :
    Calls Tryz.prog 129 #[.agg #[.int .i64 (hiOf A), .int .u64 (loOf A)], .agg #[.int .i64 (hiOf D), .int .u64 (loOf D)]] w fun e w' => e = .returned (.agg #[.int .i64 (hiOf (nearQ (A / D) (A % D) (D - A % D))), .int .u64 (loOf (nearQ (A / D) (A % D) (D - A % D)))]) ∧ Grown w w' := by
  go_enter Tryz.func129, Tryz.ntmps129
  go_wp2
  have u0 : A / 2 ^ 128 = 0 := div128 A hA.1 (by omega)
  have z0 : hiOf (A / 2 ^ 128 / D) = 0 ∧ loOf (A / 2 ^ 128 / D) = 0 := by rw [u0, Int.zero_ediv]; decide
  have z1 : hiOf (A / 2 ^ 128 % D) = 0 ∧ loOf (A / 2 ^ 128 % D) = 0 := by rw [u0, Int.zero_emod]; decide
  have Z0 := hide z0; have Z1 := hide z1
  clear u0 z0 z1
  go_loopw [7] (fun i wr => ∃ k : Nat, k ≤ 128 ∧ i = .int .i64 ((k : Int) - 1) ∧ (wr.cell? ⟨w.heap.size, 0, none⟩ = some (.int .i64 (hiOf (A))) ∧ wr.cell? ⟨w.heap.size, 1, none⟩ = some (.int .u64 (loOf (A)))) ∧ (wr.cell? ⟨w.heap.size + 1, 0, none⟩ = some (.int .i64 (hiOf (D))) ∧ wr.cell? ⟨w.heap.size + 1, 1, none⟩ = some (.int .u64 (loOf (D)))) ∧ (wr.cell? ⟨w.heap.size + 1 + 1, 0, none⟩ = some (.int .i64 0) ∧ wr.cell? ⟨w.heap.size + 1 + 1, 1, none⟩ = some (.int .u64 0)) ∧ (wr.cell? ⟨w.heap.size + 1 + 1 + 1, 0, none⟩ = some (.int .i64 (hiOf (A / 2 ^ k / D))) ∧ wr.cell? ⟨w.heap.size + 1 + 1 + 1, 1, none⟩ = some (.int .u64 (loOf (A / 2 ^ k / D)))) ∧ (wr.cell? ⟨w.heap.size + 1 + 1 + 1 + 1, 0, none⟩ = some (.int .i64 (hiOf (A / 2 ^ k % D))) ∧ wr.cell? ⟨w.heap.size + 1 + 1 + 1 + 1, 1, none⟩ = some (.int .u64 (loOf (A / 2 ^ k % D)))) ∧ Grown w wr) (fun i _ => (intOf i + 1).toNat)
  case atStart =>
    refine ⟨128, by omega, rfl, ⟨by simp [go_sem], by simp [go_sem]⟩, ⟨by simp [go_sem], by simp [go_sem]⟩, ⟨by simp [go_sem], by simp [go_sem]⟩, ⟨?_, ?_⟩, ⟨?_, ?_⟩, (((((Grown.refl _).alloc _ _).alloc _ _).alloc _ _).alloc _ _).alloc _ _⟩
    · rw [(unhide Z0).1]; simp [go_sem]
    · rw [(unhide Z0).2]; simp [go_sem]
    · rw [(unhide Z1).1]; simp [go_sem]
    · rw [(unhide Z1).2]; simp [go_sem]
  case round =>
    obtain ⟨k, hk, rfl, ⟨a00, a01⟩, ⟨d00, d01⟩, ⟨z00, z01⟩, ⟨q00, q01⟩, ⟨r00, r01⟩, hg0⟩ := hrel
    clear Z0 Z1
    by_cases hk0 : k = 0
    · subst hk0
      rw [show A / 2 ^ 0 = A from by simp] at q00 q01 r00 r01
      have hr0 := Int.emod_nonneg A (by omega : D ≠ 0)
      have hr1 := Int.emod_lt_of_pos A hD.1
      obtain ⟨Q, hQ⟩ : ∃ Q, A / D = Q := ⟨_, rfl⟩
      obtain ⟨R, hR⟩ : ∃ R, A % D = R := ⟨_, rfl⟩
      rw [hQ] at q00 q01
      rw [hR] at r00 r01 hr0 hr1
      have HQ := hide hQ; have HR := hide hR
      clear hQ hR
      have BL := hide (fun w => refBelow (D + -R) R w)
      rw [umag_small (D + -R) (by omega), umag_small R (by omega)] at BL
      have A1 := hide (fun w => refAdd (hiOf Q) (loOf Q) 0 1 (hiOf_I64 _) (loOf_U64 _) (by unfold I64; omega) (by unfold U64; omega) w)
      rw [val_of, (next_of Q).1, (next_of Q).2] at A1
      have hlo := loOf_U64 Q
      unfold U64 at hlo
      have hpar : loOf Q % 2 = Q % 2 := by unfold loOf; omega
      have HP := hide hpar
      have HNE := hide (fun h => hilo_ne_u (D + -R) R (by omega) (by omega) h)
      clear hpar
      go_upto_region 10 with fail
      go_cut [8] (fun s8 wx => ∃ g, s8 = .pointer (some ⟨g, 0, none⟩) ∧ (wx.cell? ⟨g, 0, none⟩ = some (.int .i64 (hiOf (D + -R))) ∧ wx.cell? ⟨g, 1, none⟩ = some (.int .u64 (loOf (D + -R)))) ∧ (wx.cell? ⟨w.heap.size, 0, none⟩ = some (.int .i64 (hiOf (A))) ∧ wx.cell? ⟨w.heap.size, 1, none⟩ = some (.int .u64 (loOf (A)))) ∧ (wx.cell? ⟨w.heap.size + 1, 0, none⟩ = some (.int .i64 (hiOf (D))) ∧ wx.cell? ⟨w.heap.size + 1, 1, none⟩ = some (.int .u64 (loOf (D)))) ∧ (wx.cell? ⟨w.heap.size + 1 + 1, 0, none⟩ = some (.int .i64 0) ∧ wx.cell? ⟨w.heap.size + 1 + 1, 1, none⟩ = some (.int .u64 0)) ∧ (wx.cell? ⟨w.heap.size + 1 + 1 + 1, 0, none⟩ = some (.int .i64 (hiOf (Q))) ∧ wx.cell? ⟨w.heap.size + 1 + 1 + 1, 1, none⟩ = some (.int .u64 (loOf (Q)))) ∧ (wx.cell? ⟨w.heap.size + 1 + 1 + 1 + 1, 0, none⟩ = some (.int .i64 (hiOf (R))) ∧ wx.cell? ⟨w.heap.size + 1 + 1 + 1 + 1, 1, none⟩ = some (.int .u64 (loOf (R)))) ∧ Grown w wx)
      case first =>
        have l0 := heap_gt r00; have nr1 : w.heap.size + 1 < wr.heap.size := (by omega); have nr2 : w.heap.size + 1 + 1 < wr.heap.size := (by omega); have nr3 : w.heap.size + 1 + 1 + 1 < wr.heap.size := (by omega); have nr0 : w.heap.size < wr.heap.size := (by omega); have mr0 : wr.heap.size ≠ w.heap.size := (by omega); have pr0 : w.heap.size ≠ wr.heap.size := (by omega); have mr1 : wr.heap.size ≠ w.heap.size + 1 := (by omega); have pr1 : w.heap.size + 1 ≠ wr.heap.size := (by omega); have mr2 : wr.heap.size ≠ w.heap.size + 1 + 1 := (by omega); have pr2 : w.heap.size + 1 + 1 ≠ wr.heap.size := (by omega); have mr3 : wr.heap.size ≠ w.heap.size + 1 + 1 + 1 := (by omega); have pr3 : w.heap.size + 1 + 1 + 1 ≠ wr.heap.size := (by omega); have mr4 : wr.heap.size ≠ w.heap.size + 1 + 1 + 1 + 1 := (by omega); have pr4 : w.heap.size + 1 + 1 + 1 + 1 ≠ wr.heap.size := (by omega)
        go_region_held3 (fun w' => (w'.cell? ⟨w.heap.size + 1, 0, none⟩ = some (.int .i64 (hiOf (D))) ∧ w'.cell? ⟨w.heap.size + 1, 1, none⟩ = some (.int .u64 (loOf (D)))) ∧ (w'.cell? ⟨w.heap.size + 1 + 1 + 1 + 1, 0, none⟩ = some (.int .i64 (hiOf (R))) ∧ w'.cell? ⟨w.heap.size + 1 + 1 + 1 + 1, 1, none⟩ = some (.int .u64 (loOf (R)))))
          (simp [go_sem, *])
          (first
            | (go_at_call 112; refine (refNegV _ _).mono ?_; rintro e wm ⟨rfl, hgm⟩; have hgwm : Grown w wm := gtrans (by first | exact Grown.drew hg0 | exact Grown.drew (Grown.alloc hg0 _ _)) hgm; obtain ⟨am0, am1⟩ := gat2 hgm (w.heap.size) (.int .i64 (hiOf (A))) (.int .u64 (loOf (A))) (by constructor <;> simp [go_sem, *]); obtain ⟨dm0, dm1⟩ := gat2 hgm (w.heap.size + 1) (.int .i64 (hiOf (D))) (.int .u64 (loOf (D))) (by constructor <;> simp [go_sem, *]); obtain ⟨zm0, zm1⟩ := gat2 hgm (w.heap.size + 1 + 1) (.int .i64 0) (.int .u64 0) (by constructor <;> simp [go_sem, *]); obtain ⟨qm0, qm1⟩ := gat2 hgm (w.heap.size + 1 + 1 + 1) (.int .i64 (hiOf (Q))) (.int .u64 (loOf (Q))) (by constructor <;> simp [go_sem, *]); obtain ⟨rm0, rm1⟩ := gat2 hgm (w.heap.size + 1 + 1 + 1 + 1) (.int .i64 (hiOf (R))) (.int .u64 (loOf (R))) (by constructor <;> simp [go_sem, *]); have lm := heap_gt rm0; have nm1 : w.heap.size + 1 < wm.heap.size := (by omega); have nm2 : w.heap.size + 1 + 1 < wm.heap.size := (by omega); have nm3 : w.heap.size + 1 + 1 + 1 < wm.heap.size := (by omega); have nm0 : w.heap.size < wm.heap.size := (by omega); have mm0 : wm.heap.size ≠ w.heap.size := (by omega); have pm0 : w.heap.size ≠ wm.heap.size := (by omega); have mm1 : wm.heap.size ≠ w.heap.size + 1 := (by omega); have pm1 : w.heap.size + 1 ≠ wm.heap.size := (by omega); have mm2 : wm.heap.size ≠ w.heap.size + 1 + 1 := (by omega); have pm2 : w.heap.size + 1 + 1 ≠ wm.heap.size := (by omega); have mm3 : wm.heap.size ≠ w.heap.size + 1 + 1 + 1 := (by omega); have pm3 : w.heap.size + 1 + 1 + 1 ≠ wm.heap.size := (by omega); have mm4 : wm.heap.size ≠ w.heap.size + 1 + 1 + 1 + 1 := (by omega); have pm4 : w.heap.size + 1 + 1 + 1 + 1 ≠ wm.heap.size := (by omega); (try (refine with_gat2 hgm wr.heap.size (.int .i64 0) (.int .u64 0) ?_ ?_ ?_; (focus (first | assumption | (simp [go_sem]; done))); (focus (first | assumption | (simp [go_sem]; done))); intro yu0 yu1)))
            | (go_at_call 113; refine (refAddV _ _ _).mono ?_; rintro e wa ⟨rfl, hga⟩; have hgwa : Grown w wa := gtrans (by first | exact hgwm | exact Grown.alloc hgwm _ _) hga; have zz0 := fun o => frz hgwa wr.heap.size o hg0.2.2; have zz1 := fun o => frz hgwa wm.heap.size o hgwm.2.2; obtain ⟨aa0, aa1⟩ := gat2 hga (w.heap.size) (.int .i64 (hiOf (A))) (.int .u64 (loOf (A))) (by constructor <;> simp [go_sem, *]); obtain ⟨da0, da1⟩ := gat2 hga (w.heap.size + 1) (.int .i64 (hiOf (D))) (.int .u64 (loOf (D))) (by constructor <;> simp [go_sem, *]); obtain ⟨za0, za1⟩ := gat2 hga (w.heap.size + 1 + 1) (.int .i64 0) (.int .u64 0) (by constructor <;> simp [go_sem, *]); obtain ⟨qa0, qa1⟩ := gat2 hga (w.heap.size + 1 + 1 + 1) (.int .i64 (hiOf (Q))) (.int .u64 (loOf (Q))) (by constructor <;> simp [go_sem, *]); obtain ⟨ra0, ra1⟩ := gat2 hga (w.heap.size + 1 + 1 + 1 + 1) (.int .i64 (hiOf (R))) (.int .u64 (loOf (R))) (by constructor <;> simp [go_sem, *]); have la := heap_gt ra0; have na1 : w.heap.size + 1 < wa.heap.size := (by omega); have na2 : w.heap.size + 1 + 1 < wa.heap.size := (by omega); have na3 : w.heap.size + 1 + 1 + 1 < wa.heap.size := (by omega); have na0 : w.heap.size < wa.heap.size := (by omega); have ma0 : wa.heap.size ≠ w.heap.size := (by omega); have pa0 : w.heap.size ≠ wa.heap.size := (by omega); have ma1 : wa.heap.size ≠ w.heap.size + 1 := (by omega); have pa1 : w.heap.size + 1 ≠ wa.heap.size := (by omega); have ma2 : wa.heap.size ≠ w.heap.size + 1 + 1 := (by omega); have pa2 : w.heap.size + 1 + 1 ≠ wa.heap.size := (by omega); have ma3 : wa.heap.size ≠ w.heap.size + 1 + 1 + 1 := (by omega); have pa3 : w.heap.size + 1 + 1 + 1 ≠ wa.heap.size := (by omega); have ma4 : wa.heap.size ≠ w.heap.size + 1 + 1 + 1 + 1 := (by omega); have pa4 : w.heap.size + 1 + 1 + 1 + 1 ≠ wa.heap.size := (by omega); (try (refine with_gat2 hga wr.heap.size (.int .i64 0) (.int .u64 0) ?_ ?_ ?_; (focus (first | assumption | (simp [go_sem]; done))); (focus (first | assumption | (simp [go_sem]; done))); intro yv0 yv1)); (try (refine with_gat2 hga wm.heap.size (.int .i64 0) (.int .u64 0) ?_ ?_ ?_; (focus (first | assumption | (simp [go_sem]; done))); (focus (first | assumption | (simp [go_sem]; done))); intro yx0 yx1))))
        all_goals go_wp2_with fail
        all_goals go_meet
        all_goals refine ⟨_, rfl, ⟨?_, ?_⟩, ⟨?_, ?_⟩, ⟨?_, ?_⟩, ⟨?_, ?_⟩, ⟨?_, ?_⟩, ⟨?_, ?_⟩, ?_⟩
        all_goals first | (simp [go_sem, *]; done) | exact Grown.alloc hgwa _ _ | exact Grown.setCell (Grown.setCell hgwa hg0.2.2 _) hg0.2.2 _ | exact Grown.setCell (Grown.setCell hgwa hgwm.2.2 _) hgwm.2.2 _
      case rest =>
      obtain ⟨g, rfl, ⟨g20, g21⟩, ⟨a20, a21⟩, ⟨d20, d21⟩, ⟨z20, z21⟩, ⟨q20, q21⟩, ⟨r20, r21⟩, k2⟩ := hcut
      clear a00 a01 d00 d01 z00 z01 q00 q01 r00 r01 hg0
      by_cases c1 : D + -R < R
      · have HN := hide (show nearQ Q R (D + -R) = Q + 1 from by unfold nearQ; rw [if_pos (Or.inl c1)])
        rw [show decide (D + -R < R) = true from by simpa using c1] at BL
        clear c1
        go_wp2_with fail
        refine (unhide BL _).mono ?_
        rintro e w3 ⟨rfl, hg3⟩
        obtain ⟨z30, z31⟩ := gat2 hg3 _ _ _ ⟨z20, z21⟩
        obtain ⟨q30, q31⟩ := gat2 hg3 _ _ _ ⟨q20, q21⟩
        obtain ⟨r30, r31⟩ := gat2 hg3 _ _ _ ⟨r20, r21⟩
        obtain ⟨g30, g31⟩ := gat2 hg3 _ _ _ ⟨g20, g21⟩
        have k3 : Grown w w3 := gtrans k2 hg3
        clear hg3 k2 a20 a21 d20 d21 z20 z21 q20 q21 r20 r21 g20 g21 BL
        go_wp2_with fail
        refine (unhide A1 _).mono ?_
        rintro e w4 ⟨rfl, hg4⟩
        obtain ⟨z40, z41⟩ := gat2 hg4 _ _ _ ⟨z30, z31⟩
        obtain ⟨q40, q41⟩ := gat2 hg4 _ _ _ ⟨q30, q31⟩
        have k4 : Grown w w4 := gtrans k3 hg4
        have f4 := fun o => frz k4 (w.heap.size + 1 + 1 + 1) o (by omega)
        have f5 := fun o => frz k4 (w.heap.size + 1 + 1) o (by omega)
        clear hg4 k3 z30 z31 q30 q31 r30 r31 g30 g31
        go_wp2
        simp [bodyPost, results, Tryz.results129, go_sem, *]
        rw [unhide HQ, unhide HR, Int.sub_eq_add_neg, unhide HN]
        exact ⟨⟨rfl, rfl⟩, Grown.setCell (Grown.setCell (Grown.setCell (Grown.setCell k4 (by dsimp only; omega) _) (by dsimp only; omega) _) (by dsimp only; omega) _) (by dsimp only; omega) _⟩
      rw [show decide (D + -R < R) = false from by simpa using c1] at BL
      by_cases c2 : D + -R = R
      · have c3 : (hiOf (D + -R) == hiOf R) = true := by rw [c2]; simp
        have c4 : (loOf (D + -R) == loOf R) = true := by rw [c2]; simp
        by_cases c5 : Q % 2 = 1
        · have HN := hide (show nearQ Q R (D + -R) = Q + 1 from by unfold nearQ; rw [if_pos (Or.inr ⟨c2, c5⟩)])
          have c6 : loOf Q % 2 = 1 := by rw [unhide HP]; exact c5
          clear c1 c2 c5
          go_wp2_with fail
          refine (unhide BL _).mono ?_
          rintro e w3 ⟨rfl, hg3⟩
          obtain ⟨z30, z31⟩ := gat2 hg3 _ _ _ ⟨z20, z21⟩
          obtain ⟨q30, q31⟩ := gat2 hg3 _ _ _ ⟨q20, q21⟩
          obtain ⟨r30, r31⟩ := gat2 hg3 _ _ _ ⟨r20, r21⟩
          obtain ⟨g30, g31⟩ := gat2 hg3 _ _ _ ⟨g20, g21⟩
          have k3 : Grown w w3 := gtrans k2 hg3
          clear hg3 k2 a20 a21 d20 d21 z20 z21 q20 q21 r20 r21 g20 g21 BL
          go_wp2_with fail
          refine (unhide A1 _).mono ?_
          rintro e w4 ⟨rfl, hg4⟩
          obtain ⟨z40, z41⟩ := gat2 hg4 _ _ _ ⟨z30, z31⟩
          obtain ⟨q40, q41⟩ := gat2 hg4 _ _ _ ⟨q30, q31⟩
          have k4 : Grown w w4 := gtrans k3 hg4
          have f4 := fun o => frz k4 (w.heap.size + 1 + 1 + 1) o (by omega)
          have f5 := fun o => frz k4 (w.heap.size + 1 + 1) o (by omega)
          clear hg4 k3 z30 z31 q30 q31 r30 r31 g30 g31
          go_wp2
          simp [bodyPost, results, Tryz.results129, go_sem, *]
          rw [unhide HQ, unhide HR, Int.sub_eq_add_neg, unhide HN]
          exact ⟨⟨rfl, rfl⟩, Grown.setCell (Grown.setCell (Grown.setCell (Grown.setCell k4 (by dsimp only; omega) _) (by dsimp only; omega) _) (by dsimp only; omega) _) (by dsimp only; omega) _⟩
        · have HN := hide (show nearQ Q R (D + -R) = Q from by unfold nearQ; rw [if_neg (by omega)])
          have c6 : loOf Q % 2 = 0 := by rw [unhide HP]; omega
          clear c1 c2 c5
          go_wp2_with fail
          refine (unhide BL _).mono ?_
          rintro e w3 ⟨rfl, hg3⟩
          obtain ⟨z30, z31⟩ := gat2 hg3 _ _ _ ⟨z20, z21⟩
          obtain ⟨q30, q31⟩ := gat2 hg3 _ _ _ ⟨q20, q21⟩
          obtain ⟨r30, r31⟩ := gat2 hg3 _ _ _ ⟨r20, r21⟩
          obtain ⟨g30, g31⟩ := gat2 hg3 _ _ _ ⟨g20, g21⟩
          have k3 : Grown w w3 := gtrans k2 hg3
          clear hg3 k2 a20 a21 d20 d21 z20 z21 q20 q21 r20 r21 g20 g21 BL
          have f5 := fun o => frz k3 (w.heap.size + 1 + 1) o (by omega)
          go_wp2
          simp [bodyPost, results, Tryz.results129, go_sem, *]
          rw [unhide HQ, unhide HR, Int.sub_eq_add_neg, unhide HN]
          exact ⟨⟨rfl, rfl⟩, Grown.setCell (Grown.setCell k3 (by dsimp only; omega) _) (by dsimp only; omega) _⟩
      · have HN := hide (show nearQ Q R (D + -R) = Q from by unfold nearQ; rw [if_neg (by omega)])
        have hne := unhide HNE c2
        by_cases g5 : (hiOf (D + -R) == hiOf R) = true
        · have g6 : (loOf (D + -R) == loOf R) = false := by
            rw [beq_eq_false_iff_ne]; rcases hne with h | h
            · exact absurd (by simpa using g5) h
            · exact h
          clear hne c1 c2
          go_wp2_with fail
          refine (unhide BL _).mono ?_
          rintro e w3 ⟨rfl, hg3⟩
          obtain ⟨z30, z31⟩ := gat2 hg3 _ _ _ ⟨z20, z21⟩
          obtain ⟨q30, q31⟩ := gat2 hg3 _ _ _ ⟨q20, q21⟩
          obtain ⟨r30, r31⟩ := gat2 hg3 _ _ _ ⟨r20, r21⟩
          obtain ⟨g30, g31⟩ := gat2 hg3 _ _ _ ⟨g20, g21⟩
          have k3 : Grown w w3 := gtrans k2 hg3
          clear hg3 k2 a20 a21 d20 d21 z20 z21 q20 q21 r20 r21 g20 g21 BL
          have f5 := fun o => frz k3 (w.heap.size + 1 + 1) o (by omega)
          go_wp2
          simp [bodyPost, results, Tryz.results129, go_sem, *]
          rw [unhide HQ, unhide HR, Int.sub_eq_add_neg, unhide HN]
          exact ⟨⟨rfl, rfl⟩, Grown.setCell (Grown.setCell k3 (by dsimp only; omega) _) (by dsimp only; omega) _⟩
        · have g6 : (hiOf (D + -R) == hiOf R) = false := by simpa using g5
          clear hne c1 c2 g5
          go_wp2_with fail
          refine (unhide BL _).mono ?_
          rintro e w3 ⟨rfl, hg3⟩
          obtain ⟨z30, z31⟩ := gat2 hg3 _ _ _ ⟨z20, z21⟩
          obtain ⟨q30, q31⟩ := gat2 hg3 _ _ _ ⟨q20, q21⟩
          obtain ⟨r30, r31⟩ := gat2 hg3 _ _ _ ⟨r20, r21⟩
          obtain ⟨g30, g31⟩ := gat2 hg3 _ _ _ ⟨g20, g21⟩
          have k3 : Grown w w3 := gtrans k2 hg3
          clear hg3 k2 a20 a21 d20 d21 z20 z21 q20 q21 r20 r21 g20 g21 BL
          have f5 := fun o => frz k3 (w.heap.size + 1 + 1) o (by omega)
          go_wp2
          simp [bodyPost, results, Tryz.results129, go_sem, *]
          rw [unhide HQ, unhide HR, Int.sub_eq_add_neg, unhide HN]
          exact ⟨⟨rfl, rfl⟩, Grown.setCell (Grown.setCell k3 (by dsimp only; omega) _) (by dsimp only; omega) _⟩
    · obtain ⟨j, rfl⟩ : ∃ j, k = j + 1 := ⟨k - 1, by omega⟩
      rw [show ((j + 1 : Nat) : Int) - 1 = (j : Int) from by omega]
      have BT := hide (fun w => refBit A j (by omega) (by omega) w)
      rw [Int.toNat_natCast] at BT
      have hob := one_bit (A / 2 ^ j)
      obtain ⟨bt, hbt⟩ : ∃ bt, decide (A / 2 ^ j % 2 = 1) = bt := ⟨_, rfl⟩
      rw [hbt] at BT hob
      have hls := long_step (A / 2 ^ (j + 1)) D (one bt) hD.1 (by rw [hob]; omega)
      rw [hob, ← pow_half A j, ← hob] at hls
      have hr0 := Int.emod_nonneg (A / 2 ^ (j + 1)) (by omega : D ≠ 0)
      have hr1 := Int.emod_lt_of_pos (A / 2 ^ (j + 1)) hD.1
      have ho : one bt = 0 ∨ one bt = 1 := by rw [hob]; omega
      generalize A / 2 ^ (j + 1) / D = Q at *
      generalize A / 2 ^ (j + 1) % D = R at *
      have hm1 := umag_small (2 * R + one bt) (by omega)
      have hm2 := umag_small D (by omega)
      have BL := hide (fun w => refBelow (2 * R + one bt) D w)
      rw [hm1, hm2] at BL
      have HLS := hide hls
      clear hbt hob hr0 hr1 ho hm1 hm2 hk0 hls
      go_upto_region 5 with fail
      go_cut [] (fun wx => (wx.cell? ⟨w.heap.size, 0, none⟩ = some (.int .i64 (hiOf (A))) ∧ wx.cell? ⟨w.heap.size, 1, none⟩ = some (.int .u64 (loOf (A)))) ∧ (wx.cell? ⟨w.heap.size + 1, 0, none⟩ = some (.int .i64 (hiOf (D))) ∧ wx.cell? ⟨w.heap.size + 1, 1, none⟩ = some (.int .u64 (loOf (D)))) ∧ (wx.cell? ⟨w.heap.size + 1 + 1, 0, none⟩ = some (.int .i64 0) ∧ wx.cell? ⟨w.heap.size + 1 + 1, 1, none⟩ = some (.int .u64 0)) ∧ (wx.cell? ⟨w.heap.size + 1 + 1 + 1, 0, none⟩ = some (.int .i64 (hiOf (Q))) ∧ wx.cell? ⟨w.heap.size + 1 + 1 + 1, 1, none⟩ = some (.int .u64 (loOf (Q)))) ∧ (wx.cell? ⟨w.heap.size + 1 + 1 + 1 + 1, 0, none⟩ = some (.int .i64 (hiOf (2 * R + one bt))) ∧ wx.cell? ⟨w.heap.size + 1 + 1 + 1 + 1, 1, none⟩ = some (.int .u64 (loOf (2 * R + one bt)))) ∧ Grown w wx)
      case first =>
        go_region_with
          (first
            | (go_at_call 111; refine (unhide BT _).mono ?_; rintro e w1 ⟨rfl, hg1⟩; obtain ⟨a10, a11⟩ := gat2 hg1 (w.heap.size) (.int .i64 (hiOf (A))) (.int .u64 (loOf (A))) (by constructor <;> simp [go_sem, *]); obtain ⟨d10, d11⟩ := gat2 hg1 (w.heap.size + 1) (.int .i64 (hiOf (D))) (.int .u64 (loOf (D))) (by constructor <;> simp [go_sem, *]); obtain ⟨z10, z11⟩ := gat2 hg1 (w.heap.size + 1 + 1) (.int .i64 0) (.int .u64 0) (by constructor <;> simp [go_sem, *]); obtain ⟨q10, q11⟩ := gat2 hg1 (w.heap.size + 1 + 1 + 1) (.int .i64 (hiOf (Q))) (.int .u64 (loOf (Q))) (by constructor <;> simp [go_sem, *]); obtain ⟨r10, r11⟩ := gat2 hg1 (w.heap.size + 1 + 1 + 1 + 1) (.int .i64 (hiOf (R))) (.int .u64 (loOf (R))) (by constructor <;> simp [go_sem, *]); have k1 : Grown w w1 := gtrans (by exact Grown.drew hg0) hg1)
            | (go_at_call 110; refine (refTwice _ _ _).mono ?_; rintro e w2 ⟨rfl, hg2⟩; obtain ⟨a20, a21⟩ := gat2 hg2 (w.heap.size) (.int .i64 (hiOf (A))) (.int .u64 (loOf (A))) (by constructor <;> simp [go_sem, *]); obtain ⟨d20, d21⟩ := gat2 hg2 (w.heap.size + 1) (.int .i64 (hiOf (D))) (.int .u64 (loOf (D))) (by constructor <;> simp [go_sem, *]); obtain ⟨z20, z21⟩ := gat2 hg2 (w.heap.size + 1 + 1) (.int .i64 0) (.int .u64 0) (by constructor <;> simp [go_sem, *]); obtain ⟨q20, q21⟩ := gat2 hg2 (w.heap.size + 1 + 1 + 1) (.int .i64 (hiOf (Q))) (.int .u64 (loOf (Q))) (by constructor <;> simp [go_sem, *]); obtain ⟨r20, r21⟩ := gat2 hg2 (w.heap.size + 1 + 1 + 1 + 1) (.int .i64 (hiOf (R))) (.int .u64 (loOf (R))) (by constructor <;> simp [go_sem, *]); have k2 : Grown w w2 := gtrans k1 hg2; have f2 := fun o => frz k2 (w.heap.size + 1 + 1 + 1 + 1) o (by omega)))
        all_goals go_wp2_with fail
        all_goals go_meet
        all_goals exact ⟨⟨by simp [go_sem, *], by simp [go_sem, *]⟩, ⟨by simp [go_sem, *], by simp [go_sem, *]⟩, ⟨by simp [go_sem, *], by simp [go_sem, *]⟩, ⟨by simp [go_sem, *], by simp [go_sem, *]⟩, ⟨by simp [go_sem, *], by simp [go_sem, *]⟩, Grown.setCell (Grown.setCell k2 (by dsimp only; omega) _) (by dsimp only; omega) _⟩
      case rest =>
      obtain ⟨⟨a20, a21⟩, ⟨d20, d21⟩, ⟨z20, z21⟩, ⟨q20, q21⟩, ⟨r20, r21⟩, k2⟩ := hcut
      clear a00 a01 d00 d01 z00 z01 q00 q01 r00 r01 hg0
      go_wp2_with fail
      refine (refTwice _ _ _).mono ?_
      rintro e w3 ⟨rfl, hg3⟩
      obtain ⟨a30, a31⟩ := gat2 hg3 (w.heap.size) (.int .i64 (hiOf (A))) (.int .u64 (loOf (A))) (by constructor <;> simp [go_sem, *])
      obtain ⟨d30, d31⟩ := gat2 hg3 (w.heap.size + 1) (.int .i64 (hiOf (D))) (.int .u64 (loOf (D))) (by constructor <;> simp [go_sem, *])
      obtain ⟨z30, z31⟩ := gat2 hg3 (w.heap.size + 1 + 1) (.int .i64 0) (.int .u64 0) (by constructor <;> simp [go_sem, *])
      obtain ⟨q30, q31⟩ := gat2 hg3 (w.heap.size + 1 + 1 + 1) (.int .i64 (hiOf (Q))) (.int .u64 (loOf (Q))) (by constructor <;> simp [go_sem, *])
      obtain ⟨r30, r31⟩ := gat2 hg3 (w.heap.size + 1 + 1 + 1 + 1) (.int .i64 (hiOf (2 * R + one bt))) (.int .u64 (loOf (2 * R + one bt))) (by constructor <;> simp [go_sem, *])
      have k3 : Grown w w3 := gtrans k2 hg3
      have f3 := fun o => frz k3 (w.heap.size + 1 + 1 + 1) o (by omega)
      clear hg3 k2 a20 a21 d20 d21 z20 z21 q20 q21 r20 r21
      go_wp2_with fail
      refine (unhide BL _).mono ?_
      rintro e w4 ⟨rfl, hg4⟩
      obtain ⟨a40, a41⟩ := gat2 hg4 (w.heap.size) (.int .i64 (hiOf (A))) (.int .u64 (loOf (A))) (by constructor <;> simp [go_sem, *])
      obtain ⟨d40, d41⟩ := gat2 hg4 (w.heap.size + 1) (.int .i64 (hiOf (D))) (.int .u64 (loOf (D))) (by constructor <;> simp [go_sem, *])
      obtain ⟨z40, z41⟩ := gat2 hg4 (w.heap.size + 1 + 1) (.int .i64 0) (.int .u64 0) (by constructor <;> simp [go_sem, *])
      obtain ⟨q40, q41⟩ := gat2 hg4 (w.heap.size + 1 + 1 + 1) (.int .i64 (hiOf (2 * Q + one false))) (.int .u64 (loOf (2 * Q + one false))) (by constructor <;> simp [go_sem, *])
      obtain ⟨r40, r41⟩ := gat2 hg4 (w.heap.size + 1 + 1 + 1 + 1) (.int .i64 (hiOf (2 * R + one bt))) (.int .u64 (loOf (2 * R + one bt))) (by constructor <;> simp [go_sem, *])
      have k4 : Grown w w4 := gtrans (Grown.setCell (Grown.setCell k3 (by dsimp only; omega) _) (by dsimp only; omega) _) hg4
      clear hg4 k3 f3 a30 a31 d30 d31 z30 z31 q30 q31 r30 r31
      by_cases hlt : 2 * R + one bt < D
      · obtain ⟨v1, v2⟩ := (unhide HLS).1 hlt
        have V1 := hide v1; have V2 := hide v2
        rw [show decide (2 * R + one bt < D) = true from by simpa using hlt]
        clear v1 v2 hlt HLS
        go_wp2
        go_roundw
        case rel =>
          refine ⟨j, by omega, by go_num, ⟨a40, a41⟩, ⟨d40, d41⟩, ⟨z40, z41⟩, ?_, ?_, k4⟩
          · rw [unhide V1, show 2 * Q = 2 * Q + one false from by unfold one; simp]; exact ⟨q40, q41⟩
          · rw [unhide V2]; exact ⟨r40, r41⟩
        case measure => simp [intOf]
      · obtain ⟨v1, v2⟩ := (unhide HLS).2 (by omega)
        have V1 := hide v1; have V2 := hide v2
        rw [show decide (2 * R + one bt < D) = false from by simpa using hlt]
        clear v1 v2 hlt HLS
        go_upto_region 8 with fail
        go_cut [] (fun wx => (wx.cell? ⟨w.heap.size, 0, none⟩ = some (.int .i64 (hiOf (A))) ∧ wx.cell? ⟨w.heap.size, 1, none⟩ = some (.int .u64 (loOf (A)))) ∧ (wx.cell? ⟨w.heap.size + 1, 0, none⟩ = some (.int .i64 (hiOf (D))) ∧ wx.cell? ⟨w.heap.size + 1, 1, none⟩ = some (.int .u64 (loOf (D)))) ∧ (wx.cell? ⟨w.heap.size + 1 + 1, 0, none⟩ = some (.int .i64 0) ∧ wx.cell? ⟨w.heap.size + 1 + 1, 1, none⟩ = some (.int .u64 0)) ∧ (wx.cell? ⟨w.heap.size + 1 + 1 + 1, 0, none⟩ = some (.int .i64 (hiOf (2 * Q + one false))) ∧ wx.cell? ⟨w.heap.size + 1 + 1 + 1, 1, none⟩ = some (.int .u64 (loOf (2 * Q + one false)))) ∧ (wx.cell? ⟨w.heap.size + 1 + 1 + 1 + 1, 0, none⟩ = some (.int .i64 (hiOf (2 * R + one bt + -D))) ∧ wx.cell? ⟨w.heap.size + 1 + 1 + 1 + 1, 1, none⟩ = some (.int .u64 (loOf (2 * R + one bt + -D)))) ∧ Grown w wx)
        case first =>
          go_region_with
            (first
              | (go_at_call 112; refine (refNegV _ _).mono ?_; rintro e w5 ⟨rfl, hg5⟩; obtain ⟨a50, a51⟩ := gat2 hg5 (w.heap.size) (.int .i64 (hiOf (A))) (.int .u64 (loOf (A))) (by constructor <;> simp [go_sem, *]); obtain ⟨d50, d51⟩ := gat2 hg5 (w.heap.size + 1) (.int .i64 (hiOf (D))) (.int .u64 (loOf (D))) (by constructor <;> simp [go_sem, *]); obtain ⟨z50, z51⟩ := gat2 hg5 (w.heap.size + 1 + 1) (.int .i64 0) (.int .u64 0) (by constructor <;> simp [go_sem, *]); obtain ⟨q50, q51⟩ := gat2 hg5 (w.heap.size + 1 + 1 + 1) (.int .i64 (hiOf (2 * Q + one false))) (.int .u64 (loOf (2 * Q + one false))) (by constructor <;> simp [go_sem, *]); obtain ⟨r50, r51⟩ := gat2 hg5 (w.heap.size + 1 + 1 + 1 + 1) (.int .i64 (hiOf (2 * R + one bt))) (.int .u64 (loOf (2 * R + one bt))) (by constructor <;> simp [go_sem, *]); have k5 : Grown w w5 := gtrans (by exact Grown.drew k4) hg5)
              | (go_at_call 113; refine (refAddV _ _ _).mono ?_; rintro e w6 ⟨rfl, hg6⟩; obtain ⟨a60, a61⟩ := gat2 hg6 (w.heap.size) (.int .i64 (hiOf (A))) (.int .u64 (loOf (A))) (by constructor <;> simp [go_sem, *]); obtain ⟨d60, d61⟩ := gat2 hg6 (w.heap.size + 1) (.int .i64 (hiOf (D))) (.int .u64 (loOf (D))) (by constructor <;> simp [go_sem, *]); obtain ⟨z60, z61⟩ := gat2 hg6 (w.heap.size + 1 + 1) (.int .i64 0) (.int .u64 0) (by constructor <;> simp [go_sem, *]); obtain ⟨q60, q61⟩ := gat2 hg6 (w.heap.size + 1 + 1 + 1) (.int .i64 (hiOf (2 * Q + one false))) (.int .u64 (loOf (2 * Q + one false))) (by constructor <;> simp [go_sem, *]); obtain ⟨r60, r61⟩ := gat2 hg6 (w.heap.size + 1 + 1 + 1 + 1) (.int .i64 (hiOf (2 * R + one bt))) (.int .u64 (loOf (2 * R + one bt))) (by constructor <;> simp [go_sem, *]); have k6 : Grown w w6 := gtrans k5 hg6; have f6 := fun o => frz k6 (w.heap.size + 1 + 1 + 1 + 1) o (by omega)))
          all_goals go_wp2_with fail
          all_goals go_meet
          all_goals exact ⟨⟨by simp [go_sem, *], by simp [go_sem, *]⟩, ⟨by simp [go_sem, *], by simp [go_sem, *]⟩, ⟨by simp [go_sem, *], by simp [go_sem, *]⟩, ⟨by simp [go_sem, *], by simp [go_sem, *]⟩, ⟨by simp [go_sem, *], by simp [go_sem, *]⟩, Grown.setCell (Grown.setCell k6 (by dsimp only; omega) _) (by dsimp only; omega) _⟩
        case rest =>
        obtain ⟨⟨a60, a61⟩, ⟨d60, d61⟩, ⟨z60, z61⟩, ⟨q60, q61⟩, ⟨r60, r61⟩, k6⟩ := hcut
        clear a40 a41 d40 d41 z40 z41 q40 q41 r40 r41 k4
        have f7 := fun o => frz k6 (w.heap.size + 1 + 1 + 1) o (by omega)
        go_wp2
        go_roundw
        case rel =>
          refine ⟨j, by omega, by go_num, ⟨by simp [go_sem, *], by simp [go_sem, *]⟩, ⟨by simp [go_sem, *], by simp [go_sem, *]⟩, ⟨by simp [go_sem, *], by simp [go_sem, *]⟩, ?_, ?_, Grown.setCell k6 (by dsimp only; omega) _⟩
          · rw [unhide V1, ← (even_next Q).1, ← (even_next Q).2]; constructor <;> simp [go_sem, *]
          · rw [unhide V2]; constructor <;> simp [go_sem, *]
        case measure => simp [intOf]

end Go.Proofs.YtopaakjildmjcaaGreat

/- The document's Round and Div, walked over its helper rounded. -/
namespace Go.Proofs.YtopaakjildmjcaaGreat
open Go.RowKit Go.Proofs.Wd
set_option linter.unusedVariables false
set_option linter.unusedSimpArgs false
set_option maxRecDepth 10000
attribute [local go_sem ↓] Go.wp_at_zero Go.wp_at_succ

theorem one_two (k : Nat) : 2 * (2 : Int) ^ k + one false = 2 ^ (k + 1) := by unfold one; rw [Int.pow_succ]; simp; omega
theorem abs_range (A : Int) (hA : wrapW A = A) : 0 ≤ absI A ∧ absI A ≤ 170141183460469231731687303715884105728 := by
  have : -170141183460469231731687303715884105728 ≤ A ∧ A < 170141183460469231731687303715884105728 := by rw [← hA]; unfold wrapW; omega
  unfold absI; split <;> omega
theorem hi_sign (A : Int) (hA : wrapW A = A) : (hiOf A < 0) = (A < 0) := by
  have : -170141183460469231731687303715884105728 ≤ A ∧ A < 170141183460469231731687303715884105728 := by rw [← hA]; unfold wrapW; omega
  unfold hiOf; apply propext; omega

set_option maxHeartbeats 4000000 in
theorem refRound (A n : Int) (hA : wrapW A = A) (h3 : 0 ≤ n) (h4 : n ≤ 127) (w : World) :
    Calls Tryz.prog 128 #[.agg #[.int .i64 (hiOf A), .int .u64 (loOf A)], .int .i64 n] w fun e w' => e = .returned (.tuple #[.agg #[.int .i64 (hiOf (rdiv A (2 ^ n.toNat))), .int .u64 (loOf (rdiv A (2 ^ n.toNat)))], .int .i64 0]) ∧ Grown w w' := by
  have hn0 : decide (n < 0) = false := by simp; omega
  have hn1 : decide (127 < n) = false := by simp; omega
  have hK := pow2_pos n.toNat
  have hK' := pow127 n h3 h4
  have hab := abs_range A hA
  have RD := hide (fun w => refRounded_loop (absI A) (2 ^ n.toNat) hab ⟨hK, hK'⟩ w)
  have HS := hide (sg_near A (2 ^ n.toNat) (decide (A < 0)) hK rfl)
  have HI := hide (hi_sign A hA)
  have HA := hide hA
  clear hK hK' hab hA
  go_enter Tryz.func128, Tryz.ntmps128
  go_wp2
  go_loopw [7] (fun i wr => ∃ k : Nat, (k : Int) ≤ n ∧ i = .int .i64 (k : Int) ∧ (wr.cell? ⟨w.heap.size, 0, none⟩ = some (.int .i64 (hiOf (A))) ∧ wr.cell? ⟨w.heap.size, 1, none⟩ = some (.int .u64 (loOf (A)))) ∧ (wr.cell? ⟨w.heap.size + 1, 0, none⟩ = some (.int .i64 0) ∧ wr.cell? ⟨w.heap.size + 1, 1, none⟩ = some (.int .u64 0)) ∧ (wr.cell? ⟨w.heap.size + 1 + 1, 0, none⟩ = some (.int .i64 (hiOf (2 ^ k))) ∧ wr.cell? ⟨w.heap.size + 1 + 1, 1, none⟩ = some (.int .u64 (loOf (2 ^ k)))) ∧ Grown w wr) (fun i _ => (n - intOf i).toNat)
  case atStart => exact ⟨0, by omega, rfl, ⟨by simp [go_sem], by simp [go_sem]⟩, ⟨by simp [go_sem], by simp [go_sem]⟩, ⟨by rw [show hiOf (2 ^ 0) = 0 from by decide]; simp [go_sem], by rw [show loOf (2 ^ 0) = 1 from by decide]; simp [go_sem]⟩, (((Grown.refl _).alloc _ _).alloc _ _).alloc _ _⟩
  case round =>
    obtain ⟨k, hk, rfl, ⟨a0, a1⟩, ⟨z0, z1⟩, ⟨d0, d1⟩, gr⟩ := hrel
    by_cases hlt : (k : Int) < n
    · have HT := hide (one_two k)
      go_wp2_with fail
      refine (refTwice _ _ _).mono ?_
      rintro e w1 ⟨rfl, hg1⟩
      obtain ⟨a10, a11⟩ := gat2 hg1 _ _ _ ⟨a0, a1⟩
      obtain ⟨z10, z11⟩ := gat2 hg1 _ _ _ ⟨z0, z1⟩
      obtain ⟨d10, d11⟩ := gat2 hg1 _ _ _ ⟨d0, d1⟩
      have k1 : Grown w w1 := gtrans gr hg1
      have f1 := fun o => frz k1 (w.heap.size + 1 + 1) o (by omega)
      clear hg1 a0 a1 z0 z1 d0 d1 gr
      go_wp2
      go_roundw
      case rel =>
        refine ⟨k + 1, by omega, by go_num, ⟨by simp [go_sem, *], by simp [go_sem, *]⟩, ⟨by simp [go_sem, *], by simp [go_sem, *]⟩, ?_, Grown.setCell (Grown.setCell k1 (by dsimp only; omega) _) (by dsimp only; omega) _⟩
        rw [← unhide HT]; constructor <;> simp [go_sem, *]
      case measure => simp [intOf]; omega
    · obtain rfl : n = (k : Int) := by omega
      rw [Int.toNat_natCast] at RD HS
      obtain ⟨D, hD⟩ : ∃ D, (2 : Int) ^ k = D := ⟨_, rfl⟩
      have HD := hide hD
      rw [hD] at d0 d1 RD HS
      clear hD
      obtain ⟨V, hV⟩ : ∃ V, nearQ (absI A / D) (absI A % D) (D - absI A % D) = V := ⟨_, rfl⟩
      rw [hV] at RD HS
      have HW := hide (show absI (wrapW A) = absI A from by rw [unhide HA])
      rw [← unhide HW] at RD
      clear hV
      go_upto_region 8 with fail
      go_cut [8] (fun s8 wx => ∃ g, s8 = .pointer (some ⟨g, 0, none⟩) ∧ (wx.cell? ⟨g, 0, none⟩ = some (.int .i64 (hiOf (V))) ∧ wx.cell? ⟨g, 1, none⟩ = some (.int .u64 (loOf (V)))) ∧ (wx.cell? ⟨w.heap.size, 0, none⟩ = some (.int .i64 (hiOf (A))) ∧ wx.cell? ⟨w.heap.size, 1, none⟩ = some (.int .u64 (loOf (A)))) ∧ (wx.cell? ⟨w.heap.size + 1, 0, none⟩ = some (.int .i64 0) ∧ wx.cell? ⟨w.heap.size + 1, 1, none⟩ = some (.int .u64 0)) ∧ Grown w wx)
      case first =>
        have lwr := heap_gt d0; have nwr0 : w.heap.size < wr.heap.size := (by omega); have mwr0 : wr.heap.size ≠ w.heap.size := (by omega); have pwr0 : w.heap.size ≠ wr.heap.size := (by omega); have nwr1 : w.heap.size + 1 < wr.heap.size := (by omega); have mwr1 : wr.heap.size ≠ w.heap.size + 1 := (by omega); have pwr1 : w.heap.size + 1 ≠ wr.heap.size := (by omega); have nwr2 : w.heap.size + 1 + 1 < wr.heap.size := (by omega); have mwr2 : wr.heap.size ≠ w.heap.size + 1 + 1 := (by omega); have pwr2 : w.heap.size + 1 + 1 ≠ wr.heap.size := (by omega)
        go_region_held3 (fun w' => (w'.cell? ⟨w.heap.size, 0, none⟩ = some (.int .i64 (hiOf (A))) ∧ w'.cell? ⟨w.heap.size, 1, none⟩ = some (.int .u64 (loOf (A)))) ∧ (w'.cell? ⟨w.heap.size + 1 + 1, 0, none⟩ = some (.int .i64 (hiOf (D))) ∧ w'.cell? ⟨w.heap.size + 1 + 1, 1, none⟩ = some (.int .u64 (loOf (D)))))
          (simp [go_sem, *])
          (first
            | (go_at_call 130; refine (refWhole _ _).mono ?_; rintro e wm ⟨rfl, hwm⟩; have gwm : Grown w wm := gtrans (by first | exact Grown.drew gr | exact Grown.drew (Grown.alloc gr _ _)) hwm; obtain ⟨awm0, awm1⟩ := gat2 hwm (w.heap.size) (.int .i64 (hiOf (A))) (.int .u64 (loOf (A))) (by constructor <;> simp [go_sem, *]); obtain ⟨zwm0, zwm1⟩ := gat2 hwm (w.heap.size + 1) (.int .i64 0) (.int .u64 0) (by constructor <;> simp [go_sem, *]); obtain ⟨dwm0, dwm1⟩ := gat2 hwm (w.heap.size + 1 + 1) (.int .i64 (hiOf (D))) (.int .u64 (loOf (D))) (by constructor <;> simp [go_sem, *]); have lwm := heap_gt dwm0; have nwm0 : w.heap.size < wm.heap.size := (by omega); have mwm0 : wm.heap.size ≠ w.heap.size := (by omega); have pwm0 : w.heap.size ≠ wm.heap.size := (by omega); have nwm1 : w.heap.size + 1 < wm.heap.size := (by omega); have mwm1 : wm.heap.size ≠ w.heap.size + 1 := (by omega); have pwm1 : w.heap.size + 1 ≠ wm.heap.size := (by omega); have nwm2 : w.heap.size + 1 + 1 < wm.heap.size := (by omega); have mwm2 : wm.heap.size ≠ w.heap.size + 1 + 1 := (by omega); have pwm2 : w.heap.size + 1 + 1 ≠ wm.heap.size := (by omega); (try (refine with_gat2 hwm wr.heap.size (.int .i64 0) (.int .u64 0) ?_ ?_ ?_; (focus (first | assumption | (simp [go_sem]; done))); (focus (first | assumption | (simp [go_sem]; done))); intro ywm00 ywm01)))
            | (go_at_call 129; refine (unhide RD _).mono ?_; rintro e wa ⟨rfl, hwa⟩; have gwa : Grown w wa := gtrans (by first | exact gwm | exact Grown.alloc gwm _ _) hwa; obtain ⟨awa0, awa1⟩ := gat2 hwa (w.heap.size) (.int .i64 (hiOf (A))) (.int .u64 (loOf (A))) (by constructor <;> simp [go_sem, *]); obtain ⟨zwa0, zwa1⟩ := gat2 hwa (w.heap.size + 1) (.int .i64 0) (.int .u64 0) (by constructor <;> simp [go_sem, *]); obtain ⟨dwa0, dwa1⟩ := gat2 hwa (w.heap.size + 1 + 1) (.int .i64 (hiOf (D))) (.int .u64 (loOf (D))) (by constructor <;> simp [go_sem, *]); have lwa := heap_gt dwa0; have nwa0 : w.heap.size < wa.heap.size := (by omega); have mwa0 : wa.heap.size ≠ w.heap.size := (by omega); have pwa0 : w.heap.size ≠ wa.heap.size := (by omega); have nwa1 : w.heap.size + 1 < wa.heap.size := (by omega); have mwa1 : wa.heap.size ≠ w.heap.size + 1 := (by omega); have pwa1 : w.heap.size + 1 ≠ wa.heap.size := (by omega); have nwa2 : w.heap.size + 1 + 1 < wa.heap.size := (by omega); have mwa2 : wa.heap.size ≠ w.heap.size + 1 + 1 := (by omega); have pwa2 : w.heap.size + 1 + 1 ≠ wa.heap.size := (by omega); have zz0 := fun o => frz gwa wr.heap.size o gr.2.2; have zz1 := fun o => frz gwa wm.heap.size o gwm.2.2; (try (refine with_gat2 hwa wr.heap.size (.int .i64 0) (.int .u64 0) ?_ ?_ ?_; (focus (first | assumption | (simp [go_sem]; done))); (focus (first | assumption | (simp [go_sem]; done))); intro ywa00 ywa01)); (try (refine with_gat2 hwa wm.heap.size (.int .i64 0) (.int .u64 0) ?_ ?_ ?_; (focus (first | assumption | (simp [go_sem]; done))); (focus (first | assumption | (simp [go_sem]; done))); intro ywa10 ywa11))))
        all_goals go_wp2_with fail
        all_goals go_meet
        all_goals refine ⟨_, rfl, ⟨?_, ?_⟩, ⟨?_, ?_⟩, ⟨?_, ?_⟩, ?_⟩
        all_goals first | (simp [go_sem, *]; done) | exact Grown.alloc gwa _ _ | exact Grown.setCell (Grown.setCell gwa gr.2.2 _) gr.2.2 _ | exact Grown.setCell (Grown.setCell gwa gwm.2.2 _) gwm.2.2 _
      case rest =>
      obtain ⟨g, rfl, ⟨g20, g21⟩, ⟨a20, a21⟩, ⟨z20, z21⟩, k2⟩ := hcut
      clear a0 a1 d0 d1 z0 z1 gr
      by_cases hs : hiOf A < 0
      · have hs' : A < 0 := by rw [← unhide HI]; exact hs
        rw [show sg (decide (A < 0)) V = -V from by unfold sg; simp [hs']] at HS
        go_wp2_with fail
        refine (refNegV _ _).mono ?_
        rintro e w3 ⟨rfl, hg3⟩
        obtain ⟨z30, z31⟩ := gat2 hg3 _ _ _ ⟨z20, z21⟩
        have k3 : Grown w w3 := gtrans k2 hg3
        have f5 := fun o => frz k3 (w.heap.size + 1) o (by omega)
        clear z20 z21
        go_wp2
        simp [bodyPost, results, Tryz.results128, go_sem, *]
        rw [unhide HD, ← unhide HS]
        exact ⟨⟨rfl, rfl⟩, Grown.setCell (Grown.setCell k3 (by dsimp only; omega) _) (by dsimp only; omega) _⟩
      · have hs' : ¬ A < 0 := by rw [← unhide HI]; omega
        rw [show sg (decide (A < 0)) V = V from by unfold sg; simp [hs']] at HS
        have z30 := z20; have z31 := z21; have k3 := k2
        have f5 := fun o => frz k3 (w.heap.size + 1) o (by omega)
        clear z20 z21
        go_wp2
        simp [bodyPost, results, Tryz.results128, go_sem, *]
        rw [unhide HD, ← unhide HS]
        exact ⟨⟨rfl, rfl⟩, Grown.setCell (Grown.setCell k3 (by dsimp only; omega) _) (by dsimp only; omega) _⟩

set_option maxHeartbeats 400000 in
theorem refRound_bad (ah al n : Int) (h : n < 0 ∨ 127 < n) (w : World) :
    Calls Tryz.prog 128 #[.agg #[.int .i64 ah, .int .u64 al], .int .i64 n] w fun e w' => e = .returned (.tuple #[.agg #[.int .i64 0, .int .u64 0], .int .i64 2]) ∧ Grown w w' := by
  rcases h with h | h
  · go_enter Tryz.func128, Tryz.ntmps128
    go_wp2
    simp [bodyPost, results, Tryz.results128, go_sem]
    exact ((Grown.refl _).alloc _ _).alloc _ _
  · have h' : ¬ n < 0 := by omega
    go_enter Tryz.func128, Tryz.ntmps128
    go_wp2
    simp [bodyPost, results, Tryz.results128, go_sem]
    exact ((Grown.refl _).alloc _ _).alloc _ _

end Go.Proofs.YtopaakjildmjcaaGreat

/- The document's quotient and Div, walked. -/
namespace Go.Proofs.YtopaakjildmjcaaGreat
open Go.RowKit Go.Proofs.Wd
set_option linter.unusedVariables false
set_option linter.unusedSimpArgs false
set_option maxRecDepth 10000
attribute [local go_sem ↓] Go.wp_at_zero Go.wp_at_succ

set_option maxHeartbeats 4000000 in
theorem refQuotient (A D : Int) (hA : wrapW A = A) (hD : wrapW D = D) (h0 : D ≠ 0) (w : World) :
    Calls Tryz.prog 108 #[.agg #[.int .i64 (hiOf A), .int .u64 (loOf A)], .agg #[.int .i64 (hiOf D), .int .u64 (loOf D)]] w fun e w' => e = .returned (.agg #[.int .i64 (hiOf (rdiv A D)), .int .u64 (loOf (rdiv A D))]) ∧ Grown w w' := by
  have hd0 : 0 < absI D := by unfold absI; split <;> omega
  have RD := hide (fun w => refRounded_loop (absI A) (absI D) (abs_range A hA) ⟨hd0, (abs_range D hD).2⟩ w)
  have HS := hide (sg_near2 A D h0)
  obtain ⟨V, hV⟩ : ∃ V, nearQ (absI A / absI D) (absI A % absI D) (absI D - absI A % absI D) = V := ⟨_, rfl⟩
  rw [hV] at RD HS
  rw [← show absI (wrapW A) = absI A from by rw [hA], ← show absI (wrapW D) = absI D from by rw [hD]] at RD
  have hap : apartS A D = apartS (hiOf A) (hiOf D) := by unfold apartS; rw [decide_eq_decide.2 (Iff.of_eq (hi_sign A hA)), decide_eq_decide.2 (Iff.of_eq (hi_sign D hD))]
  rw [hap] at HS
  clear hV hd0 hap hA hD h0
  go_enter Tryz.func108, Tryz.ntmps108
  go_upto_region 1 with fail
  go_cut [5] (fun s5 wx => ∃ g, s5 = .pointer (some ⟨g, 0, none⟩) ∧ (wx.cell? ⟨g, 0, none⟩ = some (.int .i64 (hiOf (V))) ∧ wx.cell? ⟨g, 1, none⟩ = some (.int .u64 (loOf (V)))) ∧ (wx.cell? ⟨w.heap.size, 0, none⟩ = some (.int .i64 (hiOf (A))) ∧ wx.cell? ⟨w.heap.size, 1, none⟩ = some (.int .u64 (loOf (A)))) ∧ (wx.cell? ⟨w.heap.size + 1, 0, none⟩ = some (.int .i64 (hiOf (D))) ∧ wx.cell? ⟨w.heap.size + 1, 1, none⟩ = some (.int .u64 (loOf (D)))) ∧ (wx.cell? ⟨w.heap.size + 1 + 1, 0, none⟩ = some (.int .i64 0) ∧ wx.cell? ⟨w.heap.size + 1 + 1, 1, none⟩ = some (.int .u64 0)) ∧ Grown w wx)
  case first =>
    go_region_held3 (fun w' => (w'.cell? ⟨w.heap.size, 0, none⟩ = some (.int .i64 (hiOf (A))) ∧ w'.cell? ⟨w.heap.size, 1, none⟩ = some (.int .u64 (loOf (A)))) ∧ (w'.cell? ⟨w.heap.size + 1, 0, none⟩ = some (.int .i64 (hiOf (D))) ∧ w'.cell? ⟨w.heap.size + 1, 1, none⟩ = some (.int .u64 (loOf (D)))))
      (simp [go_sem, *])
      (first
        | (go_at_call_of 130 (hiOf A); refine (refWhole A _).mono ?_; rintro e wm ⟨rfl, hwm⟩; have gwm : Grown w wm := gtrans (by first | exact Grown.drew ((((Grown.refl _).alloc _ _).alloc _ _).alloc _ _) | exact Grown.drew (Grown.alloc ((((Grown.refl _).alloc _ _).alloc _ _).alloc _ _) _ _)) hwm; obtain ⟨awm0, awm1⟩ := gat2 hwm (w.heap.size) (.int .i64 (hiOf (A))) (.int .u64 (loOf (A))) (by constructor <;> simp [go_sem, *]); obtain ⟨dwm0, dwm1⟩ := gat2 hwm (w.heap.size + 1) (.int .i64 (hiOf (D))) (.int .u64 (loOf (D))) (by constructor <;> simp [go_sem, *]); obtain ⟨zwm0, zwm1⟩ := gat2 hwm (w.heap.size + 1 + 1) (.int .i64 0) (.int .u64 0) (by constructor <;> simp [go_sem, *]); have lwm := heap_gt zwm0; have nwm0 : w.heap.size < wm.heap.size := (by omega); have mwm0 : wm.heap.size ≠ w.heap.size := (by omega); have pwm0 : w.heap.size ≠ wm.heap.size := (by omega); have nwm1 : w.heap.size + 1 < wm.heap.size := (by omega); have mwm1 : wm.heap.size ≠ w.heap.size + 1 := (by omega); have pwm1 : w.heap.size + 1 ≠ wm.heap.size := (by omega); have nwm2 : w.heap.size + 1 + 1 < wm.heap.size := (by omega); have mwm2 : wm.heap.size ≠ w.heap.size + 1 + 1 := (by omega); have pwm2 : w.heap.size + 1 + 1 ≠ wm.heap.size := (by omega); (try (refine with_gat2 hwm (w.heap.size + 1 + 1 + 1) (.int .i64 0) (.int .u64 0) ?_ ?_ ?_; (focus (first | assumption | (simp [go_sem]; done))); (focus (first | assumption | (simp [go_sem]; done))); intro ywms0 ywms1)))
        | (go_at_call_of 130 (hiOf D); refine (refWhole D _).mono ?_; rintro e wn ⟨rfl, hwn⟩; have gwn : Grown w wn := gtrans (by first | exact gwm | exact Grown.alloc gwm _ _) hwn; obtain ⟨awn0, awn1⟩ := gat2 hwn (w.heap.size) (.int .i64 (hiOf (A))) (.int .u64 (loOf (A))) (by constructor <;> simp [go_sem, *]); obtain ⟨dwn0, dwn1⟩ := gat2 hwn (w.heap.size + 1) (.int .i64 (hiOf (D))) (.int .u64 (loOf (D))) (by constructor <;> simp [go_sem, *]); obtain ⟨zwn0, zwn1⟩ := gat2 hwn (w.heap.size + 1 + 1) (.int .i64 0) (.int .u64 0) (by constructor <;> simp [go_sem, *]); have lwn := heap_gt zwn0; have nwn0 : w.heap.size < wn.heap.size := (by omega); have mwn0 : wn.heap.size ≠ w.heap.size := (by omega); have pwn0 : w.heap.size ≠ wn.heap.size := (by omega); have nwn1 : w.heap.size + 1 < wn.heap.size := (by omega); have mwn1 : wn.heap.size ≠ w.heap.size + 1 := (by omega); have pwn1 : w.heap.size + 1 ≠ wn.heap.size := (by omega); have nwn2 : w.heap.size + 1 + 1 < wn.heap.size := (by omega); have mwn2 : wn.heap.size ≠ w.heap.size + 1 + 1 := (by omega); have pwn2 : w.heap.size + 1 + 1 ≠ wn.heap.size := (by omega); (try (refine with_gat2 hwn (w.heap.size + 1 + 1 + 1) (.int .i64 0) (.int .u64 0) ?_ ?_ ?_; (focus (first | assumption | (simp [go_sem]; done))); (focus (first | assumption | (simp [go_sem]; done))); intro ywns0 ywns1)); (try (refine with_gat2 hwn wm.heap.size (.int .i64 0) (.int .u64 0) ?_ ?_ ?_; (focus (first | assumption | (simp [go_sem]; done))); (focus (first | assumption | (simp [go_sem]; done))); intro ywn00 ywn01)))
        | (go_at_call 129; refine (unhide RD _).mono ?_; rintro e wa ⟨rfl, hwa⟩; have gwa : Grown w wa := gtrans (by first | exact gwn | exact Grown.alloc gwn _ _) hwa; obtain ⟨awa0, awa1⟩ := gat2 hwa (w.heap.size) (.int .i64 (hiOf (A))) (.int .u64 (loOf (A))) (by constructor <;> simp [go_sem, *]); obtain ⟨dwa0, dwa1⟩ := gat2 hwa (w.heap.size + 1) (.int .i64 (hiOf (D))) (.int .u64 (loOf (D))) (by constructor <;> simp [go_sem, *]); obtain ⟨zwa0, zwa1⟩ := gat2 hwa (w.heap.size + 1 + 1) (.int .i64 0) (.int .u64 0) (by constructor <;> simp [go_sem, *]); have lwa := heap_gt zwa0; have nwa0 : w.heap.size < wa.heap.size := (by omega); have mwa0 : wa.heap.size ≠ w.heap.size := (by omega); have pwa0 : w.heap.size ≠ wa.heap.size := (by omega); have nwa1 : w.heap.size + 1 < wa.heap.size := (by omega); have mwa1 : wa.heap.size ≠ w.heap.size + 1 := (by omega); have pwa1 : w.heap.size + 1 ≠ wa.heap.size := (by omega); have nwa2 : w.heap.size + 1 + 1 < wa.heap.size := (by omega); have mwa2 : wa.heap.size ≠ w.heap.size + 1 + 1 := (by omega); have pwa2 : w.heap.size + 1 + 1 ≠ wa.heap.size := (by omega); (try (refine with_gat2 hwa (w.heap.size + 1 + 1 + 1) (.int .i64 0) (.int .u64 0) ?_ ?_ ?_; (focus (first | assumption | (simp [go_sem]; done))); (focus (first | assumption | (simp [go_sem]; done))); intro ywas0 ywas1)); (try (refine with_gat2 hwa wm.heap.size (.int .i64 0) (.int .u64 0) ?_ ?_ ?_; (focus (first | assumption | (simp [go_sem]; done))); (focus (first | assumption | (simp [go_sem]; done))); intro ywa00 ywa01)); (try (refine with_gat2 hwa wn.heap.size (.int .i64 0) (.int .u64 0) ?_ ?_ ?_; (focus (first | assumption | (simp [go_sem]; done))); (focus (first | assumption | (simp [go_sem]; done))); intro ywa10 ywa11)); have zs := fun o => frz gwa (w.heap.size + 1 + 1 + 1) o (by omega); have zz0 := fun o => frz gwa wm.heap.size o gwm.2.2; have zz1 := fun o => frz gwa wn.heap.size o gwn.2.2))
    all_goals go_wp2_with fail
    all_goals go_meet
    all_goals refine ⟨_, rfl, ⟨?_, ?_⟩, ⟨?_, ?_⟩, ⟨?_, ?_⟩, ⟨?_, ?_⟩, ?_⟩
    all_goals first | (simp [go_sem, *]; done) | exact Grown.alloc gwa _ _ | exact Grown.setCell (Grown.setCell gwa (by dsimp only; omega) _) (by dsimp only; omega) _ | exact Grown.setCell (Grown.setCell gwa gwm.2.2 _) gwm.2.2 _ | exact Grown.setCell (Grown.setCell gwa gwn.2.2 _) gwn.2.2 _
  case rest =>
  obtain ⟨g, rfl, ⟨g20, g21⟩, ⟨a20, a21⟩, ⟨d20, d21⟩, ⟨z20, z21⟩, k2⟩ := hcut
  by_cases s1 : hiOf A < 0 <;> by_cases s2 : hiOf D < 0
  · have t1 : decide (hiOf A < 0) = true := by simpa using s1
    have t2 : decide (hiOf D < 0) = true := by simpa using s2
    rw [show sg (apartS (hiOf A) (hiOf D)) V = V from by unfold sg apartS; rw [t1, t2]; simp] at HS
    have z30 := z20; have z31 := z21; have k3 := k2
    have f5 := fun o => frz k3 (w.heap.size + 1 + 1) o (by omega)
    clear z20 z21
    go_wp2
    simp [bodyPost, results, Tryz.results108, go_sem, *]
    rw [← unhide HS]
    exact ⟨⟨rfl, rfl⟩, Grown.setCell (Grown.setCell k3 (by dsimp only; omega) _) (by dsimp only; omega) _⟩
  · have t1 : decide (hiOf A < 0) = true := by simpa using s1
    have t2 : decide (hiOf D < 0) = false := by simpa using s2
    rw [show sg (apartS (hiOf A) (hiOf D)) V = -V from by unfold sg apartS; rw [t1, t2]; simp] at HS
    go_wp2_with fail
    refine (refNegV _ _).mono ?_
    rintro e w3 ⟨rfl, hg3⟩
    obtain ⟨z30, z31⟩ := gat2 hg3 _ _ _ ⟨z20, z21⟩
    have k3 : Grown w w3 := gtrans k2 hg3
    have f5 := fun o => frz k3 (w.heap.size + 1 + 1) o (by omega)
    clear z20 z21
    go_wp2
    simp [bodyPost, results, Tryz.results108, go_sem, *]
    rw [← unhide HS]
    exact ⟨⟨rfl, rfl⟩, Grown.setCell (Grown.setCell k3 (by dsimp only; omega) _) (by dsimp only; omega) _⟩
  · have t1 : decide (hiOf A < 0) = false := by simpa using s1
    have t2 : decide (hiOf D < 0) = true := by simpa using s2
    rw [show sg (apartS (hiOf A) (hiOf D)) V = -V from by unfold sg apartS; rw [t1, t2]; simp] at HS
    go_wp2_with fail
    refine (refNegV _ _).mono ?_
    rintro e w3 ⟨rfl, hg3⟩
    obtain ⟨z30, z31⟩ := gat2 hg3 _ _ _ ⟨z20, z21⟩
    have k3 : Grown w w3 := gtrans k2 hg3
    have f5 := fun o => frz k3 (w.heap.size + 1 + 1) o (by omega)
    clear z20 z21
    go_wp2
    simp [bodyPost, results, Tryz.results108, go_sem, *]
    rw [← unhide HS]
    exact ⟨⟨rfl, rfl⟩, Grown.setCell (Grown.setCell k3 (by dsimp only; omega) _) (by dsimp only; omega) _⟩
  · have t1 : decide (hiOf A < 0) = false := by simpa using s1
    have t2 : decide (hiOf D < 0) = false := by simpa using s2
    rw [show sg (apartS (hiOf A) (hiOf D)) V = V from by unfold sg apartS; rw [t1, t2]; simp] at HS
    have z30 := z20; have z31 := z21; have k3 := k2
    have f5 := fun o => frz k3 (w.heap.size + 1 + 1) o (by omega)
    clear z20 z21
    go_wp2
    simp [bodyPost, results, Tryz.results108, go_sem, *]
    rw [← unhide HS]
    exact ⟨⟨rfl, rfl⟩, Grown.setCell (Grown.setCell k3 (by dsimp only; omega) _) (by dsimp only; omega) _⟩

set_option maxHeartbeats 2000000 in
theorem refDiv (A d : Int) (hA : wrapW A = A) (h3 : I64 d) (hd : d ≠ 0) (w : World) :
    Calls Tryz.prog 86 #[.agg #[.int .i64 (hiOf A), .int .u64 (loOf A)], .int .i64 d] w fun e w' => e = .returned (.tuple #[.agg #[.int .i64 (hiOf (rdiv A d)), .int .u64 (loOf (rdiv A d))], .int .i64 0]) ∧ Grown w w' := by
  have QU := hide (fun w => refQuotient A d hA (wrapW_in d (by unfold I64 at h3; omega)) hd w)
  have hd' : (d == 0) = false := by simpa using hd
  clear hA
  go_enter Tryz.func86, Tryz.ntmps86
  go_wp2
  go_region_held3 (fun w' => (w'.cell? ⟨w.heap.size, 0, none⟩ = some (.int .i64 (hiOf (A))) ∧ w'.cell? ⟨w.heap.size, 1, none⟩ = some (.int .u64 (loOf (A)))))
    (simp [go_sem, *])
    (first
      | (go_at_call 109; refine (refOf d h3 _).mono ?_; rintro e w1 ⟨rfl, hg1⟩; obtain ⟨a10, a11⟩ := gat2 hg1 w.heap.size (.int .i64 (hiOf A)) (.int .u64 (loOf A)) (by constructor <;> simp [go_sem, *]); obtain ⟨z10, z11⟩ := gat2 hg1 (w.heap.size + 1) (.int .i64 0) (.int .u64 0) (by constructor <;> simp [go_sem, *]); have k1 : Grown w w1 := gtrans (by exact Grown.drew (((Grown.refl _).alloc _ _).alloc _ _)) hg1)
      | (go_at_call 108; refine (unhide QU _).mono ?_; rintro e w2 ⟨rfl, hg2⟩; obtain ⟨a20, a21⟩ := gat2 hg2 w.heap.size (.int .i64 (hiOf A)) (.int .u64 (loOf A)) (by constructor <;> simp [go_sem, *]); obtain ⟨z20, z21⟩ := gat2 hg2 (w.heap.size + 1) (.int .i64 0) (.int .u64 0) (by constructor <;> simp [go_sem, *]); have k2 : Grown w w2 := gtrans k1 hg2; have f2 := fun o => frz k2 (w.heap.size + 1) o (by omega)))
  go_wp2
  simp [bodyPost, results, Tryz.results86, go_sem, *]
  exact Grown.setCell (Grown.setCell k2 (by dsimp only; omega) _) (by dsimp only; omega) _

set_option maxHeartbeats 400000 in
theorem refDiv_bad (ah al : Int) (w : World) :
    Calls Tryz.prog 86 #[.agg #[.int .i64 ah, .int .u64 al], .int .i64 0] w fun e w' => e = .returned (.tuple #[.agg #[.int .i64 0, .int .u64 0], .int .i64 2]) ∧ Grown w w' := by
  go_enter Tryz.func86, Tryz.ntmps86
  go_wp2
  simp [bodyPost, results, Tryz.results86, go_sem]
  exact ((Grown.refl _).alloc _ _).alloc _ _

end Go.Proofs.YtopaakjildmjcaaGreat

/- The document's product, by bits, is the product: the loop of its Mul walked. -/
namespace Go.Proofs.YtopaakjildmjcaaGreat
open Go.RowKit Go.Proofs.Wd
set_option linter.unusedVariables false
set_option linter.unusedSimpArgs false
set_option maxRecDepth 10000

/-- What the product has come to when the bits from k on are done. -/
def mulTo (a b : Int) (k : Nat) : Int := if 64 ≤ k then 0 else a * (b / 2 ^ k)
theorem mulTo_zero (a b : Int) : mulTo a b 0 = a * b := by unfold mulTo; simp
theorem half_pow (b : Int) (k : Nat) : b / 2 ^ k = 2 * (b / 2 ^ (k + 1)) + b / 2 ^ k % 2 := by
  have e : b / 2 ^ (k + 1) = b / 2 ^ k / 2 := by rw [Int.ediv_ediv_of_nonneg (Int.le_of_lt (pow2_pos k))]; rw [Int.pow_succ]
  rw [e]; omega
theorem mulTo_top_yes (a b : Int) (h : I64 b) (hb : b / 2 ^ 63 % 2 = 1) : mulTo a b 63 = -a := by
  unfold mulTo; rw [if_neg (by omega)]
  unfold I64 at h
  rw [show b / 2 ^ 63 = -1 from by omega]; omega
theorem mulTo_top_no (a b : Int) (h : I64 b) (hb : ¬ b / 2 ^ 63 % 2 = 1) : mulTo a b 63 = 0 := by
  unfold mulTo; rw [if_neg (by omega)]
  unfold I64 at h
  rw [show b / 2 ^ 63 = 0 from by omega]; omega
theorem mulTo_yes (a b : Int) (k : Nat) (h : k < 63) (hb : b / 2 ^ k % 2 = 1) : mulTo a b k = 2 * mulTo a b (k + 1) + one false + a := by
  unfold mulTo; rw [if_neg (by omega), if_neg (by omega)]
  have := half_pow b k
  rw [hb] at this
  rw [this]; unfold one; simp; grind
theorem mulTo_no (a b : Int) (k : Nat) (h : k < 63) (hb : ¬ b / 2 ^ k % 2 = 1) : mulTo a b k = 2 * mulTo a b (k + 1) + one false := by
  unfold mulTo; rw [if_neg (by omega), if_neg (by omega)]
  have := half_pow b k
  rw [show b / 2 ^ k % 2 = 0 from by omega] at this
  rw [this]; unfold one; simp; grind

theorem mulTo_off (a b : Int) (k : Nat) (hk : k < 64) (h : I64 b) (hb : ¬ b / 2 ^ k % 2 = 1) : mulTo a b k = 2 * mulTo a b (k + 1) + one false := by
  by_cases e : k < 63
  · exact mulTo_no a b k e hb
  · obtain rfl : k = 63 := by omega
    rw [mulTo_top_no a b h hb]; unfold mulTo one; simp

set_option maxHeartbeats 2000000 in
theorem refMul (a b : Int) (h1 : I64 a) (h2 : I64 b) (w : World) :
    Calls Tryz.prog 87 #[.int .i64 a, .int .i64 b] w fun e w' => e = .returned (.agg #[.int .i64 (hiOf (a * b)), .int .u64 (loOf (a * b))]) ∧ Grown w w' := by
  go_enter Tryz.func87, Tryz.ntmps87
  go_wp2_with fail
  refine (refOf a h1 _).mono ?_
  rintro e w1 ⟨rfl, hg1⟩
  go_wp2_with fail
  refine (refOf b h2 _).mono ?_
  rintro e w2 ⟨rfl, hg2⟩
  obtain ⟨r0, r1⟩ := gat2 (gtrans hg1 hg2) w.heap.size (.int .i64 0) (.int .u64 0) (by constructor <;> simp [go_sem])
  have hgw2 : Grown w w2 := gtrans ((Grown.refl _).alloc _ _) (gtrans hg1 hg2)
  clear hg1 hg2
  have l0 := heap_gt r0
  go_wp2
  have u0 : hiOf (mulTo a b 64) = 0 := by unfold mulTo; simp; decide
  have u1 : loOf (mulTo a b 64) = 0 := by unfold mulTo; simp; decide
  have U0 := hide u0; have U1 := hide u1
  clear u0 u1
  go_loopw [8] (fun i wr => ∃ k : Nat, k ≤ 64 ∧ i = .int .i64 ((k : Int) - 1) ∧ (wr.cell? ⟨w.heap.size, 0, none⟩ = some (.int .i64 0) ∧ wr.cell? ⟨w.heap.size, 1, none⟩ = some (.int .u64 0)) ∧ (wr.cell? ⟨w2.heap.size, 0, none⟩ = some (.int .i64 (hiOf a)) ∧ wr.cell? ⟨w2.heap.size, 1, none⟩ = some (.int .u64 (loOf a))) ∧ (wr.cell? ⟨w2.heap.size + 1, 0, none⟩ = some (.int .i64 (hiOf b)) ∧ wr.cell? ⟨w2.heap.size + 1, 1, none⟩ = some (.int .u64 (loOf b))) ∧ (wr.cell? ⟨w2.heap.size + 1 + 1, 0, none⟩ = some (.int .i64 (hiOf (mulTo a b k))) ∧ wr.cell? ⟨w2.heap.size + 1 + 1, 1, none⟩ = some (.int .u64 (loOf (mulTo a b k)))) ∧ Grown w wr) (fun i _ => (intOf i + 1).toNat)
  case atStart =>
    refine ⟨64, by omega, rfl, gat2 ((((Grown.refl w2).alloc _ _).alloc _ _).alloc _ _) _ _ _ ⟨r0, r1⟩, ⟨by simp [go_sem], by simp [go_sem]⟩, ⟨by simp [go_sem], by simp [go_sem]⟩, ⟨?_, ?_⟩, ((hgw2.alloc _ _).alloc _ _).alloc _ _⟩
    · rw [unhide U0]; simp [go_sem]
    · rw [unhide U1]; simp [go_sem]
  case round =>
    obtain ⟨k, hk, rfl, ⟨r0, r1⟩, ⟨x0, x1⟩, ⟨y0, y1⟩, ⟨o0, o1⟩, hgr⟩ := hrel
    have lw : w.heap.size ≤ w2.heap.size := hgw2.2.2
    have m0 : w.heap.size ≠ w2.heap.size + 1 + 1 := by omega
    have m1 : w2.heap.size + 1 + 1 ≠ w.heap.size := by omega
    by_cases hk0 : k = 0
    · subst hk0
      rw [mulTo_zero] at o0 o1
      have f0 := fun o => frz hgr w.heap.size o (by omega)
      go_wp2
      simp [bodyPost, results, Tryz.results87, go_sem, *]
      exact Grown.setCell (Grown.setCell hgr (by dsimp only; omega) _) (by dsimp only; omega) _
    · obtain ⟨j, rfl⟩ : ∃ j, k = j + 1 := ⟨k - 1, by omega⟩
      rw [show ((j + 1 : Nat) : Int) - 1 = (j : Int) from by omega]
      have BT := hide (fun w => refBit b j (by omega) (by omega) w)
      rw [Int.toNat_natCast] at BT
      clear hk0 U0 U1
      by_cases hb : b / 2 ^ j % 2 = 1
      · rw [show decide (b / 2 ^ j % 2 = 1) = true from by simpa using hb] at BT
        by_cases h63 : j = 63
        · have HV := hide (mulTo_top_yes a b h2 (by rw [← h63]; exact hb))
          subst h63
          clear hb
          go_wp2_with fail
          refine (refTwice _ false _).mono ?_
          rintro e w3 ⟨rfl, hg3⟩
          obtain ⟨r30, r31⟩ := gat2 hg3 (w.heap.size) (.int .i64 0) (.int .u64 0) (by constructor <;> simp [go_sem, *])
          obtain ⟨x30, x31⟩ := gat2 hg3 (w2.heap.size) (.int .i64 (hiOf a)) (.int .u64 (loOf a)) (by constructor <;> simp [go_sem, *])
          obtain ⟨y30, y31⟩ := gat2 hg3 (w2.heap.size + 1) (.int .i64 (hiOf b)) (.int .u64 (loOf b)) (by constructor <;> simp [go_sem, *])
          obtain ⟨o30, o31⟩ := gat2 hg3 (w2.heap.size + 1 + 1) _ _ ⟨o0, o1⟩
          have hgw3 : Grown w w3 := gtrans hgr hg3
          have f3 := fun o => frz hgw3 (w2.heap.size + 1 + 1) o (by have := hgw2.2.2; omega)
          clear hg3 r0 r1 x0 x1 y0 y1 o0 o1 hgr
          go_wp2_with fail
          refine (unhide BT _).mono ?_
          rintro e w4 ⟨rfl, hg4⟩
          obtain ⟨r40, r41⟩ := gat2 hg4 (w.heap.size) (.int .i64 0) (.int .u64 0) (by constructor <;> simp [go_sem, *])
          obtain ⟨x40, x41⟩ := gat2 hg4 (w2.heap.size) (.int .i64 (hiOf a)) (.int .u64 (loOf a)) (by constructor <;> simp [go_sem, *])
          obtain ⟨y40, y41⟩ := gat2 hg4 (w2.heap.size + 1) (.int .i64 (hiOf b)) (.int .u64 (loOf b)) (by constructor <;> simp [go_sem, *])
          obtain ⟨o40, o41⟩ := gat2 hg4 (w2.heap.size + 1 + 1) (.int .i64 (hiOf (2 * mulTo a b (63 + 1) + one false))) (.int .u64 (loOf (2 * mulTo a b (63 + 1) + one false))) (by constructor <;> simp [go_sem, *])
          have hgw4 : Grown w w4 := gtrans (Grown.setCell (Grown.setCell hgw3 (by dsimp only; have := hgw2.2.2; omega) _) (by dsimp only; have := hgw2.2.2; omega) _) hg4
          have f4 := fun o => frz hgw4 (w2.heap.size + 1 + 1) o (by have := hgw2.2.2; omega)
          clear hg4 r30 r31 x30 x31 y30 y31 o30 o31 hgw3 f3
          go_wp2_with fail
          refine (refNegV _ _).mono ?_
          rintro e w5 ⟨rfl, hg5⟩
          obtain ⟨r50, r51⟩ := gat2 hg5 _ _ _ ⟨r40, r41⟩
          obtain ⟨x50, x51⟩ := gat2 hg5 _ _ _ ⟨x40, x41⟩
          obtain ⟨y50, y51⟩ := gat2 hg5 _ _ _ ⟨y40, y41⟩
          obtain ⟨o50, o51⟩ := gat2 hg5 _ _ _ ⟨o40, o41⟩
          have hgw5 : Grown w w5 := gtrans hgw4 hg5
          have f5 := fun o => frz hgw5 (w2.heap.size + 1 + 1) o (by omega)
          clear hg5 r40 r41 x40 x41 y40 y41 o40 o41 hgw4 f4
          go_wp2
          go_roundw
          case rel =>
            refine ⟨63, by omega, by go_num, ⟨by simp [go_sem, *], by simp [go_sem, *]⟩, ⟨by simp [go_sem, *], by simp [go_sem, *]⟩, ⟨by simp [go_sem, *], by simp [go_sem, *]⟩, ?_, Grown.setCell (Grown.setCell hgw5 (by dsimp only; omega) _) (by dsimp only; omega) _⟩
            rw [unhide HV]; constructor <;> simp [go_sem, *]
          case measure => simp [intOf]
        · have HV := hide (mulTo_yes a b j (by omega) hb)
          have h63' : ((j : Int) == 63) = false := by rw [beq_eq_false_iff_ne]; omega
          clear hb
          go_wp2_with fail
          refine (refTwice _ false _).mono ?_
          rintro e w3 ⟨rfl, hg3⟩
          obtain ⟨r30, r31⟩ := gat2 hg3 (w.heap.size) (.int .i64 0) (.int .u64 0) (by constructor <;> simp [go_sem, *])
          obtain ⟨x30, x31⟩ := gat2 hg3 (w2.heap.size) (.int .i64 (hiOf a)) (.int .u64 (loOf a)) (by constructor <;> simp [go_sem, *])
          obtain ⟨y30, y31⟩ := gat2 hg3 (w2.heap.size + 1) (.int .i64 (hiOf b)) (.int .u64 (loOf b)) (by constructor <;> simp [go_sem, *])
          obtain ⟨o30, o31⟩ := gat2 hg3 (w2.heap.size + 1 + 1) _ _ ⟨o0, o1⟩
          have hgw3 : Grown w w3 := gtrans hgr hg3
          have f3 := fun o => frz hgw3 (w2.heap.size + 1 + 1) o (by have := hgw2.2.2; omega)
          clear hg3 r0 r1 x0 x1 y0 y1 o0 o1 hgr
          go_wp2_with fail
          refine (unhide BT _).mono ?_
          rintro e w4 ⟨rfl, hg4⟩
          obtain ⟨r40, r41⟩ := gat2 hg4 (w.heap.size) (.int .i64 0) (.int .u64 0) (by constructor <;> simp [go_sem, *])
          obtain ⟨x40, x41⟩ := gat2 hg4 (w2.heap.size) (.int .i64 (hiOf a)) (.int .u64 (loOf a)) (by constructor <;> simp [go_sem, *])
          obtain ⟨y40, y41⟩ := gat2 hg4 (w2.heap.size + 1) (.int .i64 (hiOf b)) (.int .u64 (loOf b)) (by constructor <;> simp [go_sem, *])
          obtain ⟨o40, o41⟩ := gat2 hg4 (w2.heap.size + 1 + 1) (.int .i64 (hiOf (2 * mulTo a b (j + 1) + one false))) (.int .u64 (loOf (2 * mulTo a b (j + 1) + one false))) (by constructor <;> simp [go_sem, *])
          have hgw4 : Grown w w4 := gtrans (Grown.setCell (Grown.setCell hgw3 (by dsimp only; have := hgw2.2.2; omega) _) (by dsimp only; have := hgw2.2.2; omega) _) hg4
          have f4 := fun o => frz hgw4 (w2.heap.size + 1 + 1) o (by have := hgw2.2.2; omega)
          clear hg4 r30 r31 x30 x31 y30 y31 o30 o31 hgw3 f3
          go_wp2_with fail
          refine (refAddV _ _ _).mono ?_
          rintro e w5 ⟨rfl, hg5⟩
          obtain ⟨r50, r51⟩ := gat2 hg5 _ _ _ ⟨r40, r41⟩
          obtain ⟨x50, x51⟩ := gat2 hg5 _ _ _ ⟨x40, x41⟩
          obtain ⟨y50, y51⟩ := gat2 hg5 _ _ _ ⟨y40, y41⟩
          obtain ⟨o50, o51⟩ := gat2 hg5 _ _ _ ⟨o40, o41⟩
          have hgw5 : Grown w w5 := gtrans hgw4 hg5
          have f5 := fun o => frz hgw5 (w2.heap.size + 1 + 1) o (by omega)
          clear hg5 r40 r41 x40 x41 y40 y41 o40 o41 hgw4 f4
          go_wp2
          go_roundw
          case rel =>
            refine ⟨j, by omega, by go_num, ⟨by simp [go_sem, *], by simp [go_sem, *]⟩, ⟨by simp [go_sem, *], by simp [go_sem, *]⟩, ⟨by simp [go_sem, *], by simp [go_sem, *]⟩, ?_, Grown.setCell (Grown.setCell hgw5 (by dsimp only; omega) _) (by dsimp only; omega) _⟩
            rw [unhide HV]; constructor <;> simp [go_sem, *]
          case measure => simp [intOf]
      · rw [show decide (b / 2 ^ j % 2 = 1) = false from by simpa using hb] at BT
        have HV := hide (mulTo_off a b j (by omega) h2 hb)
        clear hb
        go_wp2_with fail
        refine (refTwice _ false _).mono ?_
        rintro e w3 ⟨rfl, hg3⟩
        obtain ⟨r30, r31⟩ := gat2 hg3 (w.heap.size) (.int .i64 0) (.int .u64 0) (by constructor <;> simp [go_sem, *])
        obtain ⟨x30, x31⟩ := gat2 hg3 (w2.heap.size) (.int .i64 (hiOf a)) (.int .u64 (loOf a)) (by constructor <;> simp [go_sem, *])
        obtain ⟨y30, y31⟩ := gat2 hg3 (w2.heap.size + 1) (.int .i64 (hiOf b)) (.int .u64 (loOf b)) (by constructor <;> simp [go_sem, *])
        obtain ⟨o30, o31⟩ := gat2 hg3 (w2.heap.size + 1 + 1) _ _ ⟨o0, o1⟩
        have hgw3 : Grown w w3 := gtrans hgr hg3
        have f3 := fun o => frz hgw3 (w2.heap.size + 1 + 1) o (by have := hgw2.2.2; omega)
        clear hg3 r0 r1 x0 x1 y0 y1 o0 o1 hgr
        go_wp2_with fail
        refine (unhide BT _).mono ?_
        rintro e w4 ⟨rfl, hg4⟩
        obtain ⟨r40, r41⟩ := gat2 hg4 (w.heap.size) (.int .i64 0) (.int .u64 0) (by constructor <;> simp [go_sem, *])
        obtain ⟨x40, x41⟩ := gat2 hg4 (w2.heap.size) (.int .i64 (hiOf a)) (.int .u64 (loOf a)) (by constructor <;> simp [go_sem, *])
        obtain ⟨y40, y41⟩ := gat2 hg4 (w2.heap.size + 1) (.int .i64 (hiOf b)) (.int .u64 (loOf b)) (by constructor <;> simp [go_sem, *])
        obtain ⟨o40, o41⟩ := gat2 hg4 (w2.heap.size + 1 + 1) (.int .i64 (hiOf (2 * mulTo a b (j + 1) + one false))) (.int .u64 (loOf (2 * mulTo a b (j + 1) + one false))) (by constructor <;> simp [go_sem, *])
        have hgw4 : Grown w w4 := gtrans (Grown.setCell (Grown.setCell hgw3 (by dsimp only; have := hgw2.2.2; omega) _) (by dsimp only; have := hgw2.2.2; omega) _) hg4
        have f4 := fun o => frz hgw4 (w2.heap.size + 1 + 1) o (by have := hgw2.2.2; omega)
        clear hg4 r30 r31 x30 x31 y30 y31 o30 o31 hgw3 f3
        go_wp2
        go_roundw
        case rel =>
          refine ⟨j, by omega, by go_num, ⟨r40, r41⟩, ⟨x40, x41⟩, ⟨y40, y41⟩, ?_, hgw4⟩
          rw [unhide HV]; exact ⟨o40, o41⟩
        case measure => simp [intOf]

end Go.Proofs.YtopaakjildmjcaaGreat

/- The document's answer for fix: what taken, fits, sum, Add, Half, Sub, Neg, Mul, Whole and Div return, in whole numbers. -/
namespace Go.Proofs.YtopaakjildmjcaaGreat
open Go.RowKit Go.Proofs.Wd
set_option linter.unusedVariables false
set_option linter.unusedSimpArgs false
set_option maxRecDepth 10000
attribute [local go_sem ↓] Go.wp_at_zero Go.wp_at_succ

theorem in_wideR (v : Int) (h : -39614081257132168796771975168 ≤ v ∧ v ≤ 39614081257132168796771975168) : wrapW v = v := wrapW_in _ (by omega)

set_option maxHeartbeats 400000 in
theorem refTaken (a : Int) (h : I64 a) (w : World) :
    Calls Tryz.prog 85 #[.int .i64 a] w fun e w' => e = .returned (.tuple #[.int .i64 (tk a), .bool (nb a)]) ∧ Grown w w' := by
  by_cases hs : a = -9223372036854775808
  · rw [show tk a = -9223372036854775807 from by unfold tk; rw [if_pos hs], show nb a = true from by unfold nb; simp [hs]]
    go_enter Tryz.func85, Tryz.ntmps85
    go_wp2
    go_ret2
    exact ⟨rfl, Grown.refl _⟩
  · rw [show tk a = a from by unfold tk; rw [if_neg hs], show nb a = false from by unfold nb; simp [hs]]
    have hs' : ¬ a < -9223372036854775807 := by unfold I64 at h; omega
    clear hs
    go_enter Tryz.func85, Tryz.ntmps85
    go_wp2
    go_ret2
    exact ⟨rfl, Grown.refl _⟩

set_option maxHeartbeats 400000 in
theorem refFits (A : Int) (c : Bool) (hA : wrapW A = A) (w : World) :
    Calls Tryz.prog 88 #[.agg #[.int .i64 (hiOf A), .int .u64 (loOf A)], .bool c] w fun e w' => e = .returned (.tuple #[.int .i64 (fitI A), .bool (fitB A || c)]) ∧ Grown w w' := by
  have R := hide (fun w => refFit (hiOf A) (loOf A) (hiOf_I64 _) (loOf_U64 _) w)
  rw [val_of, hA] at R
  clear hA
  generalize fitI A = u at *
  generalize fitB A = v at *
  go_enter Tryz.func88, Tryz.ntmps88
  go_wp2_with fail
  refine (unhide R _).mono ?_
  rintro e w1 ⟨rfl, hg⟩
  have k1 : Grown w w1 := gtrans ((Grown.refl _).alloc _ _) hg
  clear hg
  cases v <;> cases c <;> (go_wp2; go_ret2; exact ⟨rfl, k1⟩)

set_option maxHeartbeats 1000000 in
theorem refSum2 (a b n V : Int) (ha : I64 a) (hb : I64 b) (h3 : 0 ≤ n) (h4 : n ≤ 127) (hV : rdiv (tk a + tk b) (2 ^ n.toNat) = V) (hW : wrapW V = V) (w : World) :
    Calls Tryz.prog 127 #[.int .i64 a, .int .i64 b, .int .i64 n] w fun e w' => e = .returned (.tuple #[.int .i64 (fitI V), .bool (cutB V a b)]) ∧ Grown w w' := by
  have T1 := hide (fun w => refTaken a ha w)
  have T2 := hide (fun w => refTaken b hb w)
  have O1 := hide (fun w => refOf (tk a) (tk_I64 a ha) w)
  have O2 := hide (fun w => refOf (tk b) (tk_I64 b hb) w)
  have A1 := hide (fun w => refAddV (tk a) (tk b) w)
  have h1 := tk_Fx a ha; have h2 := tk_Fx b hb
  have R1 := hide (fun w => refRound (tk a + tk b) n (in_wideR _ (by unfold Fx at h1 h2; omega)) h3 h4 w)
  rw [hV] at R1
  have K1 := hide (fun w => refFits V (nb a || nb b) hW w)
  rw [show cutB V a b = (fitB V || (nb a || nb b)) from by unfold cutB; rw [Bool.or_assoc]]
  clear h1 h2 ha hb h3 h4 hV hW
  generalize tk a = x at *
  generalize tk b = y at *
  generalize nb a = p at *
  generalize nb b = q at *
  generalize x + y = s at *
  obtain ⟨u, hu⟩ : ∃ u, fitI V = u := ⟨_, rfl⟩
  obtain ⟨v, hv⟩ : ∃ v, (fitB V || (p || q)) = v := ⟨_, rfl⟩
  rw [hu, hv] at K1 ⊢
  clear hu hv
  go_enter Tryz.func127, Tryz.ntmps127
  go_wp2_with fail
  refine (unhide T1 _).mono ?_
  rintro e w1 ⟨rfl, g1⟩
  go_wp2_with fail
  refine (unhide T2 _).mono ?_
  rintro e w2 ⟨rfl, hg2⟩
  have g2 := gtrans g1 hg2
  clear g1 hg2
  go_wp2_with fail
  refine (unhide O1 _).mono ?_
  rintro e w3 ⟨rfl, hg3⟩
  have g3 := gtrans g2 hg3
  clear g2 hg3
  go_wp2_with fail
  refine (unhide O2 _).mono ?_
  rintro e w4 ⟨rfl, hg4⟩
  have g4 := gtrans g3 hg4
  clear g3 hg4
  go_wp2_with fail
  refine (unhide A1 _).mono ?_
  rintro e w5 ⟨rfl, hg5⟩
  have g5 := gtrans g4 hg5
  clear g4 hg5
  go_wp2_with fail
  refine (unhide R1 _).mono ?_
  rintro e w6 ⟨rfl, hg6⟩
  have g6 := gtrans g5 hg6
  clear g5 hg6
  cases p <;> cases q <;> (go_wp2_with fail; refine (unhide K1 _).mono ?_; rintro e w7 ⟨rfl, hg7⟩; have g7 := gtrans (g6.alloc _ _) hg7; go_wp2; go_ret2; exact ⟨rfl, g7⟩)

theorem rawq_one (m : Int) : rawq m 1 = m := by
  unfold rawq; rw [Int.emod_one, Int.ediv_one, if_neg (by omega)]
theorem rdiv_one (v : Int) : rdiv v 1 = v := by
  unfold rdiv
  rw [show (((1 : Int).natAbs : Nat) : Int) = 1 from rfl, rawq_one]
  by_cases h : v < 0
  · rw [if_pos (by simp [h])]; omega
  · rw [if_neg (by simp [h])]; omega

set_option maxHeartbeats 400000 in
theorem refAdd2 (a b : Int) (ha : I64 a) (hb : I64 b) (w : World) :
    Calls Tryz.prog 106 #[.int .i64 a, .int .i64 b] w fun e w' => e = .returned (.tuple #[.int .i64 (fitI (tk a + tk b)), .bool (cutB (tk a + tk b) a b)]) ∧ Grown w w' := by
  have h1 := tk_Fx a ha; have h2 := tk_Fx b hb
  have R := hide (fun w => refSum2 a b 0 (tk a + tk b) ha hb (by omega) (by omega) (by rw [show (2 : Int) ^ (0 : Int).toNat = 1 from by decide]; exact rdiv_one _) (in_wideR _ (by unfold Fx at h1 h2; omega)) w)
  clear h1 h2 ha hb
  generalize fitI (tk a + tk b) = u at *
  generalize cutB (tk a + tk b) a b = v at *
  go_enter Tryz.func106, Tryz.ntmps106
  go_wp2_with fail
  refine (unhide R _).mono ?_
  rintro e w1 ⟨rfl, hg⟩
  go_wp2
  go_ret2
  exact ⟨rfl, hg⟩

set_option maxHeartbeats 1000000 in
theorem refMul2 (a b : Int) (ha : I64 a) (hb : I64 b) (w : World) :
    Calls Tryz.prog 107 #[.int .i64 a, .int .i64 b] w fun e w' => e = .returned (.tuple #[.int .i64 (fitI (rdiv (tk a * tk b) 4294967296)), .bool (cutB (rdiv (tk a * tk b) 4294967296) a b)]) ∧ Grown w w' := by
  have T1 := hide (fun w => refTaken a ha w)
  have T2 := hide (fun w => refTaken b hb w)
  have M1 := hide (fun w => refMul (tk a) (tk b) (tk_I64 a ha) (tk_I64 b hb) w)
  have h1 := tk_Fx a ha; have h2 := tk_Fx b hb
  have R1 := hide (fun w => refRound (tk a * tk b) 32 (wrapW_prod _ _ h1 h2) (by omega) (by omega) w)
  rw [show (2 : Int) ^ (32 : Int).toNat = 4294967296 from by decide] at R1
  have h0 := prod_range _ _ h1 h2
  have h3 := rdiv_abs (tk a * tk b) 4294967296 85070591730234615847396907784232501249 (by omega) h0
  have K1 := hide (fun w => refFits (rdiv (tk a * tk b) 4294967296) (nb a || nb b) (wrapW_in _ (by omega)) w)
  rw [show cutB (rdiv (tk a * tk b) 4294967296) a b = (fitB (rdiv (tk a * tk b) 4294967296) || (nb a || nb b)) from by unfold cutB; rw [Bool.or_assoc]]
  clear h0 h1 h2 h3 ha hb
  generalize rdiv (tk a * tk b) 4294967296 = V at *
  generalize tk a * tk b = s at *
  generalize tk a = x at *
  generalize tk b = y at *
  generalize nb a = p at *
  generalize nb b = q at *
  obtain ⟨u, hu⟩ : ∃ u, fitI V = u := ⟨_, rfl⟩
  obtain ⟨v, hv⟩ : ∃ v, (fitB V || (p || q)) = v := ⟨_, rfl⟩
  rw [hu, hv] at K1 ⊢
  clear hu hv
  go_enter Tryz.func107, Tryz.ntmps107
  go_wp2_with fail
  refine (unhide T1 _).mono ?_
  rintro e w1 ⟨rfl, g1⟩
  go_wp2_with fail
  refine (unhide T2 _).mono ?_
  rintro e w2 ⟨rfl, hg2⟩
  have g2 := gtrans g1 hg2
  clear g1 hg2
  go_wp2_with fail
  refine (unhide M1 _).mono ?_
  rintro e w5 ⟨rfl, hg5⟩
  have g5 := gtrans g2 hg5
  clear g2 hg5
  go_wp2_with fail
  refine (unhide R1 _).mono ?_
  rintro e w6 ⟨rfl, hg6⟩
  have g6 := gtrans g5 hg6
  clear g5 hg6
  cases p <;> cases q <;> (go_wp2_with fail; refine (unhide K1 _).mono ?_; rintro e w7 ⟨rfl, hg7⟩; have g7 := gtrans (g6.alloc _ _) hg7; go_wp2; go_ret2; exact ⟨rfl, g7⟩)

set_option maxHeartbeats 400000 in
theorem refWhole2 (n : Int) (hn : I64 n) (w : World) :
    Calls Tryz.prog 56 #[.int .i64 n] w fun e w' => e = .returned (.tuple #[.int .i64 (fitI (n * 4294967296)), .bool (fitB (n * 4294967296))]) ∧ Grown w w' := by
  have M := hide (fun w => refMul n 4294967296 hn (by unfold I64; omega) w)
  have K := hide (fun w => refFit (hiOf (n * 4294967296)) (loOf (n * 4294967296)) (hiOf_I64 _) (loOf_U64 _) w)
  rw [val_of, in_wideR (n * 4294967296) (by unfold I64 at hn; omega)] at K
  go_enter Tryz.func56, Tryz.ntmps56
  go_wp2_with fail
  refine (unhide M _).mono ?_
  rintro e w1 ⟨rfl, hg1⟩
  go_wp2_with fail
  refine (unhide K _).mono ?_
  rintro e w2 ⟨rfl, hg2⟩
  go_wp2
  go_ret2
  exact ⟨rfl, gtrans hg1 hg2⟩

theorem tk_zero (b : Int) : tk b = 0 ↔ b = 0 := by unfold tk; split <;> omega

set_option maxHeartbeats 1000000 in
theorem refDiv2_zero (a x V : Int) (p : Bool) (hV : (x < 0 ∧ V = -9223372036854775807) ∨ (x = 0 ∧ V = 0) ∨ (0 < x ∧ V = 9223372036854775807))
    (T1 : Hid (∀ w, Calls Tryz.prog 85 #[.int .i64 a] w fun e w' => e = .returned (.tuple #[.int .i64 x, .bool p]) ∧ Grown w w'))
    (T2 : Hid (∀ w, Calls Tryz.prog 85 #[.int .i64 0] w fun e w' => e = .returned (.tuple #[.int .i64 0, .bool false]) ∧ Grown w w')) (w : World) :
    Calls Tryz.prog 54 #[.int .i64 a, .int .i64 0] w fun e w' => e = .returned (.tuple #[.int .i64 V, .bool true]) ∧ Grown w w' := by
  rcases hV with ⟨h, rfl⟩ | ⟨rfl, rfl⟩ | ⟨h, rfl⟩
  · have h' : (x == 0) = false := by simp; omega
    go_enter Tryz.func54, Tryz.ntmps54
    go_wp2_with fail
    refine (unhide T1 _).mono ?_
    rintro e w1 ⟨rfl, g1⟩
    go_wp2_with fail
    refine (unhide T2 _).mono ?_
    rintro e w2 ⟨rfl, hg2⟩
    go_wp2
    go_ret2
    exact ⟨rfl, gtrans g1 hg2⟩
  · go_enter Tryz.func54, Tryz.ntmps54
    go_wp2_with fail
    refine (unhide T1 _).mono ?_
    rintro e w1 ⟨rfl, g1⟩
    go_wp2_with fail
    refine (unhide T2 _).mono ?_
    rintro e w2 ⟨rfl, hg2⟩
    go_wp2
    go_ret2
    exact ⟨rfl, gtrans g1 hg2⟩
  · have h' : (x == 0) = false := by simp; omega
    have h'' : ¬ x < 0 := by omega
    go_enter Tryz.func54, Tryz.ntmps54
    go_wp2_with fail
    refine (unhide T1 _).mono ?_
    rintro e w1 ⟨rfl, g1⟩
    go_wp2_with fail
    refine (unhide T2 _).mono ?_
    rintro e w2 ⟨rfl, hg2⟩
    go_wp2
    go_ret2
    exact ⟨rfl, gtrans g1 hg2⟩

set_option maxHeartbeats 1000000 in
theorem refDiv2_core (a b x y P V u : Int) (p q v : Bool) (hy : (y == 0) = false)
    (T1 : Hid (∀ w, Calls Tryz.prog 85 #[.int .i64 a] w fun e w' => e = .returned (.tuple #[.int .i64 x, .bool p]) ∧ Grown w w'))
    (T2 : Hid (∀ w, Calls Tryz.prog 85 #[.int .i64 b] w fun e w' => e = .returned (.tuple #[.int .i64 y, .bool q]) ∧ Grown w w'))
    (M1 : Hid (∀ w, Calls Tryz.prog 87 #[.int .i64 x, .int .i64 4294967296] w fun e w' => e = .returned (.agg #[.int .i64 (hiOf P), .int .u64 (loOf P)]) ∧ Grown w w'))
    (R1 : Hid (∀ w, Calls Tryz.prog 86 #[.agg #[.int .i64 (hiOf P), .int .u64 (loOf P)], .int .i64 y] w fun e w' => e = .returned (.tuple #[.agg #[.int .i64 (hiOf V), .int .u64 (loOf V)], .int .i64 0]) ∧ Grown w w'))
    (K1 : Hid (∀ w, Calls Tryz.prog 88 #[.agg #[.int .i64 (hiOf V), .int .u64 (loOf V)], .bool (p || q)] w fun e w' => e = .returned (.tuple #[.int .i64 u, .bool v]) ∧ Grown w w')) (w : World) :
    Calls Tryz.prog 54 #[.int .i64 a, .int .i64 b] w fun e w' => e = .returned (.tuple #[.int .i64 u, .bool v]) ∧ Grown w w' := by
  go_enter Tryz.func54, Tryz.ntmps54
  go_wp2_with fail
  refine (unhide T1 _).mono ?_
  rintro e w1 ⟨rfl, g1⟩
  go_wp2_with fail
  refine (unhide T2 _).mono ?_
  rintro e w2 ⟨rfl, hg2⟩
  have g2 := gtrans g1 hg2
  clear g1 hg2
  go_wp2_with fail
  refine (unhide M1 _).mono ?_
  rintro e w5 ⟨rfl, hg5⟩
  have g5 := gtrans g2 hg5
  clear g2 hg5
  go_wp2_with fail
  refine (unhide R1 _).mono ?_
  rintro e w6 ⟨rfl, hg6⟩
  have g6 := gtrans g5 hg6
  clear g5 hg6
  cases p <;> cases q <;> (go_wp2_with fail; refine (unhide K1 _).mono ?_; rintro e w7 ⟨rfl, hg7⟩; have g7 := gtrans (g6.alloc _ _) hg7; go_wp2; go_ret2; exact ⟨rfl, g7⟩)

theorem refDiv2 (a b : Int) (ha : I64 a) (hb : I64 b) (w : World) :
    Calls Tryz.prog 54 #[.int .i64 a, .int .i64 b] w fun e w' => e = .returned (.tuple #[.int .i64 (fitI (quoR (tk a) (tk b))), .bool (cutB (quoR (tk a) (tk b)) a b || decide (b = 0))]) ∧ Grown w w' := by
  by_cases hz : b = 0
  · subst hz
    have T2 := hide (fun w => refTaken 0 hb w)
    rw [show tk 0 = 0 from by decide, show nb 0 = false from by decide] at T2
    rw [show (cutB (quoR (tk a) (tk 0)) a 0 || decide ((0 : Int) = 0)) = true from by simp]
    refine refDiv2_zero a (tk a) _ (nb a) ?_ (hide fun w => refTaken a ha w) T2 w
    rw [show tk 0 = 0 from by decide]
    rcases (show tk a < 0 ∨ tk a = 0 ∨ 0 < tk a from by omega) with hs | hs | hs
    · exact Or.inl ⟨hs, by unfold quoR; rw [if_pos rfl, if_pos hs]; decide⟩
    · exact Or.inr (Or.inl ⟨hs, by rw [hs]; decide⟩)
    · exact Or.inr (Or.inr ⟨hs, by unfold quoR; rw [if_pos rfl, if_neg (by omega), if_pos hs]; decide⟩)
  · have hy : tk b ≠ 0 := fun h => hz ((tk_zero b).1 h)
    have h1 := tk_Fx a ha; have h2 := tk_Fx b hb
    have hr := quoR_range (tk a) (tk b) h1
    have hq : quoR (tk a) (tk b) = rdiv (tk a * 4294967296) (tk b) := by unfold quoR; rw [if_neg hy]
    rw [show (cutB (quoR (tk a) (tk b)) a b || decide (b = 0)) = (fitB (quoR (tk a) (tk b)) || (nb a || nb b)) from by unfold cutB; rw [decide_eq_false hz, Bool.or_false, Bool.or_assoc]]
    refine refDiv2_core a b (tk a) (tk b) (tk a * 4294967296) (quoR (tk a) (tk b)) _ (nb a) (nb b) _ (by simpa using hy) (hide fun w => refTaken a ha w) (hide fun w => refTaken b hb w) (hide fun w => refMul (tk a) 4294967296 (Fx_I64 h1) (by unfold I64; omega) w) ?_ (hide fun w => refFits (quoR (tk a) (tk b)) (nb a || nb b) (wrapW_in _ hr) w) w
    rw [hq]
    exact hide fun w => refDiv (tk a * 4294967296) (tk b) (in_wideR _ (by unfold Fx at h1; omega)) (Fx_I64 h2) hy w

end Go.Proofs.YtopaakjildmjcaaGreat

/- The document's answer for layer 3: square, above, root, Whole, nearest, Sqrt and Hypot, walked: what each returns, in whole numbers. -/
namespace Go.Proofs.YtopaakjildmjcaaGreat
open Go.RowKit Go.Proofs.Wd
set_option linter.unusedVariables false
set_option linter.unusedSimpArgs false
set_option maxRecDepth 10000

theorem refCmpV (A B : Int) (w : World) :
    Calls Tryz.prog 114 #[.agg #[.int .i64 (hiOf A), .int .u64 (loOf A)], .agg #[.int .i64 (hiOf B), .int .u64 (loOf B)]] w fun e w' => e = .returned (.int .i64 (cmpI (wrapW A) (wrapW B))) ∧ Grown w w' := by
  have q := refCmp (hiOf A) (loOf A) (hiOf B) (loOf B) (hiOf_I64 _) (loOf_U64 _) (hiOf_I64 _) (loOf_U64 _) w
  rw [val_of, val_of] at q
  exact q

theorem sq_even (n : Int) (h : n % 2 = 0) : n / 2 * (n / 2) + n / 2 * (n / 2) + (n / 2 * (n / 2) + n / 2 * (n / 2)) = n * n := by
  obtain ⟨k, hk⟩ : ∃ k, n / 2 = k := ⟨_, rfl⟩
  rw [hk]
  have : n = 2 * k := by omega
  rw [this]; grind
theorem sq_odd (n : Int) (h : n % 2 = 1) : n / 2 * (n / 2) + n / 2 * (n / 2) + n / 2 * 2 + (n / 2 * (n / 2) + n / 2 * (n / 2) + n / 2 * 2) + 1 = n * n := by
  obtain ⟨k, hk⟩ : ∃ k, n / 2 = k := ⟨_, rfl⟩
  rw [hk]
  have : n = 2 * k + 1 := by omega
  rw [this]; grind

end Go.Proofs.YtopaakjildmjcaaGreat

/- The document's answer for layer 3: above, root, Whole, nearest, Sqrt and Hypot, walked: what each returns, in whole numbers. -/
namespace Go.Proofs.YtopaakjildmjcaaGreat
open Go.RowKit Go.Proofs.Wd
set_option linter.unusedVariables false
set_option linter.unusedSimpArgs false
set_option maxRecDepth 10000

theorem cmpI_gtB (x y : Int) : (decide (0 < cmpI x y)) = decide (y < x) := by
  by_cases c : y < x
  · rw [cmpI_gt x y c]; simp [c]
  · have := cmpI_le x y (by omega)
    rw [show decide (y < x) = false from by simpa using c]; simp; omega

/-- What holds when the bits from k on are done. -/
def RInv (v : Int) (k : Nat) (o : Int) : Prop := 0 ≤ o ∧ o + 2 ^ k ≤ 18446744073709551616 ∧ o * o ≤ v ∧ v < (o + 2 ^ k) * (o + 2 ^ k)
theorem rinv_up (v : Int) (k : Nat) (o : Int) (h : RInv v (k + 1) o) (c : ¬ v < (o + 2 ^ k) * (o + 2 ^ k)) : RInv v k (o + 2 ^ k) := by
  obtain ⟨a, b, d, e⟩ := h
  have p : (0 : Int) < 2 ^ k := Int.pow_pos (by decide)
  rw [Int.pow_succ] at b e
  unfold RInv
  generalize (2 : Int) ^ k = K at *
  rw [show o + K + K = o + K * 2 from by omega]
  exact ⟨by omega, b, by omega, e⟩
theorem rinv_dn (v : Int) (k : Nat) (o : Int) (h : RInv v (k + 1) o) (c : v < (o + 2 ^ k) * (o + 2 ^ k)) : RInv v k o := by
  obtain ⟨a, b, d, e⟩ := h
  have p : (0 : Int) < 2 ^ k := Int.pow_pos (by decide)
  rw [Int.pow_succ] at b
  unfold RInv
  generalize (2 : Int) ^ k = K at *
  exact ⟨a, by omega, d, c⟩
theorem rinv_end (v o : Int) (h : RInv v 0 o) : o = rt v := by
  obtain ⟨a, b, d, e⟩ := h
  exact (rt_eq v o ⟨a, d, e⟩).symm
theorem rinv_room (v : Int) (k : Nat) (o : Int) (h : RInv v (k + 1) o) : 0 ≤ o ∧ o + 2 ^ k < 18446744073709551616 ∧ 0 < (2 : Int) ^ k := by
  obtain ⟨a, b, d, e⟩ := h
  have p : (0 : Int) < 2 ^ k := Int.pow_pos (by decide)
  rw [Int.pow_succ] at b
  generalize (2 : Int) ^ k = K at *
  omega
theorem rinv_start (v : Int) (h0 : 0 ≤ v) (h1 : v < 170141183460469231731687303715884105728) : RInv v 64 0 := by
  unfold RInv
  rw [show (0 : Int) + 2 ^ 64 = 18446744073709551616 from by decide]
  omega

theorem whE_le (v : Int) (h0 : 0 ≤ v) (h1 : v < 170141183460469231731687303715884105728) : (rt v ≤ 9223372036854775807 → whN v = rt v ∧ whE v = 0) ∧ (9223372036854775807 < rt v → whN v = 0 ∧ whE v = 2) := by
  constructor
  · intro h
    by_cases c : v < 85070591730234615865843651857942052864
    · exact wh_good v ⟨h0, c⟩
    · have := rt_ge63 v (by omega); omega
  · intro h
    by_cases c : v < 85070591730234615865843651857942052864
    · have := rt_lt63 v h0 c; omega
    · exact wh_bad v (by omega)

end Go.Proofs.YtopaakjildmjcaaGreat

/- The document's unit: what each of its functions answers. -/
namespace Go.Proofs.YtopaakjildmjcaaGreat
open Go.RowKit Go.Proofs.Wd
set_option linter.unusedVariables false
set_option linter.unusedSimpArgs false
set_option maxRecDepth 10000
attribute [local go_sem ↓] Go.wp_at_zero Go.wp_at_succ

def RC (U : Nat) (c : Bool) (n : Int) (w : World) : Prop := Blk U #[.bool c, .int .i64 n] 52 w
theorem RC.c0 {U : Nat} {c : Bool} {n : Int} {w : World} (h : RC U c n w) : w.cell? ⟨U, 0, none⟩ = some (.bool c) := Blk.cell h 0
theorem RC.c1 {U : Nat} {c : Bool} {n : Int} {w : World} (h : RC U c n w) : w.cell? ⟨U, 1, none⟩ = some (.int .i64 n) := Blk.cell h 1
theorem RC.set0 {U : Nat} {c : Bool} {n : Int} {w : World} (h : RC U c n w) (d : Bool) : RC U d n (w.setCell ⟨U, 0, none⟩ (.bool d)) := Blk.set h 0 _
theorem RC.set1 {U : Nat} {c : Bool} {n : Int} {w : World} (h : RC U c n w) (m : Int) : RC U c m (w.setCell ⟨U, 1, none⟩ (.int .i64 m)) := Blk.set h 1 _

set_option maxHeartbeats 400000 in
theorem refUNew (w : World) : Calls Tryz.prog 6 #[] w fun e w' => e = .returned (.pointer (some ⟨w.heap.size, 0, none⟩)) ∧ RC w.heap.size false 0 w' ∧ Grown w w' := by
  go_enter Tryz.func6, Tryz.ntmps6
  go_wp2
  go_ret
  exact ⟨rfl, heap_alloc_new w _, (Grown.refl _).alloc _ _⟩

set_option maxHeartbeats 400000 in
theorem refUDid (U : Nat) (c d : Bool) (n x : Int) (hn : 0 ≤ n ∧ n < 4611686018427387904) (w : World) (h : RC U c n w) : Calls Tryz.prog 55 #[.pointer (some ⟨U, 0, none⟩), .int .i64 x, .bool d] w fun e w' => e = .returned (.int .i64 x) ∧ RC U (c || d) (n + 1) w' ∧ Mod U w w' := by
  have h0 := h.c0
  have h1 := h.c1
  have f0 := h.free 0
  have f1 := h.free 1
  have H := hide h
  clear h
  obtain ⟨n0, n1⟩ := hn
  cases c
  all_goals
    go_enter Tryz.func55, Tryz.ntmps55
    go_wp2
    go_ret
    exact ⟨rfl, ((unhide H).set1 _).set0 _, ((Mod.refl _ _).setCell _ _).setCell _ _⟩

set_option maxHeartbeats 1000000 in
theorem refUPlus (U : Nat) (c : Bool) (n a b : Int) (ha : I64 a) (hb : I64 b) (hn : 0 ≤ n ∧ n < 4611686018427387904) (w : World) (h : RC U c n w) :
    Calls Tryz.prog 83 #[.pointer (some ⟨U, 0, none⟩), .int .i64 a, .int .i64 b] w fun e w' =>
      e = .returned (.int .i64 (addN a b)) ∧ RC U (c || addC a b) (n + 1) w' ∧ Mod U w w' := by
  have X : Hid (Calls Tryz.prog 106 #[.int .i64 a, .int .i64 b] w fun e w' => e = .returned (.tuple #[.int .i64 (addN a b), .bool (addC a b)]) ∧ Grown w w') := refAdd2 a b ha hb w
  generalize addN a b = r at *
  generalize addC a b = d at *
  have H := hide h
  have HN := hide hn
  clear h hn ha hb
  go_enter Tryz.func83, Tryz.ntmps83
  go_wp2_with fail
  refine (unhide X).mono ?_
  rintro e w1 ⟨rfl, h1⟩
  go_wp2_with fail
  refine (refUDid U c _ n _ (unhide HN) w1 (Blk.grown (unhide H) h1)).mono ?_
  rintro e w2 ⟨rfl, h2, m2⟩
  have H2 : Hid (RC U (c || d) (n + 1) w2 ∧ Mod U w w2) := ⟨h2, (Mod.of h1).trans m2⟩
  clear h1 h2 m2
  go_wp2
  go_ret
  exact ⟨rfl, unhide H2⟩

set_option maxHeartbeats 1000000 in
theorem refUTimes (U : Nat) (c : Bool) (n a b : Int) (ha : I64 a) (hb : I64 b) (hn : 0 ≤ n ∧ n < 4611686018427387904) (w : World) (h : RC U c n w) :
    Calls Tryz.prog 84 #[.pointer (some ⟨U, 0, none⟩), .int .i64 a, .int .i64 b] w fun e w' =>
      e = .returned (.int .i64 (mulN a b)) ∧ RC U (c || mulC a b) (n + 1) w' ∧ Mod U w w' := by
  have X : Hid (Calls Tryz.prog 107 #[.int .i64 a, .int .i64 b] w fun e w' => e = .returned (.tuple #[.int .i64 (mulN a b), .bool (mulC a b)]) ∧ Grown w w') := refMul2 a b ha hb w
  generalize mulN a b = r at *
  generalize mulC a b = d at *
  have H := hide h
  have HN := hide hn
  clear h hn ha hb
  go_enter Tryz.func84, Tryz.ntmps84
  go_wp2_with fail
  refine (unhide X).mono ?_
  rintro e w1 ⟨rfl, h1⟩
  go_wp2_with fail
  refine (refUDid U c _ n _ (unhide HN) w1 (Blk.grown (unhide H) h1)).mono ?_
  rintro e w2 ⟨rfl, h2, m2⟩
  have H2 : Hid (RC U (c || d) (n + 1) w2 ∧ Mod U w w2) := ⟨h2, (Mod.of h1).trans m2⟩
  clear h1 h2 m2
  go_wp2
  go_ret
  exact ⟨rfl, unhide H2⟩

set_option maxHeartbeats 1000000 in
theorem refUDiv (U : Nat) (c : Bool) (n a b : Int) (ha : I64 a) (hb : I64 b) (hn : 0 ≤ n ∧ n < 4611686018427387904) (w : World) (h : RC U c n w) :
    Calls Tryz.prog 31 #[.pointer (some ⟨U, 0, none⟩), .int .i64 a, .int .i64 b] w fun e w' =>
      e = .returned (.int .i64 (divN a b)) ∧ RC U (c || divC a b) (n + 1) w' ∧ Mod U w w' := by
  have X : Hid (Calls Tryz.prog 54 #[.int .i64 a, .int .i64 b] w fun e w' => e = .returned (.tuple #[.int .i64 (divN a b), .bool (divC a b)]) ∧ Grown w w') := refDiv2 a b ha hb w
  generalize divN a b = r at *
  generalize divC a b = d at *
  have H := hide h
  have HN := hide hn
  clear h hn ha hb
  go_enter Tryz.func31, Tryz.ntmps31
  go_wp2_with fail
  refine (unhide X).mono ?_
  rintro e w1 ⟨rfl, h1⟩
  go_wp2_with fail
  refine (refUDid U c _ n _ (unhide HN) w1 (Blk.grown (unhide H) h1)).mono ?_
  rintro e w2 ⟨rfl, h2, m2⟩
  have H2 : Hid (RC U (c || d) (n + 1) w2 ∧ Mod U w w2) := ⟨h2, (Mod.of h1).trans m2⟩
  clear h1 h2 m2
  go_wp2
  go_ret
  exact ⟨rfl, unhide H2⟩

set_option maxHeartbeats 1000000 in
theorem refUWhole (U : Nat) (c : Bool) (n a : Int) (ha : I64 a) (hn : 0 ≤ n ∧ n < 4611686018427387904) (w : World) (h : RC U c n w) :
    Calls Tryz.prog 32 #[.pointer (some ⟨U, 0, none⟩), .int .i64 a] w fun e w' =>
      e = .returned (.int .i64 (whoN a)) ∧ RC U (c || whoC a) (n + 1) w' ∧ Mod U w w' := by
  have X : Hid (Calls Tryz.prog 56 #[.int .i64 a] w fun e w' => e = .returned (.tuple #[.int .i64 (whoN a), .bool (whoC a)]) ∧ Grown w w') := refWhole2 a ha w
  generalize whoN a = r at *
  generalize whoC a = d at *
  have H := hide h
  have HN := hide hn
  clear h hn ha
  go_enter Tryz.func32, Tryz.ntmps32
  go_wp2_with fail
  refine (unhide X).mono ?_
  rintro e w1 ⟨rfl, h1⟩
  go_wp2_with fail
  refine (refUDid U c _ n _ (unhide HN) w1 (Blk.grown (unhide H) h1)).mono ?_
  rintro e w2 ⟨rfl, h2, m2⟩
  have H2 : Hid (RC U (c || d) (n + 1) w2 ∧ Mod U w w2) := ⟨h2, (Mod.of h1).trans m2⟩
  clear h1 h2 m2
  go_wp2
  go_ret
  exact ⟨rfl, unhide H2⟩

set_option maxHeartbeats 1000000 in
theorem refUAdd (U : Nat) (c : Bool) (n : Int) (ao : Option Addr) (len cap : Nat) (Z : Nat → Int) (hn : 0 ≤ n ∧ n < 2305843009213693952) (hl : len ≤ 1000000) (hZ : Hid (∀ i, i < len → I64 (Z i))) (w : World) (h : RC U c n w) (hr : Row w ao len Z) (ho : Off U len ao) :
    Calls Tryz.prog 69 #[.pointer (some ⟨U, 0, none⟩), .slice ao len cap] w fun e w' =>
      e = .returned (.int .i64 (thN addN 0 Z len)) ∧ RC U (c || thC addN addC 0 Z len) (n + len) w' ∧ Mod U w w' := by
  have H := hide h
  have HR := hide hr
  have HO := hide ho
  clear h hr ho
  obtain ⟨n0, n1⟩ := hn
  go_enter Tryz.func69, Tryz.ntmps69
  go_wp2_with fail
  go_loopw [5, 6] (fun t i wr => ∃ k : Nat, k ≤ len ∧ i = .int .i64 k ∧ t = .int .i64 (thN addN 0 Z k) ∧ Hid (RC U (c || thC addN addC 0 Z k) (n + k) wr ∧ Mod U w wr)) (fun _ i _ => len - (intOf i).toNat)
  case atStart => exact ⟨0, Nat.zero_le _, rfl, rfl, by show RC _ (c || false) (n + 0) _ ∧ _; rw [Bool.or_false, Int.add_zero]; exact ⟨unhide H, Mod.refl _ _⟩⟩
  case round =>
    obtain ⟨k, hk, rfl, rfl, HU⟩ := hrel
    by_cases hlt : k < len
    · obtain ⟨b, o, rfl, hc⟩ := ((unhide HR).mod (unhide HU).2 (unhide HO)).at hlt
      go_wp2_with fail
      refine (refUPlus U _ _ _ _ (thN_I64 addN addN_I64 0 (by unfold I64; omega) Z k) (unhide hZ k hlt) ⟨by omega, by omega⟩ _ (unhide HU).1).mono ?_
      rintro e w3 ⟨rfl, h3, m3⟩
      have R : Hid (RC U (c || thC addN addC 0 Z (k + 1)) (n + ((k + 1 : Nat) : Int)) w3 ∧ Mod U w w3) := by
        refine ⟨?_, (unhide HU).2.trans m3⟩
        show RC U (c || (thC addN addC 0 Z k || addC (thN addN 0 Z k) (Z k))) _ _
        rw [← Bool.or_assoc, show n + ((k + 1 : Nat) : Int) = n + k + 1 by omega]
        exact h3
      clear h3 m3 hc
      go_wp2
      go_roundw
      case rel => exact ⟨k + 1, by omega, by go_num, rfl, R⟩
      case measure => simp [intOf]; omega
    · obtain rfl : k = len := by omega
      go_wp2
      go_ret
      exact ⟨rfl, (unhide HU).1, (unhide HU).2⟩

set_option maxHeartbeats 1000000 in
theorem refUMul (U : Nat) (c : Bool) (n : Int) (ao : Option Addr) (len cap : Nat) (Z : Nat → Int) (hn : 0 ≤ n ∧ n < 2305843009213693952) (hl : len ≤ 1000000) (hZ : Hid (∀ i, i < len → I64 (Z i))) (w : World) (h : RC U c n w) (hr : Row w ao len Z) (ho : Off U len ao) :
    Calls Tryz.prog 67 #[.pointer (some ⟨U, 0, none⟩), .slice ao len cap] w fun e w' =>
      e = .returned (.int .i64 (thN mulN 4294967296 Z len)) ∧ RC U (c || thC mulN mulC 4294967296 Z len) (n + len) w' ∧ Mod U w w' := by
  have H := hide h
  have HR := hide hr
  have HO := hide ho
  clear h hr ho
  obtain ⟨n0, n1⟩ := hn
  go_enter Tryz.func67, Tryz.ntmps67
  go_wp2_with fail
  go_loopw [5, 6] (fun t i wr => ∃ k : Nat, k ≤ len ∧ i = .int .i64 k ∧ t = .int .i64 (thN mulN 4294967296 Z k) ∧ Hid (RC U (c || thC mulN mulC 4294967296 Z k) (n + k) wr ∧ Mod U w wr)) (fun _ i _ => len - (intOf i).toNat)
  case atStart => exact ⟨0, Nat.zero_le _, rfl, rfl, by show RC _ (c || false) (n + 0) _ ∧ _; rw [Bool.or_false, Int.add_zero]; exact ⟨unhide H, Mod.refl _ _⟩⟩
  case round =>
    obtain ⟨k, hk, rfl, rfl, HU⟩ := hrel
    by_cases hlt : k < len
    · obtain ⟨b, o, rfl, hc⟩ := ((unhide HR).mod (unhide HU).2 (unhide HO)).at hlt
      go_wp2_with fail
      refine (refUTimes U _ _ _ _ (thN_I64 mulN mulN_I64 4294967296 (by unfold I64; omega) Z k) (unhide hZ k hlt) ⟨by omega, by omega⟩ _ (unhide HU).1).mono ?_
      rintro e w3 ⟨rfl, h3, m3⟩
      have R : Hid (RC U (c || thC mulN mulC 4294967296 Z (k + 1)) (n + ((k + 1 : Nat) : Int)) w3 ∧ Mod U w w3) := by
        refine ⟨?_, (unhide HU).2.trans m3⟩
        show RC U (c || (thC mulN mulC 4294967296 Z k || mulC (thN mulN 4294967296 Z k) (Z k))) _ _
        rw [← Bool.or_assoc, show n + ((k + 1 : Nat) : Int) = n + k + 1 by omega]
        exact h3
      clear h3 m3 hc
      go_wp2
      go_roundw
      case rel => exact ⟨k + 1, by omega, by go_num, rfl, R⟩
      case measure => simp [intOf]; omega
    · obtain rfl : k = len := by omega
      go_wp2
      go_ret
      exact ⟨rfl, (unhide HU).1, (unhide HU).2⟩

set_option maxHeartbeats 1000000 in
theorem refUDot_size (U : Nat) (ao bo : Option Addr) (l1 c1 l2 c2 : Nat) (hne : l1 ≠ l2) (hl : l1 ≤ 1000000) (hk : l2 ≤ 1000000) (w : World) :
    Calls Tryz.prog 52 #[.pointer (some ⟨U, 0, none⟩), .slice ao l1 c1, .slice bo l2 c2] w fun e w' => e = .returned (.tuple #[.int .i64 0, .int .i64 3]) ∧ w' = w := by
  have d : ((l1 : Int) == (l2 : Int)) = false := by simp; omega
  go_enter Tryz.func52, Tryz.ntmps52
  go_wp2
  go_ret2
  exact ⟨rfl, rfl⟩

set_option maxHeartbeats 2000000 in
theorem refUDot_ok (U : Nat) (c : Bool) (n : Int) (ao bo : Option Addr) (len c1 c2 : Nat) (X Y : Nat → Int) (hn : 0 ≤ n ∧ n < 2305843009213693952) (hl : len ≤ 1000000) (hX : Hid (∀ i, i < len → I64 (X i))) (hY : Hid (∀ i, i < len → I64 (Y i))) (w : World) (h : RC U c n w)
    (hr : Row w ao len X) (ho : Off U len ao) (ht : Row w bo len Y) (hp : Off U len bo) :
    Calls Tryz.prog 52 #[.pointer (some ⟨U, 0, none⟩), .slice ao len c1, .slice bo len c2] w fun e w' =>
      e = .returned (.tuple #[.int .i64 (dotN X Y len), .int .i64 0]) ∧ RC U (c || dotC X Y len) (n + 2 * len) w' ∧ Mod U w w' := by
  have H := hide h
  have HR := hide hr
  have HO := hide ho
  have HT := hide ht
  have HP := hide hp
  clear h hr ho ht hp
  obtain ⟨n0, n1⟩ := hn
  go_enter Tryz.func52, Tryz.ntmps52
  go_wp2_with fail
  go_loopw [8, 9] (fun t i wr => ∃ k : Nat, k ≤ len ∧ i = .int .i64 k ∧ t = .int .i64 (dotN X Y k) ∧ Hid (RC U (c || dotC X Y k) (n + 2 * k) wr ∧ Mod U w wr)) (fun _ i _ => len - (intOf i).toNat)
  case atStart => exact ⟨0, Nat.zero_le _, rfl, rfl, by show RC _ (c || false) (n + 0) _ ∧ _; rw [Bool.or_false, Int.add_zero]; exact ⟨unhide H, Mod.refl _ _⟩⟩
  case round =>
    obtain ⟨k, hk, rfl, rfl, HU⟩ := hrel
    by_cases hlt : k < len
    · obtain ⟨b1, o1, rfl, hc1⟩ := ((unhide HR).mod (unhide HU).2 (unhide HO)).at hlt
      obtain ⟨b2, o2, rfl, hc2⟩ := ((unhide HT).mod (unhide HU).2 (unhide HP)).at hlt
      have BU := hide (And.intro (unhide HO (by omega) _ rfl) (unhide HP (by omega) _ rfl))
      have M1 := hide (fun w h => refUTimes U (c || dotC X Y k) (n + 2 * k) (X k) (Y k) (unhide hX k hlt) (unhide hY k hlt) ⟨by omega, by omega⟩ w h)
      have A1 := hide (fun w h => refUPlus U (c || dotC X Y k || mulC (X k) (Y k)) (n + 2 * k + 1) (dotN X Y k) (mulN (X k) (Y k)) (dotN_I64 X Y k) (mulN_I64 _ _) ⟨by omega, by omega⟩ w h)
      have i0 : (0 : Int) ≤ (k : Int) := by omega
      have i1 : (k : Int) < (len : Int) := by omega
      have E1 : Hid (dotN X Y (k + 1) = addN (dotN X Y k) (mulN (X k) (Y k))) := rfl
      have E2 : Hid (dotC X Y (k + 1) = (dotC X Y k || mulC (X k) (Y k) || addC (dotN X Y k) (mulN (X k) (Y k)))) := rfl
      generalize mulN (X k) (Y k) = p at *
      generalize mulC (X k) (Y k) = pc at *
      generalize X k = x at *
      generalize Y k = y at *
      generalize dotN X Y k = s at *
      generalize addN s p = q at *
      generalize addC s p = qc at *
      generalize dotC X Y k = dk at *
      go_wp2
      go_region_held3 (fun w' => w'.cell? ⟨b1, o1 + k, none⟩ = some (.int .i64 x) ∧ w'.cell? ⟨b2, o2 + k, none⟩ = some (.int .i64 y))
        (simp [go_sem, *])
        (first
          | (go_at_call 84; refine (unhide M1 _ (by exact (unhide HU).1)).mono ?_; rintro e w3 ⟨rfl, h3, m3⟩; have c31 := Mod.cell (by exact m3) hc1 (unhide BU).1; have c32 := Mod.cell (by exact m3) hc2 (unhide BU).2; have u3 : Hid (RC U (c || dk || pc) (n + 2 * k + 1) w3 ∧ Mod U w w3) := ⟨h3, (unhide HU).2.trans (by exact m3)⟩; clear h3 m3)
          | (go_at_call 83; refine (unhide A1 _ (unhide u3).1).mono ?_; rintro e w5 ⟨rfl, h5, m5⟩; have c51 := m5.cell c31 (unhide BU).1; have c52 := m5.cell c32 (unhide BU).2; have u5 : Hid (RC U (c || dk || pc || qc) (n + 2 * k + 1 + 1) w5 ∧ Mod U w w5) := ⟨h5, (unhide u3).2.trans m5⟩; clear h5 m5))
      have R : Hid (RC U (c || dotC X Y (k + 1)) (n + 2 * ((k + 1 : Nat) : Int)) w5 ∧ Mod U w w5) := by
        refine ⟨?_, (unhide u5).2⟩
        rw [unhide E2, ← Bool.or_assoc, ← Bool.or_assoc, show n + 2 * ((k + 1 : Nat) : Int) = n + 2 * k + 1 + 1 by omega]
        exact (unhide u5).1
      go_wp2
      go_roundw
      case rel => exact ⟨k + 1, by omega, by go_num, by rw [unhide E1], R⟩
      case measure => simp [intOf]; omega
    · obtain rfl : k = len := by omega
      go_wp2
      go_ret2
      exact ⟨rfl, (unhide HU).1, (unhide HU).2⟩

end Go.Proofs.YtopaakjildmjcaaGreat

/- The document's mat: Check, alike. -/
namespace Go.Proofs.YtopaakjildmjcaaGreat
open Go.RowKit Go.Shelf Go.Proofs.Wd
set_option linter.unusedVariables false
set_option linter.unusedSimpArgs false
set_option maxRecDepth 10000

/-- A matrix and an error that the document tells. -/
def DocP (r c : Int) (len : Nat) (Z : Nat → Int) (err : Int) (X : World → Prop) (w : World) (e : Ending) (w' : World) : Prop :=
  ∃ ao cap, e = .returned (.tuple #[.agg #[.int .i64 r, .int .i64 c, .slice ao len cap], .int .i64 err]) ∧ len ≤ cap ∧ Row w' ao len Z ∧ (∀ U, U < w.heap.size → Off U len ao) ∧ X w'


set_option maxHeartbeats 2000000 in
theorem refMCheck (r c : Int) (ao : Option Addr) (len cap : Nat) (w : World) : Calls Tryz.prog 49 #[.agg #[.int .i64 r, .int .i64 c, .slice ao len cap]] w fun e w' => e = .returned (.int .i64 (chk r c len)) ∧ Grown w w' := by
  have H : True := trivial
  by_cases h1 : r < 1
  · have E := hide (chk_bad (r := r) (c := c) (len := len) (fun h => by have := h.1; omega))
    clear H
    skip
    go_enter Tryz.func49, Tryz.ntmps49
    go_wp2
    go_ret
    exact ⟨by rw [unhide E]; rfl, (Grown.refl _).alloc _ _⟩
  by_cases h2 : 12 < r
  · have E := hide (chk_bad (r := r) (c := c) (len := len) (fun h => by have := h.1; omega))
    clear H
    have g1 : 1 ≤ r := by omega
    go_enter Tryz.func49, Tryz.ntmps49
    go_wp2
    go_ret
    exact ⟨by rw [unhide E]; rfl, (Grown.refl _).alloc _ _⟩
  by_cases h3 : c < 1
  · have E := hide (chk_bad (r := r) (c := c) (len := len) (fun h => by have := h.2.1; omega))
    clear H
    have g1 : 1 ≤ r := by omega
    have g2 : r ≤ 12 := by omega
    go_enter Tryz.func49, Tryz.ntmps49
    go_wp2
    go_ret
    exact ⟨by rw [unhide E]; rfl, (Grown.refl _).alloc _ _⟩
  by_cases h4 : 12 < c
  · have E := hide (chk_bad (r := r) (c := c) (len := len) (fun h => by have := h.2.1; omega))
    clear H
    have g1 : 1 ≤ r := by omega
    have g2 : r ≤ 12 := by omega
    have g3 : 1 ≤ c := by omega
    go_enter Tryz.func49, Tryz.ntmps49
    go_wp2
    go_ret
    exact ⟨by rw [unhide E]; rfl, (Grown.refl _).alloc _ _⟩
  have g1 : 1 ≤ r := by omega
  have g2 : r ≤ 12 := by omega
  have g3 : 1 ≤ c := by omega
  have g4 : c ≤ 12 := by omega
  have hw : wrap64 (r * c) = r * c := by
    have := mul12 r c ⟨g1, g2⟩ ⟨g3, g4⟩
    unfold wrap64
    omega
  by_cases h5 : (len : Int) = r * c
  · have E := hide (chk_ok (r := r) (c := c) (len := len) ⟨⟨g1, g2⟩, ⟨g3, g4⟩, h5⟩)
    clear H
    have b3 : ((len : Int) != r * c) = false := by simpa using h5
    have H5 := hide h5
    clear h5
    go_enter Tryz.func49, Tryz.ntmps49
    go_wp2
    go_ret
    exact ⟨by rw [unhide E]; rfl, (Grown.refl _).alloc _ _⟩
  · have E := hide (chk_bad (r := r) (c := c) (len := len) (fun h => h5 h.2.2))
    clear H
    have b3 : ((len : Int) != r * c) = true := by simpa using h5
    have H5 := hide h5
    clear h5
    go_enter Tryz.func49, Tryz.ntmps49
    go_wp2
    go_ret
    exact ⟨by rw [unhide E]; rfl, (Grown.refl _).alloc _ _⟩


open Classical in
set_option maxHeartbeats 2000000 in
theorem refAlike (R1 C1 R2 C2 : Int) (a1 a2 : Option Addr) (l1 p1 l2 p2 : Nat) (w : World) : Calls Tryz.prog 68 #[.agg #[.int .i64 R1, .int .i64 C1, .slice a1 l1 p1], .agg #[.int .i64 R2, .int .i64 C2, .slice a2 l2 p2]] w fun e w' => e = .returned (.bool (decide (okM R1 C1 l1 ∧ okM R2 C2 l2 ∧ R1 = R2 ∧ C1 = C2))) ∧ Grown w w' := by
  have K1 := hide (fun w => refMCheck R1 C1 a1 l1 p1 w)
  have K2 := hide (fun w => refMCheck R2 C2 a2 l2 p2 w)
  have G : Grown w ((w.alloc (.cells #[.int .i64 R1, .int .i64 C1, .slice a1 l1 p1] 24)).alloc (.cells #[.int .i64 R2, .int .i64 C2, .slice a2 l2 p2] 24)) := ((Grown.refl _).alloc _ _).alloc _ _
  have X1 : Blk w.heap.size #[.int .i64 R1, .int .i64 C1, .slice a1 l1 p1] 24 ((w.alloc (.cells #[.int .i64 R1, .int .i64 C1, .slice a1 l1 p1] 24)).alloc (.cells #[.int .i64 R2, .int .i64 C2, .slice a2 l2 p2] 24)) := Blk.grown (Blk.new w _ _) ((Grown.refl _).alloc _ _)
  have X2 : Blk (w.heap.size + 1) #[.int .i64 R2, .int .i64 C2, .slice a2 l2 p2] 24 ((w.alloc (.cells #[.int .i64 R1, .int .i64 C1, .slice a1 l1 p1] 24)).alloc (.cells #[.int .i64 R2, .int .i64 C2, .slice a2 l2 p2] 24)) := blk_new2 w _ _ _
  have CW : Hid (∀ wx, Grown ((w.alloc (.cells #[.int .i64 R1, .int .i64 C1, .slice a1 l1 p1] 24)).alloc (.cells #[.int .i64 R2, .int .i64 C2, .slice a2 l2 p2] 24)) wx → wx.cell? ⟨w.heap.size, 0, none⟩ = some (.int .i64 R1) ∧ wx.cell? ⟨w.heap.size, 1, none⟩ = some (.int .i64 C1) ∧ wx.cell? ⟨w.heap.size, 2, none⟩ = some (.slice a1 l1 p1) ∧ wx.cell? ⟨w.heap.size + 1, 0, none⟩ = some (.int .i64 R2) ∧ wx.cell? ⟨w.heap.size + 1, 1, none⟩ = some (.int .i64 C2) ∧ wx.cell? ⟨w.heap.size + 1, 2, none⟩ = some (.slice a2 l2 p2)) := fun wx g => ⟨Blk.cell (Blk.grown X1 g) 0, Blk.cell (Blk.grown X1 g) 1, Blk.cell (Blk.grown X1 g) 2, Blk.cell (Blk.grown X2 g) 0, Blk.cell (Blk.grown X2 g) 1, Blk.cell (Blk.grown X2 g) 2⟩
  have HG := hide G
  clear X1 X2 G
  by_cases h1 : okM R1 C1 l1
  · rw [chk_ok h1] at K1
    by_cases h2 : okM R2 C2 l2
    · rw [chk_ok h2] at K2
      by_cases h3 : R1 = R2
      · by_cases h4 : C1 = C2
        · have E : Hid (decide (okM R1 C1 l1 ∧ okM R2 C2 l2 ∧ R1 = R2 ∧ C1 = C2) = true) := decide_eq_true ⟨h1, h2, h3, h4⟩
          generalize decide (okM R1 C1 l1 ∧ okM R2 C2 l2 ∧ R1 = R2 ∧ C1 = C2) = D at *
          clear h1 h2
          subst h3 h4
          go_enter Tryz.func68, Tryz.ntmps68
          go_wp2_with fail
          refine (unhide K1 _).mono ?_
          rintro e w1 ⟨rfl, g1⟩
          obtain ⟨x0, x1, x2, y0, y1, y2⟩ := unhide CW w1 g1
          have GG := hide (gtrans (unhide HG) g1)
          clear g1
          have CW1 := hide (fun wx (g : Grown w1 wx) => And.intro (gat g x0) (And.intro (gat g x1) (And.intro (gat g y0) (gat g y1))))
          go_wp2_with fail
          refine (unhide K2 _).mono ?_
          rintro e w2 ⟨rfl, g2⟩
          obtain ⟨z0, z1, t0, t1⟩ := unhide CW1 w2 g2
          have GH := hide (gtrans (unhide GG) g2)
          clear x0 x1 x2 y0 y1 y2 g2
          go_wp2
          go_ret
          exact ⟨by rw [unhide E]; rfl, unhide GH⟩
        · have E : Hid (decide (okM R1 C1 l1 ∧ okM R2 C2 l2 ∧ R1 = R2 ∧ C1 = C2) = false) := decide_eq_false (fun h => h4 h.2.2.2)
          generalize decide (okM R1 C1 l1 ∧ okM R2 C2 l2 ∧ R1 = R2 ∧ C1 = C2) = D at *
          have b4 : (C1 == C2) = false := by simpa using h4
          clear h1 h2 h4
          subst h3
          go_enter Tryz.func68, Tryz.ntmps68
          go_wp2_with fail
          refine (unhide K1 _).mono ?_
          rintro e w1 ⟨rfl, g1⟩
          obtain ⟨x0, x1, x2, y0, y1, y2⟩ := unhide CW w1 g1
          have GG := hide (gtrans (unhide HG) g1)
          clear g1
          have CW1 := hide (fun wx (g : Grown w1 wx) => And.intro (gat g x0) (And.intro (gat g x1) (And.intro (gat g y0) (gat g y1))))
          go_wp2_with fail
          refine (unhide K2 _).mono ?_
          rintro e w2 ⟨rfl, g2⟩
          obtain ⟨z0, z1, t0, t1⟩ := unhide CW1 w2 g2
          have GH := hide (gtrans (unhide GG) g2)
          clear x0 x1 x2 y0 y1 y2 g2
          go_wp2
          go_ret
          exact ⟨by rw [unhide E]; rfl, unhide GH⟩
      · have E : Hid (decide (okM R1 C1 l1 ∧ okM R2 C2 l2 ∧ R1 = R2 ∧ C1 = C2) = false) := decide_eq_false (fun h => h3 h.2.2.1)
        generalize decide (okM R1 C1 l1 ∧ okM R2 C2 l2 ∧ R1 = R2 ∧ C1 = C2) = D at *
        have b3 : (R1 == R2) = false := by simpa using h3
        clear h1 h2 h3
        go_enter Tryz.func68, Tryz.ntmps68
        go_wp2_with fail
        refine (unhide K1 _).mono ?_
        rintro e w1 ⟨rfl, g1⟩
        obtain ⟨x0, x1, x2, y0, y1, y2⟩ := unhide CW w1 g1
        have GG := hide (gtrans (unhide HG) g1)
        clear g1
        have CW1 := hide (fun wx (g : Grown w1 wx) => And.intro (gat g x0) (And.intro (gat g x1) (And.intro (gat g y0) (gat g y1))))
        go_wp2_with fail
        refine (unhide K2 _).mono ?_
        rintro e w2 ⟨rfl, g2⟩
        obtain ⟨z0, z1, t0, t1⟩ := unhide CW1 w2 g2
        have GH := hide (gtrans (unhide GG) g2)
        clear x0 x1 x2 y0 y1 y2 g2
        go_wp2
        go_ret
        exact ⟨by rw [unhide E]; rfl, unhide GH⟩
    · rw [chk_bad h2] at K2
      have E : Hid (decide (okM R1 C1 l1 ∧ okM R2 C2 l2 ∧ R1 = R2 ∧ C1 = C2) = false) := decide_eq_false (fun h => h2 h.2.1)
      generalize decide (okM R1 C1 l1 ∧ okM R2 C2 l2 ∧ R1 = R2 ∧ C1 = C2) = D at *
      clear h1 h2
      go_enter Tryz.func68, Tryz.ntmps68
      go_wp2_with fail
      refine (unhide K1 _).mono ?_
      rintro e w1 ⟨rfl, g1⟩
      obtain ⟨x0, x1, x2, y0, y1, y2⟩ := unhide CW w1 g1
      have GG := hide (gtrans (unhide HG) g1)
      clear g1
      have CW1 := hide (fun wx (g : Grown w1 wx) => And.intro (gat g x0) (And.intro (gat g x1) (And.intro (gat g y0) (gat g y1))))
      go_wp2_with fail
      refine (unhide K2 _).mono ?_
      rintro e w2 ⟨rfl, g2⟩
      obtain ⟨z0, z1, t0, t1⟩ := unhide CW1 w2 g2
      have GH := hide (gtrans (unhide GG) g2)
      clear x0 x1 x2 y0 y1 y2 g2
      go_wp2
      go_ret
      exact ⟨by rw [unhide E]; rfl, unhide GH⟩
  · rw [chk_bad h1] at K1
    have E : Hid (decide (okM R1 C1 l1 ∧ okM R2 C2 l2 ∧ R1 = R2 ∧ C1 = C2) = false) := decide_eq_false (fun h => h1 h.1)
    generalize decide (okM R1 C1 l1 ∧ okM R2 C2 l2 ∧ R1 = R2 ∧ C1 = C2) = D at *
    clear h1
    go_enter Tryz.func68, Tryz.ntmps68
    go_wp2_with fail
    refine (unhide K1 _).mono ?_
    rintro e w1 ⟨rfl, g1⟩
    obtain ⟨x0, x1, x2, y0, y1, y2⟩ := unhide CW w1 g1
    have GG := hide (gtrans (unhide HG) g1)
    clear g1
    go_wp2
    go_ret
    exact ⟨by rw [unhide E]; rfl, unhide GG⟩

open Classical in
theorem refAlike_ok (R1 C1 R2 C2 : Int) (a1 a2 : Option Addr) (l1 p1 l2 p2 : Nat) (h : okM R1 C1 l1 ∧ okM R2 C2 l2 ∧ R1 = R2 ∧ C1 = C2) (w : World) : Calls Tryz.prog 68 #[.agg #[.int .i64 R1, .int .i64 C1, .slice a1 l1 p1], .agg #[.int .i64 R2, .int .i64 C2, .slice a2 l2 p2]] w fun e w' => e = .returned (.bool true) ∧ Grown w w' := by
  have := refAlike R1 C1 R2 C2 a1 a2 l1 p1 l2 p2 w
  rwa [decide_eq_true h] at this

open Classical in
theorem refAlike_bad (R1 C1 R2 C2 : Int) (a1 a2 : Option Addr) (l1 p1 l2 p2 : Nat) (h : ¬ (okM R1 C1 l1 ∧ okM R2 C2 l2 ∧ R1 = R2 ∧ C1 = C2)) (w : World) : Calls Tryz.prog 68 #[.agg #[.int .i64 R1, .int .i64 C1, .slice a1 l1 p1], .agg #[.int .i64 R2, .int .i64 C2, .slice a2 l2 p2]] w fun e w' => e = .returned (.bool false) ∧ Grown w w' := by
  have := refAlike R1 C1 R2 C2 a1 a2 l1 p1 l2 p2 w
  rwa [decide_eq_false h] at this


end Go.Proofs.YtopaakjildmjcaaGreat

/- The document's mat: Sum. -/
namespace Go.Proofs.YtopaakjildmjcaaGreat
open Go.RowKit Go.Shelf Go.Proofs.Wd
set_option linter.unusedVariables false
set_option linter.unusedSimpArgs false
set_option maxRecDepth 10000

theorem refAddTwoM (R : Nat) (a b : Int) (c : Bool) (n : Int) (bo cap : Nat) (w : World) (ha : I64 a) (hb : I64 b) (hn : 0 ≤ n ∧ n < 2305843009213693952) (h : RC R c n w) (hr : Row w (some ⟨bo, 0, none⟩) 2 (pairZ a b)) (ho : bo ≠ R) :
    Calls Tryz.prog 69 #[.pointer (some ⟨R, 0, none⟩), .slice (some ⟨bo, 0, none⟩) 2 cap] w fun e w' => e = .returned (.int .i64 (s2N a b)) ∧ RC R (c || s2C a b) (n + 2) w' ∧ Mod R w w' := by
  have := refUAdd R c n (some ⟨bo, 0, none⟩) 2 cap (pairZ a b) hn (by omega) (pairZ_I64 ha hb) w h hr (off_blk ho)
  rw [s2N_th, s2C_th] at this
  exact this
theorem refMulTwoM (R : Nat) (a b : Int) (c : Bool) (n : Int) (bo cap : Nat) (w : World) (ha : I64 a) (hb : I64 b) (hn : 0 ≤ n ∧ n < 2305843009213693952) (h : RC R c n w) (hr : Row w (some ⟨bo, 0, none⟩) 2 (pairZ a b)) (ho : bo ≠ R) :
    Calls Tryz.prog 67 #[.pointer (some ⟨R, 0, none⟩), .slice (some ⟨bo, 0, none⟩) 2 cap] w fun e w' => e = .returned (.int .i64 (m2N a b)) ∧ RC R (c || m2C a b) (n + 2) w' ∧ Mod R w w' := by
  have := refUMul R c n (some ⟨bo, 0, none⟩) 2 cap (pairZ a b) hn (by omega) (pairZ_I64 ha hb) w h hr (off_blk ho)
  rw [m2N_th, m2C_th] at this
  exact this

theorem wp_append {o : Oper} {a : Act} {w : World} {K : Act → World → Prop} {Q : Exit → Act → World → Prop} (hgd : o.guard = none) (s x : Operand) (ho : o.op = .call { callee := .builtin .append, args := #[s, x], argTypes := #[22, 22] })
    (base n : Nat) (v : Value) (Z : Nat → Int) (z : Int) (hz : Z n = z) (b : Nat) (hs : a.eval s = v) (hx : a.eval x = .slice (some ⟨b, 0, none⟩) 1 1) (hown : w.ownsRow base 3 1 v n (intL n Z)) (hc : w.cell? ⟨b, 0, none⟩ = some (.int .i64 z)) (hn : n ≤ 1000000) (hb : base ≤ w.heap.size)
    (h : ∀ v' w', Hid (w'.ownsRow base 3 1 v' (n + 1) (intL (n + 1) Z) ∧ w.grownBy w' v.ownBlock) → K (a.put o.dst v') w') : Oper.wp Tryz.prog o a w K Q := by
  have h := step_append_one (ops := #[]) (E := True) (Q := Q) hgd s x ho base n v Z z hz b hs hx hown hc hn hb h
  rwa [if_pos (by simp [Region.wanted, hgd])] at h
theorem noPanic_normal {Q : Exit → Act → World → Prop} {a : Act} {w : World} (h : Q .normal a w) : NoPanic Q .normal a w := h
/-- What lies around the list that is gathered: the boxes, the result's cells, the unit. -/
def DA (w : World) (R Ba Bb Br L : Nat) (ca cb : Array Value) (r c : Int) (v : Value) (cut : Bool) (n : Int) (wr : World) : Prop :=
  Blk Ba ca 24 wr ∧ Blk Bb cb 24 wr ∧ Blk Br #[.int .i64 0, .int .i64 0, .slice none 0 0] 24 wr ∧ Blk L #[.int .i64 r, .int .i64 c, v] 24 wr ∧ RC R cut n wr ∧ Mk R w wr ∧ (R < w.heap.size ∧ w.heap.size ≤ Ba ∧ w.heap.size ≤ Bb ∧ w.heap.size ≤ Br ∧ Ba < L ∧ Bb < L ∧ Br < L)
def DI (w : World) (R Ba Bb Br L : Nat) (ca cb : Array Value) (r c : Int) (Z : Nat → Int) (cut : Bool) (n : Int) (k : Nat) (v : Value) (wr : World) : Prop :=
  wr.ownsRow (L + 1) 3 1 v k (intL k Z) ∧ DA w R Ba Bb Br L ca cb r c v cut n wr
section
variable {w wr w' : World} {R Ba Bb Br L : Nat} {ca cb : Array Value} {r c : Int} {Z : Nat → Int} {cut cut' : Bool} {n n' : Int} {k : Nat} {v v' : Value}
theorem DA.grown (h : DA w R Ba Bb Br L ca cb r c v cut n wr) (g : Grown wr w') : DA w R Ba Bb Br L ca cb r c v cut n w' := by
  obtain ⟨h1, h2, h3, h4, h5, h6, h7⟩ := h
  exact ⟨Blk.grown h1 g, Blk.grown h2 g, Blk.grown h3 g, Blk.grown h4 g, Blk.grown h5 g, h6.grown g, h7⟩
theorem DA.mod (h : DA w R Ba Bb Br L ca cb r c v cut n wr) (m : Mod R wr w') (u : RC R cut' n' w') : DA w R Ba Bb Br L ca cb r c v cut' n' w' := by
  obtain ⟨h1, h2, h3, h4, h5, h6, h7⟩ := h
  exact ⟨Blk.keep h1 m (by omega), Blk.keep h2 m (by omega), Blk.keep h3 m (by omega), Blk.keep h4 m (by omega), u, h6.trans (Mk.of m), h7⟩
theorem DI.grown (h : DI w R Ba Bb Br L ca cb r c Z cut n k v wr) (cs : Array Value) (t : TypeId) : DI w R Ba Bb Br L ca cb r c Z cut n k v (wr.alloc (.cells cs t)) :=
  ⟨h.1.alloc _, h.2.grown ((Grown.refl _).alloc _ _)⟩
theorem DI.mod (h : DI w R Ba Bb Br L ca cb r c Z cut n k v wr) (m : Mod R wr w') (u : RC R cut' n' w') : DI w R Ba Bb Br L ca cb r c Z cut' n' k v w' :=
  ⟨owns_mod h.1 m (by have := h.2.2.2.2.2.2.2; omega), h.2.mod m u⟩
theorem DI.app {w4 : World} (h : DI w R Ba Bb Br L ca cb r c Z cut n k v wr) (hg : w4.ownsRow (L + 1) 3 1 v' (k + 1) (intL (k + 1) Z) ∧ wr.grownBy w4 v.ownBlock) :
    DA w R Ba Bb Br L ca cb r c v cut n w4 ∧ DI w R Ba Bb Br L ca cb r c Z cut n (k + 1) v' (w4.setCell ⟨L, 2, none⟩ v') := by
  obtain ⟨h1, h2, h3, h4, h5, h6, h7, h8⟩ := h
  have lt := h1.lt
  have far : ∀ j, j < L + 1 → some j ≠ v.ownBlock := fun j hj e => by have := (lt _ e.symm).1; omega
  have q : Mod L w4 (w4.setCell ⟨L, 2, none⟩ v') := (Mod.refl _ _).setCell 2 _
  have b2 := Blk.by h2 hg.2 (far _ (by omega))
  have b3 := Blk.by h3 hg.2 (far _ (by omega))
  have b4 := Blk.by h4 hg.2 (far _ (by omega))
  have b5 := Blk.by h5 hg.2 (far _ (by omega))
  have b6 : RC R cut n w4 := Blk.by h6 hg.2 (far _ (by omega))
  have m := h7.by hg.2 (fun i e => by have := (lt i e).1; omega)
  exact ⟨⟨b2, b3, b4, b5, b6, m, h8⟩, owns_mod hg.1 q (by omega), Blk.keep b2 q (by omega), Blk.keep b3 q (by omega), Blk.keep b4 q (by omega), Blk.set b5 2 _, Blk.keep b6 q (by omega), m.new q (by omega), h8⟩
end


set_option maxRecDepth 20000 in
set_option maxHeartbeats 8000000 in
theorem refSum_ok (R : Nat) (c0 : Bool) (n : Int) (r c : Int) (a1 a2 : Option Addr) (len p1 p2 : Nat) (X Y : Nat → Int) (hok : okM r c len) (hn : 0 ≤ n ∧ n < 1152921504606846976) (hX : Hid (∀ i, i < len → I64 (X i))) (hY : Hid (∀ i, i < len → I64 (Y i))) (w : World) (h : RC R c0 n w)
    (hr : Row w a1 len X) (ho : Off R len a1) (ht : Row w a2 len Y) (hp : Off R len a2) :
    Calls Tryz.prog 41 #[.pointer (some ⟨R, 0, none⟩), .agg #[.int .i64 r, .int .i64 c, .slice a1 len p1], .agg #[.int .i64 r, .int .i64 c, .slice a2 len p2]] w fun e w' => DocP r c len (fun p => s2N (X p) (Y p)) 0 (fun w' => RC R (c0 || orC (fun p => s2C (X p) (Y p)) len) (n + 2 * len) w' ∧ Mk R w w') w e w' := by
  have hlen : len ≤ 144 := by have := mul12 r c hok.1 hok.2.1; have := hok.2.2; omega
  have AL := hide (fun w => refAlike_ok r c r c a1 a2 len p1 len p2 ⟨hok, hok, rfl, rfl⟩ w)
  have lR := Blk.lt h
  obtain ⟨G, s3, x0, x1, x2⟩ := alloc3 w #[.int .i64 r, .int .i64 c, .slice a1 len p1] 24 #[.int .i64 r, .int .i64 c, .slice a2 len p2] 24 #[.int .i64 0, .int .i64 0, .slice none 0 0] 24
  have HB := hide (And.intro x0 (And.intro x1 x2))
  have HG := hide (And.intro G (And.intro s3 lR))
  have HU := hide h
  have HR := hide hr
  have HO := hide ho
  have HT := hide ht
  have HP := hide hp
  have HN := hide hn
  clear h hr ho ht hp hn hok G s3 x0 x1 x2
  obtain ⟨Z, hZ⟩ : ∃ Z, Z = fun p => s2N (X p) (Y p) := ⟨_, rfl⟩
  rw [← hZ]
  have EZ : Hid (∀ i, Z i = s2N (X i) (Y i)) := fun i => by rw [hZ]
  clear hZ
  have lR' := hide lR
  clear lR
  go_enter Tryz.func41, Tryz.ntmps41
  go_wp2_with fail
  generalize (((w.alloc (.cells #[.int .i64 r, .int .i64 c, .slice a1 len p1] 24)).alloc (.cells #[.int .i64 r, .int .i64 c, .slice a2 len p2] 24)).alloc (.cells #[.int .i64 0, .int .i64 0, .slice none 0 0] 24)) = w1 at *
  refine (unhide AL _).mono ?_
  rintro e w2 ⟨rfl, g2⟩
  have B0 := Blk.grown (unhide HB).1 g2
  have B1 := Blk.grown (unhide HB).2.1 g2
  have y0 : w2.cell? ⟨w.heap.size, 0, none⟩ = some (.int .i64 r) := Blk.cell B0 0
  have y1 : w2.cell? ⟨w.heap.size, 1, none⟩ = some (.int .i64 c) := Blk.cell B0 1
  have ST : Hid (DI w R w.heap.size (w.heap.size + 1) (w.heap.size + 1 + 1) w2.heap.size #[.int .i64 r, .int .i64 c, .slice a1 len p1] #[.int .i64 r, .int .i64 c, .slice a2 len p2] r c Z (c0 || orC (fun p => s2C (X p) (Y p)) 0) (n + 2 * (0 : Nat)) 0 (.slice none 0 0) (w2.alloc (.cells #[.int .i64 r, .int .i64 c, .slice none 0 0] 24))) := by
    have G3 : Grown w2 (w2.alloc (.cells #[.int .i64 r, .int .i64 c, .slice none 0 0] 24)) := (Grown.refl _).alloc _ _
    have gg := gtrans (unhide HG).1 g2
    have s := (unhide HG).2.1
    have s2 := g2.2.2
    refine ⟨World.ownsRow_nil _ _ _ _, Blk.grown B0 G3, Blk.grown B1 G3, Blk.grown (Blk.grown (unhide HB).2.2 g2) G3, Blk.new w2 _ _, ?_, (Mk.of (Mod.of gg)).grown G3, unhide lR', Nat.le_refl _, by omega, by omega, by omega, by omega, by omega⟩
    show RC _ (c0 || false) (n + 2 * 0) _
    rw [Bool.or_false, Int.mul_zero, Int.add_zero]
    exact Blk.grown (Blk.grown (unhide HU) gg) G3
  clear B0 B1 AL HU HB HG g2
  go_wp2_with fail
  generalize w2.alloc (.cells #[.int .i64 r, .int .i64 c, .slice none 0 0] 24) = w3 at *
  generalize w2.heap.size = L at *
  clear y0 y1
  go_loopw [9] (fun i wr => ∃ k : Nat, k ≤ len ∧ i = .int .i64 k ∧ Hid (∃ v, DI w R w.heap.size (w.heap.size + 1) (w.heap.size + 1 + 1) L #[.int .i64 r, .int .i64 c, .slice a1 len p1] #[.int .i64 r, .int .i64 c, .slice a2 len p2] r c Z (c0 || orC (fun p => s2C (X p) (Y p)) k) (n + 2 * k) k v wr)) (fun i _ => len - (intOf i).toNat)
  case atStart => exact ⟨0, Nat.zero_le _, rfl, _, unhide ST⟩
  case round =>
    obtain ⟨k, hk, rfl, HI⟩ := hrel
    clear ST
    by_cases hlt : k < len
    · obtain ⟨v, hI⟩ := unhide HI
      obtain ⟨b1, o1, rfl, hw1⟩ := (unhide HR).at hlt
      obtain ⟨b2, o2, rfl, hw2⟩ := (unhide HT).at hlt
      obtain ⟨x, ex⟩ : ∃ x, X k = x := ⟨_, rfl⟩
      obtain ⟨y, ey⟩ : ∃ y, Y k = y := ⟨_, rfl⟩
      obtain ⟨z, ez⟩ : ∃ z, s2N x y = z := ⟨_, rfl⟩
      rw [ex] at hw1
      rw [ey] at hw2
      have RA := hide (fun b cap W h hr ho => refAddTwoM R x y (c0 || orC (fun p => s2C (X p) (Y p)) k) (n + 2 * k) b cap W (by rw [← ex]; exact unhide hX k hlt) (by rw [← ey]; exact unhide hY k hlt) (by have := unhide HN; omega) h hr ho)
      rw [ez] at RA
      have EK : Hid (Z k = z ∧ (c0 || orC (fun p => s2C (X p) (Y p)) (k + 1)) = (c0 || orC (fun p => s2C (X p) (Y p)) k || s2C x y) ∧ n + 2 * ((k + 1 : Nat) : Int) = n + 2 * k + 2) := by
        refine ⟨by rw [unhide EZ, ex, ey, ez], ?_, by omega⟩
        show (c0 || (orC (fun p => s2C (X p) (Y p)) k || s2C (X k) (Y k))) = _
        rw [ex, ey, Bool.or_assoc]
      have CW : Hid (∀ wx v cut n, DA w R w.heap.size (w.heap.size + 1) (w.heap.size + 1 + 1) L #[.int .i64 r, .int .i64 c, .slice (some ⟨b1, o1, none⟩) len p1] #[.int .i64 r, .int .i64 c, .slice (some ⟨b2, o2, none⟩) len p2] r c v cut n wx → wx.cell? ⟨b1, o1 + k, none⟩ = some (.int .i64 x) ∧ wx.cell? ⟨b2, o2 + k, none⟩ = some (.int .i64 y) ∧ wx.cell? ⟨w.heap.size, 2, none⟩ = some (.slice (some ⟨b1, o1, none⟩) len p1) ∧ wx.cell? ⟨w.heap.size + 1, 2, none⟩ = some (.slice (some ⟨b2, o2, none⟩) len p2) ∧ wx.cell? ⟨L, 2, none⟩ = some v) := fun wx v cut n m => ⟨m.2.2.2.2.2.1.cell hw1 (unhide HO (by omega) _ rfl), m.2.2.2.2.2.1.cell hw2 (unhide HP (by omega) _ rfl), Blk.cell m.1 2, Blk.cell m.2.1 2, Blk.cell m.2.2.2.1 2⟩
      obtain ⟨hc1, hc2, hc3, hc4, hc5⟩ := unhide CW wr _ _ _ hI.2
      have hz1 : b1 < wr.heap.size := heap_gt hc1
      have hz2 : b2 < wr.heap.size := heap_gt hc2
      have hz3 : w.heap.size < wr.heap.size := heap_gt hc3
      have hz4 : w.heap.size + 1 < wr.heap.size := heap_gt hc4
      have hz5 : L < wr.heap.size := heap_gt hc5
      have i0 : (0 : Int) ≤ (k : Int) := by omega
      have i1 : (k : Int) < (len : Int) := by omega
      have hk1 : k ≤ 1000000 := by omega
      have A0 : Hid (DI w R w.heap.size (w.heap.size + 1) (w.heap.size + 1 + 1) L #[.int .i64 r, .int .i64 c, .slice (some ⟨b1, o1, none⟩) len p1] #[.int .i64 r, .int .i64 c, .slice (some ⟨b2, o2, none⟩) len p2] r c Z (c0 || orC (fun p => s2C (X p) (Y p)) k) (n + 2 * k) k v (wr.alloc (.cells #[.int .i64 x, .int .i64 y] 3)).drew ∧ Row (wr.alloc (.cells #[.int .i64 x, .int .i64 y] 3)).drew (some ⟨wr.heap.size, 0, none⟩) 2 (pairZ x y) ∧ wr.heap.size ≠ R) := ⟨hI.grown _ _, pair_rowM wr x y, by have := hI.2.2.2.2.2.1.lt; omega⟩
      clear ex ey ez HI hI hw1 hw2
      go_wp2
      refine region_G (fun w' => w'.cell? ⟨b1, o1 + k, none⟩ = some (.int .i64 x) ∧ w'.cell? ⟨b2, o2 + k, none⟩ = some (.int .i64 y) ∧ w'.cell? ⟨w.heap.size, 2, none⟩ = some (.slice (some ⟨b1, o1, none⟩) len p1) ∧ w'.cell? ⟨w.heap.size + 1, 2, none⟩ = some (.slice (some ⟨b2, o2, none⟩) len p2) ∧ w'.cell? ⟨L, 2, none⟩ = some v) 18 (by kernel_rfl) ⟨hc1, hc2, hc3, hc4, hc5⟩ (fun hHeld => ?_)
      refine take_G (i := 0) (d := 27) (v := .pointer (some ⟨L, 2, none⟩)) rfl rfl (by kernel_rfl) (by kernel_rfl) (by kernel_rfl) (by kernel_rfl) (by kernel_rfl) (Or.inl ⟨by rfl, ?_⟩) (by assumption) ?_
      · intro w hSw
        (try dsimp only at hSw)
        go_simp
      (try simp only [Act.put, List.setIfInBounds_toArray, List.set_cons_zero, List.set_cons_succ])
      refine take_G (i := 1) (d := 28) (v := v) rfl rfl (by kernel_rfl) (by kernel_rfl) (by kernel_rfl) (by kernel_rfl) (by kernel_rfl) (Or.inl ⟨by rfl, ?_⟩) (by assumption) ?_
      · intro w hSw
        (try dsimp only at hSw)
        go_simp
      (try simp only [Act.put, List.setIfInBounds_toArray, List.set_cons_zero, List.set_cons_succ])
      refine take_G (i := 2) (d := 29) (v := .pointer (some ⟨R, 0, none⟩)) rfl rfl (by kernel_rfl) (by kernel_rfl) (by kernel_rfl) (by kernel_rfl) (by kernel_rfl) (Or.inl ⟨by rfl, ?_⟩) (by assumption) ?_
      · intro w hSw
        (try dsimp only at hSw)
        go_simp
      (try simp only [Act.put, List.setIfInBounds_toArray, List.set_cons_zero, List.set_cons_succ])
      refine take_G (i := 3) (d := 30) (v := .pointer (some ⟨w.heap.size, 2, none⟩)) rfl rfl (by kernel_rfl) (by kernel_rfl) (by kernel_rfl) (by kernel_rfl) (by kernel_rfl) (Or.inl ⟨by rfl, ?_⟩) (by assumption) ?_
      · intro w hSw
        (try dsimp only at hSw)
        go_simp
      (try simp only [Act.put, List.setIfInBounds_toArray, List.set_cons_zero, List.set_cons_succ])
      refine take_G (i := 4) (d := 31) (v := .slice (some ⟨b1, o1, none⟩) len p1) rfl rfl (by kernel_rfl) (by kernel_rfl) (by kernel_rfl) (by kernel_rfl) (by kernel_rfl) (Or.inl ⟨by rfl, ?_⟩) (by assumption) ?_
      · intro w hSw
        (try dsimp only at hSw)
        go_simp
      (try simp only [Act.put, List.setIfInBounds_toArray, List.set_cons_zero, List.set_cons_succ])
      refine take_G (i := 5) (d := 32) (v := .int .i64 (k : Int)) rfl rfl (by kernel_rfl) (by kernel_rfl) (by kernel_rfl) (by kernel_rfl) (by kernel_rfl) (Or.inl ⟨by rfl, ?_⟩) (by assumption) ?_
      · intro w hSw
        (try dsimp only at hSw)
        go_simp
      (try simp only [Act.put, List.setIfInBounds_toArray, List.set_cons_zero, List.set_cons_succ])
      refine take_G (i := 6) (d := 33) (v := .pointer (some ⟨b1, o1 + k, none⟩)) rfl rfl (by kernel_rfl) (by kernel_rfl) (by kernel_rfl) (by kernel_rfl) (by kernel_rfl) (Or.inl ⟨by rfl, ?_⟩) (by assumption) ?_
      · intro w hSw
        (try dsimp only at hSw)
        go_simp
      (try simp only [Act.put, List.setIfInBounds_toArray, List.set_cons_zero, List.set_cons_succ])
      refine take_G (i := 7) (d := 34) (v := .int .i64 x) rfl rfl (by kernel_rfl) (by kernel_rfl) (by kernel_rfl) (by kernel_rfl) (by kernel_rfl) (Or.inl ⟨by rfl, ?_⟩) (by assumption) ?_
      · intro w hSw
        (try dsimp only at hSw)
        go_simp
      (try simp only [Act.put, List.setIfInBounds_toArray, List.set_cons_zero, List.set_cons_succ])
      refine take_G (i := 8) (d := 35) (v := .pointer (some ⟨w.heap.size + 1, 2, none⟩)) rfl rfl (by kernel_rfl) (by kernel_rfl) (by kernel_rfl) (by kernel_rfl) (by kernel_rfl) (Or.inl ⟨by rfl, ?_⟩) (by assumption) ?_
      · intro w hSw
        (try dsimp only at hSw)
        go_simp
      (try simp only [Act.put, List.setIfInBounds_toArray, List.set_cons_zero, List.set_cons_succ])
      refine take_G (i := 9) (d := 36) (v := .slice (some ⟨b2, o2, none⟩) len p2) rfl rfl (by kernel_rfl) (by kernel_rfl) (by kernel_rfl) (by kernel_rfl) (by kernel_rfl) (Or.inl ⟨by rfl, ?_⟩) (by assumption) ?_
      · intro w hSw
        (try dsimp only at hSw)
        go_simp
      (try simp only [Act.put, List.setIfInBounds_toArray, List.set_cons_zero, List.set_cons_succ])
      refine take_G (i := 10) (d := 37) (v := .int .i64 (k : Int)) rfl rfl (by kernel_rfl) (by kernel_rfl) (by kernel_rfl) (by kernel_rfl) (by kernel_rfl) (Or.inl ⟨by rfl, ?_⟩) (by assumption) ?_
      · intro w hSw
        (try dsimp only at hSw)
        go_simp
      (try simp only [Act.put, List.setIfInBounds_toArray, List.set_cons_zero, List.set_cons_succ])
      refine take_G (i := 11) (d := 38) (v := .pointer (some ⟨b2, o2 + k, none⟩)) rfl rfl (by kernel_rfl) (by kernel_rfl) (by kernel_rfl) (by kernel_rfl) (by kernel_rfl) (Or.inl ⟨by rfl, ?_⟩) (by assumption) ?_
      · intro w hSw
        (try dsimp only at hSw)
        go_simp
      (try simp only [Act.put, List.setIfInBounds_toArray, List.set_cons_zero, List.set_cons_succ])
      refine take_G (i := 12) (d := 39) (v := .int .i64 y) rfl rfl (by kernel_rfl) (by kernel_rfl) (by kernel_rfl) (by kernel_rfl) (by kernel_rfl) (Or.inl ⟨by rfl, ?_⟩) (by assumption) ?_
      · intro w hSw
        (try dsimp only at hSw)
        go_simp
      (try simp only [Act.put, List.setIfInBounds_toArray, List.set_cons_zero, List.set_cons_succ])
      refine step_G (i := 13) (by kernel_rfl) (fun K hK => ?_)
      refine wpOp_of rfl rfl ?_
      unfold Oper.wp
      go_simp
      refine hK _ _ (fun _ => ⟨by simp [go_sem, *], by simp [go_sem, *], by simp [go_sem, *], by simp [go_sem, *], by simp [go_sem, *]⟩) ?_
      clear hK K
      (try simp only [Act.put, List.setIfInBounds_toArray, List.set_cons_zero, List.set_cons_succ])
      refine step_G (i := 14) (by kernel_rfl) (fun K hK => ?_)
      refine wpOp_of rfl rfl ?_
      unfold Oper.wp
      go_simp
      refine (unhide RA _ _ _ (unhide A0).1.2.2.2.2.2.1 (unhide A0).2.1 (unhide A0).2.2).mono ?_
      rintro e w4 ⟨rfl, h4, m4⟩
      have I4 := (unhide A0).1.mod m4 h4
      obtain ⟨c21, c22, c23, c24, c25⟩ := unhide CW w4 _ _ _ I4.2
      have z21 := heap_gt c21
      have z22 := heap_gt c22
      have z23 := heap_gt c23
      have z24 := heap_gt c24
      have z25 := heap_gt c25
      have A2 := hide (I4.grown #[.int .i64 z] 3)
      clear h4 m4 A0 I4 hHeld hc1 hc2 hc3 hc4 hc5 hz1 hz2 hz3 hz4 hz5
      refine hK _ _ (fun _ => ⟨c21, c22, c23, c24, c25⟩) ?_
      clear hK K
      (try simp only [Act.put, List.setIfInBounds_toArray, List.set_cons_zero, List.set_cons_succ])
      refine step_G (i := 15) (by kernel_rfl) (fun K hK => ?_)
      refine wpOp_of rfl rfl ?_
      unfold Oper.wp
      go_simp
      refine hK _ _ (fun _ => ⟨by simp [go_sem, *], by simp [go_sem, *], by simp [go_sem, *], by simp [go_sem, *], by simp [go_sem, *]⟩) ?_
      clear hK K
      (try simp only [Act.put, List.setIfInBounds_toArray, List.set_cons_zero, List.set_cons_succ])
      refine step_G (i := 16) (by kernel_rfl) (fun K hK => ?_)
      refine wpOp_of rfl rfl ?_
      refine wp_append rfl (.tmp 28) (.tmp 42) rfl (L + 1) k v Z z (unhide EK).1 w4.heap.size (by first | rfl | simp [Act.eval, Act.put]) (by first | rfl | simp [Act.eval, Act.put]) (unhide A2).1 (Blk.cell (Blk.new w4 _ _) 0) hk1 (by have := Blk.lt (unhide A2).2.2.2.2.1; omega) ?_
      intro v' w5 hg5
      obtain ⟨g', cap', rfl⟩ := ownsRow_succ (unhide hg5).1
      have P := DI.app (unhide A2) (unhide hg5)
      obtain ⟨d1, d2, d3, d4, d5⟩ := unhide CW w5 _ _ _ P.1
      have q3 := Blk.free P.1.2.2.2.1 2
      have HP5 := hide P.2
      clear P hg5 A2 c21 c22 c23 c24 c25 z21 z22 z23 z24 z25
      refine hK _ _ (fun _ => ⟨d1, d2, d3, d4, d5⟩) ?_
      clear hK K
      (try simp only [Act.put, List.setIfInBounds_toArray, List.set_cons_zero, List.set_cons_succ])
      have hHeld := (And.intro d1 (And.intro d2 (And.intro d3 (And.intro d4 d5))))
      refine take_G (i := 17) (d := 44) (v := .pointer (some ⟨L, 2, none⟩)) rfl rfl (by kernel_rfl) (by kernel_rfl) (by kernel_rfl) (by kernel_rfl) (by kernel_rfl) (Or.inl ⟨by rfl, ?_⟩) (by assumption) ?_
      · intro w hSw
        (try dsimp only at hSw)
        go_simp
      (try simp only [Act.put, List.setIfInBounds_toArray, List.set_cons_zero, List.set_cons_succ])
      refine step_G (i := 18) (by kernel_rfl) (fun K hK => ?_)
      refine wpOp_of rfl rfl ?_
      unfold Oper.wp
      go_simp
      refine hK _ _ (fun h => absurd rfl h) ?_
      clear hK K
      (try simp only [Act.put, List.setIfInBounds_toArray, List.set_cons_zero, List.set_cons_succ])
      refine done_G (by kernel_rfl) ?_
      have R5 : Hid (∃ v, DI w R w.heap.size (w.heap.size + 1) (w.heap.size + 1 + 1) L #[.int .i64 r, .int .i64 c, .slice (some ⟨b1, o1, none⟩) len p1] #[.int .i64 r, .int .i64 c, .slice (some ⟨b2, o2, none⟩) len p2] r c Z (c0 || orC (fun p => s2C (X p) (Y p)) (k + 1)) (n + 2 * ((k + 1 : Nat) : Int)) (k + 1) v (w5.setCell ⟨L, 2, none⟩ (.slice (some ⟨g', 0, none⟩) (k + 1) cap'))) := by
        show ∃ v, _
        rw [(unhide EK).2.1, (unhide EK).2.2]
        exact ⟨_, unhide HP5⟩
      clear HP5 EK RA CW d1 d2 d3 d4 d5 q3 hHeld
      refine noPanic_normal ?_
      go_wp2
      go_roundw
      case rel => exact ⟨k + 1, by omega, by go_num, R5⟩
      case measure => simp [intOf]; omega
    · obtain rfl : k = len := by omega
      obtain ⟨v, h0, b0, b1, b2, hM, hu, hm, hl⟩ := unhide HI
      obtain ⟨ao2, cap2, rfl, h1, h3, h4⟩ := owns_rowC h0
      have y0 : wr.cell? ⟨L, 0, none⟩ = some (.int .i64 r) := Blk.cell hM 0
      have y1 : wr.cell? ⟨L, 1, none⟩ = some (.int .i64 c) := Blk.cell hM 1
      have y2 : wr.cell? ⟨L, 2, none⟩ = some (.slice ao2 k cap2) := Blk.cell hM 2
      have t2 : wr.cell? ⟨w.heap.size, 2, none⟩ = some (.slice a1 k p1) := Blk.cell b0 2
      have e0 : wr.cell? ⟨w.heap.size + 1 + 1, 0, none⟩ = some (.int .i64 0) := Blk.cell b2 0
      have e1 : wr.cell? ⟨w.heap.size + 1 + 1, 1, none⟩ = some (.int .i64 0) := Blk.cell b2 1
      have e2 : wr.cell? ⟨w.heap.size + 1 + 1, 2, none⟩ = some (.slice none 0 0) := Blk.cell b2 2
      have f := Blk.free b2
      have R6 := hide (And.intro b2 (And.intro h1 (And.intro h3 (And.intro h4 (And.intro hu (And.intro hm hl))))))
      clear h0 b0 b1 b2 hM hu hm hl h1 h3 h4 HI
      go_wp2
      obtain ⟨b2, h1, h3, h4, hu, hm, hl⟩ := unhide R6
      have P := putM b2 (.int .i64 r) (.int .i64 c) (.slice ao2 k cap2)
      generalize (((wr.setCell ⟨w.heap.size + 1 + 1, 0, none⟩ (.int .i64 r)).setCell ⟨w.heap.size + 1 + 1, 1, none⟩ (.int .i64 c)).setCell ⟨w.heap.size + 1 + 1, 2, none⟩ (.slice ao2 k cap2)) = wE at *
      have c0 : wE.cell? ⟨w.heap.size + 1 + 1, 0, none⟩ = some (.int .i64 r) := Blk.cell P.1 0
      have c1 : wE.cell? ⟨w.heap.size + 1 + 1, 1, none⟩ = some (.int .i64 c) := Blk.cell P.1 1
      have c2 : wE.cell? ⟨w.heap.size + 1 + 1, 2, none⟩ = some (.slice ao2 k cap2) := Blk.cell P.1 2
      refine bodyPost_ret (v := .tuple #[.agg #[.int .i64 r, .int .i64 c, .slice ao2 k cap2], .int .i64 0]) (by simp [results, Tryz.results41, go_sem, c0, c1, c2]) rfl ?_
      exact ⟨_, _, rfl, h1, h3.mod P.2 (h4 _ (by omega)), fun U hU => h4 U (by omega), Blk.keep hu P.2 (by omega), hm.new P.2 (by omega)⟩


set_option maxHeartbeats 2000000 in
theorem refSum_bad (R : Nat) (R1 C1 R2 C2 : Int) (a1 a2 : Option Addr) (l1 p1 l2 p2 : Nat) (Z : Nat → Int) (hb : ¬ (okM R1 C1 l1 ∧ okM R2 C2 l2 ∧ R1 = R2 ∧ C1 = C2)) (c0 : Bool) (n : Int) (w : World) (h : RC R c0 n w) :
    Calls Tryz.prog 41 #[.pointer (some ⟨R, 0, none⟩), .agg #[.int .i64 R1, .int .i64 C1, .slice a1 l1 p1], .agg #[.int .i64 R2, .int .i64 C2, .slice a2 l2 p2]] w fun e w' => DocP 0 0 0 Z 3 (fun w' => RC R c0 n w' ∧ Mk R w w') w e w' := by
  have AL := hide (fun w => refAlike_bad R1 C1 R2 C2 a1 a2 l1 p1 l2 p2 hb w)
  obtain ⟨G, s3, x0, x1, x2⟩ := alloc3 w #[.int .i64 R1, .int .i64 C1, .slice a1 l1 p1] 24 #[.int .i64 R2, .int .i64 C2, .slice a2 l2 p2] 24 #[.int .i64 0, .int .i64 0, .slice none 0 0] 24
  have lR := Blk.lt h
  have HB := hide x2
  have HG := hide (And.intro G (And.intro h lR))
  clear hb h lR G s3 x0 x1 x2
  go_enter Tryz.func41, Tryz.ntmps41
  go_wp2_with fail
  generalize (((w.alloc (.cells #[.int .i64 R1, .int .i64 C1, .slice a1 l1 p1] 24)).alloc (.cells #[.int .i64 R2, .int .i64 C2, .slice a2 l2 p2] 24)).alloc (.cells #[.int .i64 0, .int .i64 0, .slice none 0 0] 24)) = w1 at *
  refine (unhide AL _).mono ?_
  rintro e w2 ⟨rfl, g2⟩
  have b2 := Blk.grown (unhide HB) g2
  have e0 : w2.cell? ⟨w.heap.size + 1 + 1, 0, none⟩ = some (.int .i64 0) := Blk.cell b2 0
  have e1 : w2.cell? ⟨w.heap.size + 1 + 1, 1, none⟩ = some (.int .i64 0) := Blk.cell b2 1
  have e2 : w2.cell? ⟨w.heap.size + 1 + 1, 2, none⟩ = some (.slice none 0 0) := Blk.cell b2 2
  have f := Blk.free b2
  have R6 := hide (And.intro b2 g2)
  clear b2 g2 AL HB
  go_wp2
  obtain ⟨b2, g2⟩ := unhide R6
  have P := putM b2 (.int .i64 0) (.int .i64 0) (.slice none 0 0)
  generalize (((w2.setCell ⟨w.heap.size + 1 + 1, 0, none⟩ (.int .i64 0)).setCell ⟨w.heap.size + 1 + 1, 1, none⟩ (.int .i64 0)).setCell ⟨w.heap.size + 1 + 1, 2, none⟩ (.slice none 0 0)) = wE at *
  have c0 : wE.cell? ⟨w.heap.size + 1 + 1, 0, none⟩ = some (.int .i64 0) := Blk.cell P.1 0
  have c1 : wE.cell? ⟨w.heap.size + 1 + 1, 1, none⟩ = some (.int .i64 0) := Blk.cell P.1 1
  have c2 : wE.cell? ⟨w.heap.size + 1 + 1, 2, none⟩ = some (.slice none 0 0) := Blk.cell P.1 2
  refine bodyPost_ret (v := .tuple #[.agg #[.int .i64 0, .int .i64 0, .slice none 0 0], .int .i64 3]) (by simp [results, Tryz.results41, go_sem, c0, c1, c2]) rfl ?_
  obtain ⟨G, h, lR⟩ := unhide HG
  have gg := gtrans G g2
  exact ⟨_, _, rfl, Nat.le_refl _, Or.inl rfl, fun U hU hl => absurd hl (Nat.lt_irrefl _), Blk.keep (Blk.grown h gg) P.2 (by omega), (Mk.of (Mod.of gg)).new P.2 (by omega)⟩


set_option maxRecDepth 20000 in
set_option maxHeartbeats 8000000 in
theorem refScale_ok (R : Nat) (c0 : Bool) (n : Int) (r c s : Int) (hs : I64 s) (a1 : Option Addr) (len p1 : Nat) (X : Nat → Int) (hok : okM r c len) (hn : 0 ≤ n ∧ n < 1152921504606846976) (hX : Hid (∀ i, i < len → I64 (X i))) (w : World) (h : RC R c0 n w)
    (hr : Row w a1 len X) (ho : Off R len a1) :
    Calls Tryz.prog 40 #[.pointer (some ⟨R, 0, none⟩), .agg #[.int .i64 r, .int .i64 c, .slice a1 len p1], .int .i64 s] w fun e w' => DocP r c len (fun p => m2N (X p) s) 0 (fun w' => RC R (c0 || orC (fun p => m2C (X p) s) len) (n + 2 * len) w' ∧ Mk R w w') w e w' := by
  have hlen : len ≤ 144 := by have := mul12 r c hok.1 hok.2.1; have := hok.2.2; omega
  have AL := hide (fun w => refMCheck r c a1 len p1 w)
  rw [chk_ok hok] at AL
  have lR := Blk.lt h
  have HB : Hid (Blk w.heap.size #[.int .i64 r, .int .i64 c, .slice a1 len p1] 24 ((w.alloc (.cells #[.int .i64 r, .int .i64 c, .slice a1 len p1] 24)).alloc (.cells #[.int .i64 0, .int .i64 0, .slice none 0 0] 24)) ∧ Blk (w.heap.size + 1) #[.int .i64 0, .int .i64 0, .slice none 0 0] 24 ((w.alloc (.cells #[.int .i64 r, .int .i64 c, .slice a1 len p1] 24)).alloc (.cells #[.int .i64 0, .int .i64 0, .slice none 0 0] 24))) := ⟨Blk.grown (Blk.new w _ _) ((Grown.refl _).alloc _ _), blk_new2 w _ _ _⟩
  have HG : Hid (Grown w ((w.alloc (.cells #[.int .i64 r, .int .i64 c, .slice a1 len p1] 24)).alloc (.cells #[.int .i64 0, .int .i64 0, .slice none 0 0] 24)) ∧ w.heap.size + 1 < ((w.alloc (.cells #[.int .i64 r, .int .i64 c, .slice a1 len p1] 24)).alloc (.cells #[.int .i64 0, .int .i64 0, .slice none 0 0] 24)).heap.size ∧ R < w.heap.size) := ⟨((Grown.refl _).alloc _ _).alloc _ _, by simp, lR⟩
  have HU := hide h
  have HR := hide hr
  have HO := hide ho
  have HN := hide hn
  have HS := hide hs
  clear h hr ho hn hok hs
  obtain ⟨Z, hZ⟩ : ∃ Z, Z = fun p => m2N (X p) s := ⟨_, rfl⟩
  rw [← hZ]
  have EZ : Hid (∀ i, Z i = m2N (X i) s) := fun i => by rw [hZ]
  clear hZ
  have lR' := hide lR
  clear lR
  go_enter Tryz.func40, Tryz.ntmps40
  go_wp2_with fail
  generalize ((w.alloc (.cells #[.int .i64 r, .int .i64 c, .slice a1 len p1] 24)).alloc (.cells #[.int .i64 0, .int .i64 0, .slice none 0 0] 24)) = w1 at *
  refine (unhide AL _).mono ?_
  rintro e w2 ⟨rfl, g2⟩
  have B0 := Blk.grown (unhide HB).1 g2
  have y0 : w2.cell? ⟨w.heap.size, 0, none⟩ = some (.int .i64 r) := Blk.cell B0 0
  have y1 : w2.cell? ⟨w.heap.size, 1, none⟩ = some (.int .i64 c) := Blk.cell B0 1
  have ST : Hid (DI w R w.heap.size w.heap.size (w.heap.size + 1) w2.heap.size #[.int .i64 r, .int .i64 c, .slice a1 len p1] #[.int .i64 r, .int .i64 c, .slice a1 len p1] r c Z (c0 || orC (fun p => m2C (X p) s) 0) (n + 2 * (0 : Nat)) 0 (.slice none 0 0) (w2.alloc (.cells #[.int .i64 r, .int .i64 c, .slice none 0 0] 24))) := by
    have G3 : Grown w2 (w2.alloc (.cells #[.int .i64 r, .int .i64 c, .slice none 0 0] 24)) := (Grown.refl _).alloc _ _
    have gg := gtrans (unhide HG).1 g2
    have s := (unhide HG).2.1
    have s2 := g2.2.2
    refine ⟨World.ownsRow_nil _ _ _ _, Blk.grown B0 G3, Blk.grown B0 G3, Blk.grown (Blk.grown (unhide HB).2 g2) G3, Blk.new w2 _ _, ?_, (Mk.of (Mod.of gg)).grown G3, unhide lR', Nat.le_refl _, by omega, by omega, by omega, by omega, by omega⟩
    show RC _ (c0 || false) (n + 2 * 0) _
    rw [Bool.or_false, Int.mul_zero, Int.add_zero]
    exact Blk.grown (Blk.grown (unhide HU) gg) G3
  clear B0 AL HU HB HG g2
  go_wp2_with fail
  generalize w2.alloc (.cells #[.int .i64 r, .int .i64 c, .slice none 0 0] 24) = w3 at *
  generalize w2.heap.size = L at *
  clear y0 y1
  go_loopw [9] (fun i wr => ∃ k : Nat, k ≤ len ∧ i = .int .i64 k ∧ Hid (∃ v, DI w R w.heap.size w.heap.size (w.heap.size + 1) L #[.int .i64 r, .int .i64 c, .slice a1 len p1] #[.int .i64 r, .int .i64 c, .slice a1 len p1] r c Z (c0 || orC (fun p => m2C (X p) s) k) (n + 2 * k) k v wr)) (fun i _ => len - (intOf i).toNat)
  case atStart => exact ⟨0, Nat.zero_le _, rfl, _, unhide ST⟩
  case round =>
    obtain ⟨k, hk, rfl, HI⟩ := hrel
    clear ST
    by_cases hlt : k < len
    · obtain ⟨v, hI⟩ := unhide HI
      obtain ⟨b1, o1, rfl, hw1⟩ := (unhide HR).at hlt
      obtain ⟨x, ex⟩ : ∃ x, X k = x := ⟨_, rfl⟩
      obtain ⟨z, ez⟩ : ∃ z, m2N x s = z := ⟨_, rfl⟩
      rw [ex] at hw1
      have RA := hide (fun b cap W h hr ho => refMulTwoM R x s (c0 || orC (fun p => m2C (X p) s) k) (n + 2 * k) b cap W (by rw [← ex]; exact unhide hX k hlt) (unhide HS) (by have := unhide HN; omega) h hr ho)
      rw [ez] at RA
      have EK : Hid (Z k = z ∧ (c0 || orC (fun p => m2C (X p) s) (k + 1)) = (c0 || orC (fun p => m2C (X p) s) k || m2C x s) ∧ n + 2 * ((k + 1 : Nat) : Int) = n + 2 * k + 2) := by
        refine ⟨by rw [unhide EZ, ex, ez], ?_, by omega⟩
        show (c0 || (orC (fun p => m2C (X p) s) k || m2C (X k) s)) = _
        rw [ex, Bool.or_assoc]
      have CW : Hid (∀ wx v cut n, DA w R w.heap.size w.heap.size (w.heap.size + 1) L #[.int .i64 r, .int .i64 c, .slice (some ⟨b1, o1, none⟩) len p1] #[.int .i64 r, .int .i64 c, .slice (some ⟨b1, o1, none⟩) len p1] r c v cut n wx → wx.cell? ⟨b1, o1 + k, none⟩ = some (.int .i64 x) ∧ wx.cell? ⟨w.heap.size, 2, none⟩ = some (.slice (some ⟨b1, o1, none⟩) len p1) ∧ wx.cell? ⟨L, 2, none⟩ = some v) := fun wx v cut n m => ⟨m.2.2.2.2.2.1.cell hw1 (unhide HO (by omega) _ rfl), Blk.cell m.1 2, Blk.cell m.2.2.2.1 2⟩
      obtain ⟨hc1, hc2, hc3⟩ := unhide CW wr _ _ _ hI.2
      have hz1 : b1 < wr.heap.size := heap_gt hc1
      have hz2 : w.heap.size < wr.heap.size := heap_gt hc2
      have hz3 : L < wr.heap.size := heap_gt hc3
      have i0 : (0 : Int) ≤ (k : Int) := by omega
      have i1 : (k : Int) < (len : Int) := by omega
      have hk1 : k ≤ 1000000 := by omega
      have A0 : Hid (DI w R w.heap.size w.heap.size (w.heap.size + 1) L #[.int .i64 r, .int .i64 c, .slice (some ⟨b1, o1, none⟩) len p1] #[.int .i64 r, .int .i64 c, .slice (some ⟨b1, o1, none⟩) len p1] r c Z (c0 || orC (fun p => m2C (X p) s) k) (n + 2 * k) k v (wr.alloc (.cells #[.int .i64 x, .int .i64 s] 3)).drew ∧ Row (wr.alloc (.cells #[.int .i64 x, .int .i64 s] 3)).drew (some ⟨wr.heap.size, 0, none⟩) 2 (pairZ x s) ∧ wr.heap.size ≠ R) := ⟨hI.grown _ _, pair_rowM wr x s, by have := hI.2.2.2.2.2.1.lt; omega⟩
      clear ex ez HI hI hw1
      go_wp2
      refine region_G (fun w' => w'.cell? ⟨b1, o1 + k, none⟩ = some (.int .i64 x) ∧ w'.cell? ⟨w.heap.size, 2, none⟩ = some (.slice (some ⟨b1, o1, none⟩) len p1) ∧ w'.cell? ⟨L, 2, none⟩ = some v) 14 (by kernel_rfl) ⟨hc1, hc2, hc3⟩ (fun hHeld => ?_)
      refine take_G (i := 0) (d := 26) (v := .pointer (some ⟨L, 2, none⟩)) rfl rfl (by kernel_rfl) (by kernel_rfl) (by kernel_rfl) (by kernel_rfl) (by kernel_rfl) (Or.inl ⟨by rfl, ?_⟩) (by assumption) ?_
      · intro w hSw
        (try dsimp only at hSw)
        go_simp
      (try simp only [Act.put, List.setIfInBounds_toArray, List.set_cons_zero, List.set_cons_succ])
      refine take_G (i := 1) (d := 27) (v := v) rfl rfl (by kernel_rfl) (by kernel_rfl) (by kernel_rfl) (by kernel_rfl) (by kernel_rfl) (Or.inl ⟨by rfl, ?_⟩) (by assumption) ?_
      · intro w hSw
        (try dsimp only at hSw)
        go_simp
      (try simp only [Act.put, List.setIfInBounds_toArray, List.set_cons_zero, List.set_cons_succ])
      refine take_G (i := 2) (d := 28) (v := .pointer (some ⟨R, 0, none⟩)) rfl rfl (by kernel_rfl) (by kernel_rfl) (by kernel_rfl) (by kernel_rfl) (by kernel_rfl) (Or.inl ⟨by rfl, ?_⟩) (by assumption) ?_
      · intro w hSw
        (try dsimp only at hSw)
        go_simp
      (try simp only [Act.put, List.setIfInBounds_toArray, List.set_cons_zero, List.set_cons_succ])
      refine take_G (i := 3) (d := 29) (v := .pointer (some ⟨w.heap.size, 2, none⟩)) rfl rfl (by kernel_rfl) (by kernel_rfl) (by kernel_rfl) (by kernel_rfl) (by kernel_rfl) (Or.inl ⟨by rfl, ?_⟩) (by assumption) ?_
      · intro w hSw
        (try dsimp only at hSw)
        go_simp
      (try simp only [Act.put, List.setIfInBounds_toArray, List.set_cons_zero, List.set_cons_succ])
      refine take_G (i := 4) (d := 30) (v := .slice (some ⟨b1, o1, none⟩) len p1) rfl rfl (by kernel_rfl) (by kernel_rfl) (by kernel_rfl) (by kernel_rfl) (by kernel_rfl) (Or.inl ⟨by rfl, ?_⟩) (by assumption) ?_
      · intro w hSw
        (try dsimp only at hSw)
        go_simp
      (try simp only [Act.put, List.setIfInBounds_toArray, List.set_cons_zero, List.set_cons_succ])
      refine take_G (i := 5) (d := 31) (v := .int .i64 (k : Int)) rfl rfl (by kernel_rfl) (by kernel_rfl) (by kernel_rfl) (by kernel_rfl) (by kernel_rfl) (Or.inl ⟨by rfl, ?_⟩) (by assumption) ?_
      · intro w hSw
        (try dsimp only at hSw)
        go_simp
      (try simp only [Act.put, List.setIfInBounds_toArray, List.set_cons_zero, List.set_cons_succ])
      refine take_G (i := 6) (d := 32) (v := .pointer (some ⟨b1, o1 + k, none⟩)) rfl rfl (by kernel_rfl) (by kernel_rfl) (by kernel_rfl) (by kernel_rfl) (by kernel_rfl) (Or.inl ⟨by rfl, ?_⟩) (by assumption) ?_
      · intro w hSw
        (try dsimp only at hSw)
        go_simp
      (try simp only [Act.put, List.setIfInBounds_toArray, List.set_cons_zero, List.set_cons_succ])
      refine take_G (i := 7) (d := 33) (v := .int .i64 x) rfl rfl (by kernel_rfl) (by kernel_rfl) (by kernel_rfl) (by kernel_rfl) (by kernel_rfl) (Or.inl ⟨by rfl, ?_⟩) (by assumption) ?_
      · intro w hSw
        (try dsimp only at hSw)
        go_simp
      (try simp only [Act.put, List.setIfInBounds_toArray, List.set_cons_zero, List.set_cons_succ])
      refine take_G (i := 8) (d := 34) (v := .int .i64 s) rfl rfl (by kernel_rfl) (by kernel_rfl) (by kernel_rfl) (by kernel_rfl) (by kernel_rfl) (Or.inl ⟨by rfl, ?_⟩) (by assumption) ?_
      · intro w hSw
        (try dsimp only at hSw)
        go_simp
      (try simp only [Act.put, List.setIfInBounds_toArray, List.set_cons_zero, List.set_cons_succ])
      refine step_G (i := 9) (by kernel_rfl) (fun K hK => ?_)
      refine wpOp_of rfl rfl ?_
      unfold Oper.wp
      go_simp
      refine hK _ _ (fun _ => ⟨by simp [go_sem, *], by simp [go_sem, *], by simp [go_sem, *]⟩) ?_
      clear hK K
      (try simp only [Act.put, List.setIfInBounds_toArray, List.set_cons_zero, List.set_cons_succ])
      refine step_G (i := 10) (by kernel_rfl) (fun K hK => ?_)
      refine wpOp_of rfl rfl ?_
      unfold Oper.wp
      go_simp
      refine (unhide RA _ _ _ (unhide A0).1.2.2.2.2.2.1 (unhide A0).2.1 (unhide A0).2.2).mono ?_
      rintro e w4 ⟨rfl, h4, m4⟩
      have I4 := (unhide A0).1.mod m4 h4
      obtain ⟨c21, c22, c23⟩ := unhide CW w4 _ _ _ I4.2
      have z21 := heap_gt c21
      have z22 := heap_gt c22
      have z23 := heap_gt c23
      have A2 := hide (I4.grown #[.int .i64 z] 3)
      clear h4 m4 A0 I4 hHeld hc1 hc2 hc3 hz1 hz2 hz3
      refine hK _ _ (fun _ => ⟨c21, c22, c23⟩) ?_
      clear hK K
      (try simp only [Act.put, List.setIfInBounds_toArray, List.set_cons_zero, List.set_cons_succ])
      refine step_G (i := 11) (by kernel_rfl) (fun K hK => ?_)
      refine wpOp_of rfl rfl ?_
      unfold Oper.wp
      go_simp
      refine hK _ _ (fun _ => ⟨by simp [go_sem, *], by simp [go_sem, *], by simp [go_sem, *]⟩) ?_
      clear hK K
      (try simp only [Act.put, List.setIfInBounds_toArray, List.set_cons_zero, List.set_cons_succ])
      refine step_G (i := 12) (by kernel_rfl) (fun K hK => ?_)
      refine wpOp_of rfl rfl ?_
      refine wp_append rfl (.tmp 27) (.tmp 37) rfl (L + 1) k v Z z (unhide EK).1 w4.heap.size (by first | rfl | simp [Act.eval, Act.put]) (by first | rfl | simp [Act.eval, Act.put]) (unhide A2).1 (Blk.cell (Blk.new w4 _ _) 0) hk1 (by have := Blk.lt (unhide A2).2.2.2.2.1; omega) ?_
      intro v' w5 hg5
      obtain ⟨g', cap', rfl⟩ := ownsRow_succ (unhide hg5).1
      have P := DI.app (unhide A2) (unhide hg5)
      obtain ⟨d1, d2, d3⟩ := unhide CW w5 _ _ _ P.1
      have q3 := Blk.free P.1.2.2.2.1 2
      have HP5 := hide P.2
      clear P hg5 A2 c21 c22 c23 z21 z22 z23
      refine hK _ _ (fun _ => ⟨d1, d2, d3⟩) ?_
      clear hK K
      (try simp only [Act.put, List.setIfInBounds_toArray, List.set_cons_zero, List.set_cons_succ])
      have hHeld := (And.intro d1 (And.intro d2 d3))
      refine take_G (i := 13) (d := 39) (v := .pointer (some ⟨L, 2, none⟩)) rfl rfl (by kernel_rfl) (by kernel_rfl) (by kernel_rfl) (by kernel_rfl) (by kernel_rfl) (Or.inl ⟨by rfl, ?_⟩) (by assumption) ?_
      · intro w hSw
        (try dsimp only at hSw)
        go_simp
      (try simp only [Act.put, List.setIfInBounds_toArray, List.set_cons_zero, List.set_cons_succ])
      refine step_G (i := 14) (by kernel_rfl) (fun K hK => ?_)
      refine wpOp_of rfl rfl ?_
      unfold Oper.wp
      go_simp
      refine hK _ _ (fun h => absurd rfl h) ?_
      clear hK K
      (try simp only [Act.put, List.setIfInBounds_toArray, List.set_cons_zero, List.set_cons_succ])
      refine done_G (by kernel_rfl) ?_
      have R5 : Hid (∃ v, DI w R w.heap.size w.heap.size (w.heap.size + 1) L #[.int .i64 r, .int .i64 c, .slice (some ⟨b1, o1, none⟩) len p1] #[.int .i64 r, .int .i64 c, .slice (some ⟨b1, o1, none⟩) len p1] r c Z (c0 || orC (fun p => m2C (X p) s) (k + 1)) (n + 2 * ((k + 1 : Nat) : Int)) (k + 1) v (w5.setCell ⟨L, 2, none⟩ (.slice (some ⟨g', 0, none⟩) (k + 1) cap'))) := by
        show ∃ v, _
        rw [(unhide EK).2.1, (unhide EK).2.2]
        exact ⟨_, unhide HP5⟩
      clear HP5 EK RA CW d1 d2 d3 q3 hHeld
      refine noPanic_normal ?_
      go_wp2
      go_roundw
      case rel => exact ⟨k + 1, by omega, by go_num, R5⟩
      case measure => simp [intOf]; omega
    · obtain rfl : k = len := by omega
      obtain ⟨v, h0, b0, b1, b2, hM, hu, hm, hl⟩ := unhide HI
      obtain ⟨ao2, cap2, rfl, h1, h3, h4⟩ := owns_rowC h0
      have y0 : wr.cell? ⟨L, 0, none⟩ = some (.int .i64 r) := Blk.cell hM 0
      have y1 : wr.cell? ⟨L, 1, none⟩ = some (.int .i64 c) := Blk.cell hM 1
      have y2 : wr.cell? ⟨L, 2, none⟩ = some (.slice ao2 k cap2) := Blk.cell hM 2
      have t2 : wr.cell? ⟨w.heap.size, 2, none⟩ = some (.slice a1 k p1) := Blk.cell b0 2
      have e0 : wr.cell? ⟨w.heap.size + 1, 0, none⟩ = some (.int .i64 0) := Blk.cell b2 0
      have e1 : wr.cell? ⟨w.heap.size + 1, 1, none⟩ = some (.int .i64 0) := Blk.cell b2 1
      have e2 : wr.cell? ⟨w.heap.size + 1, 2, none⟩ = some (.slice none 0 0) := Blk.cell b2 2
      have f := Blk.free b2
      have R6 := hide (And.intro b2 (And.intro h1 (And.intro h3 (And.intro h4 (And.intro hu (And.intro hm hl))))))
      clear h0 b0 b1 b2 hM hu hm hl h1 h3 h4 HI
      go_wp2
      obtain ⟨b2, h1, h3, h4, hu, hm, hl⟩ := unhide R6
      have P := putM b2 (.int .i64 r) (.int .i64 c) (.slice ao2 k cap2)
      generalize (((wr.setCell ⟨w.heap.size + 1, 0, none⟩ (.int .i64 r)).setCell ⟨w.heap.size + 1, 1, none⟩ (.int .i64 c)).setCell ⟨w.heap.size + 1, 2, none⟩ (.slice ao2 k cap2)) = wE at *
      have c0 : wE.cell? ⟨w.heap.size + 1, 0, none⟩ = some (.int .i64 r) := Blk.cell P.1 0
      have c1 : wE.cell? ⟨w.heap.size + 1, 1, none⟩ = some (.int .i64 c) := Blk.cell P.1 1
      have c2 : wE.cell? ⟨w.heap.size + 1, 2, none⟩ = some (.slice ao2 k cap2) := Blk.cell P.1 2
      refine bodyPost_ret (v := .tuple #[.agg #[.int .i64 r, .int .i64 c, .slice ao2 k cap2], .int .i64 0]) (by simp [results, Tryz.results40, go_sem, c0, c1, c2]) rfl ?_
      exact ⟨_, _, rfl, h1, h3.mod P.2 (h4 _ (by omega)), fun U hU => h4 U (by omega), Blk.keep hu P.2 (by omega), hm.new P.2 (by omega)⟩

set_option maxHeartbeats 2000000 in
theorem refScale_bad (R : Nat) (R1 C1 s : Int) (a1 : Option Addr) (l1 p1 : Nat) (Z : Nat → Int) (hb : ¬ okM R1 C1 l1) (c0 : Bool) (n : Int) (w : World) (h : RC R c0 n w) :
    Calls Tryz.prog 40 #[.pointer (some ⟨R, 0, none⟩), .agg #[.int .i64 R1, .int .i64 C1, .slice a1 l1 p1], .int .i64 s] w fun e w' => DocP 0 0 0 Z 3 (fun w' => RC R c0 n w' ∧ Mk R w w') w e w' := by
  have AL := hide (fun w => refMCheck R1 C1 a1 l1 p1 w)
  rw [chk_bad hb] at AL
  have lR := Blk.lt h
  have HB : Hid (Blk (w.heap.size + 1) #[.int .i64 0, .int .i64 0, .slice none 0 0] 24 ((w.alloc (.cells #[.int .i64 R1, .int .i64 C1, .slice a1 l1 p1] 24)).alloc (.cells #[.int .i64 0, .int .i64 0, .slice none 0 0] 24))) := blk_new2 w _ _ _
  have HG : Hid (Grown w ((w.alloc (.cells #[.int .i64 R1, .int .i64 C1, .slice a1 l1 p1] 24)).alloc (.cells #[.int .i64 0, .int .i64 0, .slice none 0 0] 24)) ∧ RC R c0 n w ∧ R < w.heap.size) := ⟨((Grown.refl _).alloc _ _).alloc _ _, h, lR⟩
  clear hb h lR
  go_enter Tryz.func40, Tryz.ntmps40
  go_wp2_with fail
  generalize ((w.alloc (.cells #[.int .i64 R1, .int .i64 C1, .slice a1 l1 p1] 24)).alloc (.cells #[.int .i64 0, .int .i64 0, .slice none 0 0] 24)) = w1 at *
  refine (unhide AL _).mono ?_
  rintro e w2 ⟨rfl, g2⟩
  have b2 := Blk.grown (unhide HB) g2
  have e0 : w2.cell? ⟨w.heap.size + 1, 0, none⟩ = some (.int .i64 0) := Blk.cell b2 0
  have e1 : w2.cell? ⟨w.heap.size + 1, 1, none⟩ = some (.int .i64 0) := Blk.cell b2 1
  have e2 : w2.cell? ⟨w.heap.size + 1, 2, none⟩ = some (.slice none 0 0) := Blk.cell b2 2
  have f := Blk.free b2
  have R6 := hide (And.intro b2 g2)
  clear b2 g2 AL HB
  go_wp2
  obtain ⟨b2, g2⟩ := unhide R6
  have P := putM b2 (.int .i64 0) (.int .i64 0) (.slice none 0 0)
  generalize (((w2.setCell ⟨w.heap.size + 1, 0, none⟩ (.int .i64 0)).setCell ⟨w.heap.size + 1, 1, none⟩ (.int .i64 0)).setCell ⟨w.heap.size + 1, 2, none⟩ (.slice none 0 0)) = wE at *
  have c0 : wE.cell? ⟨w.heap.size + 1, 0, none⟩ = some (.int .i64 0) := Blk.cell P.1 0
  have c1 : wE.cell? ⟨w.heap.size + 1, 1, none⟩ = some (.int .i64 0) := Blk.cell P.1 1
  have c2 : wE.cell? ⟨w.heap.size + 1, 2, none⟩ = some (.slice none 0 0) := Blk.cell P.1 2
  refine bodyPost_ret (v := .tuple #[.agg #[.int .i64 0, .int .i64 0, .slice none 0 0], .int .i64 3]) (by simp [results, Tryz.results40, go_sem, c0, c1, c2]) rfl ?_
  obtain ⟨G, h, lR⟩ := unhide HG
  have gg := gtrans G g2
  exact ⟨_, _, rfl, Nat.le_refl _, Or.inl rfl, fun U hU hl => absurd hl (Nat.lt_irrefl _), Blk.keep (Blk.grown h gg) P.2 (by omega), (Mk.of (Mod.of gg)).new P.2 (by omega)⟩


end Go.Proofs.YtopaakjildmjcaaGreat

/- What Sum, Less and Scale tell: the program, and the document. -/
namespace Go.Proofs.YtopaakjildmjcaaGreat
open Go.RowKit Go.Shelf Go.Proofs.Wd
set_option linter.unusedVariables false
set_option linter.unusedSimpArgs false
set_option maxRecDepth 10000

open Classical in
noncomputable def pairO (f : Int → Int → Int) (g : Int → Int → Bool) (d : Int) (R1 C1 R2 C2 : Int) (l1 l2 : Nat) (A B : Nat → Int) (c0 : Bool) (n0 : Int) : MO :=
  if okM R1 C1 l1 ∧ okM R2 C2 l2 ∧ R1 = R2 ∧ C1 = C2 then ⟨R1, C1, l1, fun p => f (A p) (B p), 0, c0 || orC (fun p => g (A p) (B p)) l1, n0 + d * l1⟩ else ⟨0, 0, 0, A, 3, c0, n0⟩
open Classical in
noncomputable def scaleO (R1 C1 s : Int) (l1 : Nat) (A : Nat → Int) (c0 : Bool) (n0 : Int) : MO :=
  if okM R1 C1 l1 then ⟨R1, C1, l1, fun p => m2N (A p) s, 0, c0 || orC (fun p => m2C (A p) s) l1, n0 + 2 * l1⟩ else ⟨0, 0, 0, A, 3, c0, n0⟩
theorem pairO_bounds {f : Int → Int → Int} {g : Int → Int → Bool} {d : Int} {R1 C1 R2 C2 : Int} {l1 l2 : Nat} {A B : Nat → Int} {c0 : Bool} {n0 : Int} {q : MO} (hd : 0 ≤ d ∧ d ≤ 2) (h : pairO f g d R1 C1 R2 C2 l1 l2 A B c0 n0 = q) : q.len ≤ 144 ∧ n0 ≤ q.n ∧ q.n ≤ n0 + 288 := by
  subst h
  unfold pairO
  by_cases hg : okM R1 C1 l1 ∧ okM R2 C2 l2 ∧ R1 = R2 ∧ C1 = C2
  · rw [if_pos hg]
    obtain ⟨_, _, _, _, _, _, _, k1, k2⟩ := hg.1.nat
    refine ⟨k2, ?_, ?_⟩
    · show n0 ≤ n0 + d * l1
      have : 0 ≤ d * l1 := Int.mul_nonneg hd.1 (by omega)
      omega
    · show n0 + d * l1 ≤ n0 + 288
      have : d * l1 ≤ 2 * 144 := Int.mul_le_mul hd.2 (by omega) (by omega) (by omega)
      omega
  · rw [if_neg hg]
    exact ⟨Nat.zero_le _, Int.le_refl _, by show n0 ≤ n0 + 288; omega⟩
theorem scaleO_bounds {R1 C1 s : Int} {l1 : Nat} {A : Nat → Int} {c0 : Bool} {n0 : Int} {q : MO} (h : scaleO R1 C1 s l1 A c0 n0 = q) : q.len ≤ 144 ∧ n0 ≤ q.n ∧ q.n ≤ n0 + 288 := by
  subst h
  unfold scaleO
  by_cases hg : okM R1 C1 l1
  · rw [if_pos hg]
    obtain ⟨_, _, _, _, _, _, _, k1, k2⟩ := hg.nat
    exact ⟨k2, by show n0 ≤ n0 + 2 * l1; omega, by show n0 + 2 * l1 ≤ n0 + 288; omega⟩
  · rw [if_neg hg]
    exact ⟨Nat.zero_le _, Int.le_refl _, by show n0 ≤ n0 + 288; omega⟩


theorem sumAny (U : Nat) (c0 : Bool) (n0 : Int) (hn : 0 ≤ n0 ∧ n0 < 1152921504606846976) (R1 C1 R2 C2 : Int) (a1 a2 : Option Addr) (l1 p1 l2 p2 : Nat) (A B : Nat → Int) (hA : ∀ j, j < l1 → I64 (A j)) (hB : ∀ j, j < l2 → I64 (B j)) (w : World) (h : UC U c0 n0 w) (ra : Row w a1 l1 A) (oa : Off U l1 a1) (rb : Row w a2 l2 B) (ob : Off U l2 a2) (q : MO) (hq : pairO s2N s2C 2 R1 C1 R2 C2 l1 l2 A B c0 n0 = q) :
    Calls Tryz.prog 38 #[.pointer (some ⟨U, 0, none⟩), .agg #[.int .i64 R1, .int .i64 C1, .slice a1 l1 p1], .agg #[.int .i64 R2, .int .i64 C2, .slice a2 l2 p2]] w fun e w' => MatP q.r q.c q.len q.Z q.err (fun w' => UC U q.cut q.n w' ∧ Mk U w w') w e w' := by
  subst hq
  unfold pairO
  by_cases hg : okM R1 C1 l1 ∧ okM R2 C2 l2 ∧ R1 = R2 ∧ C1 = C2
  · rw [if_pos hg]
    obtain ⟨h1, h2, h3, h4⟩ := hg
    subst h3 h4
    obtain rfl : l1 = l2 := by have := h1.2.2; have := h2.2.2; omega
    obtain ⟨r, m, rfl, rfl, hr, hm, rfl, k1, k2⟩ := h1.nat
    obtain ⟨b, o, rfl, za⟩ := ra.some k1
    obtain ⟨b2, o2, rfl, zb⟩ := rb.some k1
    exact matSum_ok U c0 n0 hn r m b o p1 b2 o2 p2 A B hr hm hA hB w h za zb (off_at oa k1) (off_at ob k1)
  · rw [if_neg hg]
    exact matSum_bad U c0 n0 hn R1 C1 R2 C2 a1 a2 l1 p1 l2 p2 A hg w h
theorem refSumAny (R : Nat) (c0 : Bool) (n0 : Int) (hn : 0 ≤ n0 ∧ n0 < 1152921504606846976) (R1 C1 R2 C2 : Int) (a1 a2 : Option Addr) (l1 p1 l2 p2 : Nat) (A B : Nat → Int) (hA : ∀ j, j < l1 → I64 (A j)) (hB : ∀ j, j < l2 → I64 (B j)) (w : World) (h : RC R c0 n0 w) (ra : Row w a1 l1 A) (oa : Off R l1 a1) (rb : Row w a2 l2 B) (ob : Off R l2 a2) (q : MO) (hq : pairO s2N s2C 2 R1 C1 R2 C2 l1 l2 A B c0 n0 = q) :
    Calls Tryz.prog 41 #[.pointer (some ⟨R, 0, none⟩), .agg #[.int .i64 R1, .int .i64 C1, .slice a1 l1 p1], .agg #[.int .i64 R2, .int .i64 C2, .slice a2 l2 p2]] w fun e w' => DocP q.r q.c q.len q.Z q.err (fun w' => RC R q.cut q.n w' ∧ Mk R w w') w e w' := by
  subst hq
  unfold pairO
  by_cases hg : okM R1 C1 l1 ∧ okM R2 C2 l2 ∧ R1 = R2 ∧ C1 = C2
  · rw [if_pos hg]
    obtain ⟨h1, h2, h3, h4⟩ := hg
    subst h3 h4
    obtain rfl : l1 = l2 := by have := h1.2.2; have := h2.2.2; omega
    exact refSum_ok R c0 n0 R1 C1 a1 a2 l1 p1 p2 A B h1 hn hA hB w h ra oa rb ob
  · rw [if_neg hg]
    exact refSum_bad R R1 C1 R2 C2 a1 a2 l1 p1 l2 p2 A hg c0 n0 w h


theorem scaleAny (U : Nat) (c0 : Bool) (n0 s : Int) (hs : I64 s) (hn : 0 ≤ n0 ∧ n0 < 1152921504606846976) (R1 C1 : Int) (a1 : Option Addr) (l1 p1 : Nat) (A : Nat → Int) (hA : ∀ j, j < l1 → I64 (A j)) (w : World) (h : UC U c0 n0 w) (ra : Row w a1 l1 A) (oa : Off U l1 a1) (q : MO) (hq : scaleO R1 C1 s l1 A c0 n0 = q) :
    Calls Tryz.prog 37 #[.pointer (some ⟨U, 0, none⟩), .agg #[.int .i64 R1, .int .i64 C1, .slice a1 l1 p1], .int .i64 s] w fun e w' => MatP q.r q.c q.len q.Z q.err (fun w' => UC U q.cut q.n w' ∧ Mk U w w') w e w' := by
  subst hq
  unfold scaleO
  by_cases hg : okM R1 C1 l1
  · rw [if_pos hg]
    obtain ⟨r, m, rfl, rfl, hr, hm, rfl, k1, k2⟩ := hg.nat
    obtain ⟨b, o, rfl, za⟩ := ra.some k1
    exact matScale_ok U c0 n0 s hs hn r m b o p1 A hr hm hA w h za (off_at oa k1)
  · rw [if_neg hg]
    exact matScale_bad U c0 n0 s hn R1 C1 a1 l1 p1 A hg w h
theorem refScaleAny (R : Nat) (c0 : Bool) (n0 s : Int) (hs : I64 s) (hn : 0 ≤ n0 ∧ n0 < 1152921504606846976) (R1 C1 : Int) (a1 : Option Addr) (l1 p1 : Nat) (A : Nat → Int) (hA : ∀ j, j < l1 → I64 (A j)) (w : World) (h : RC R c0 n0 w) (ra : Row w a1 l1 A) (oa : Off R l1 a1) (q : MO) (hq : scaleO R1 C1 s l1 A c0 n0 = q) :
    Calls Tryz.prog 40 #[.pointer (some ⟨R, 0, none⟩), .agg #[.int .i64 R1, .int .i64 C1, .slice a1 l1 p1], .int .i64 s] w fun e w' => DocP q.r q.c q.len q.Z q.err (fun w' => RC R q.cut q.n w' ∧ Mk R w w') w e w' := by
  subst hq
  unfold scaleO
  by_cases hg : okM R1 C1 l1
  · rw [if_pos hg]
    exact refScale_ok R c0 n0 R1 C1 s hs a1 l1 p1 A hg hn hA w h ra oa
  · rw [if_neg hg]
    exact refScale_bad R R1 C1 s a1 l1 p1 A hg c0 n0 w h


end Go.Proofs.YtopaakjildmjcaaGreat

/- The document's mat: column, Row. -/
namespace Go.Proofs.YtopaakjildmjcaaGreat
open Go.RowKit Go.Shelf Go.Proofs.Wd
set_option linter.unusedVariables false
set_option linter.unusedSimpArgs false
set_option maxRecDepth 10000

theorem app_ownR {w : World} {base k : Nat} {v : Value} {Z : Nat → Int} {z : Int} (hz : Z k = z) (h : w.ownsRow base 3 1 v (k + 1) (intL k Z ++ [.int .i64 z])) : w.ownsRow base 3 1 v (k + 1) (intL (k + 1) Z) := by
  subst hz
  rwa [intL_succ] at h
/-- A list that is gathered beside a box. -/
def CI (w : World) (box : Array Value) (Y : Nat → Int) (j : Nat) (v : Value) (wr : World) : Prop :=
  wr.ownsRow (w.heap.size + 1) 3 1 v j (intL j Y) ∧ Blk w.heap.size box 24 wr ∧ Kp w wr ∧ w.heap.size + 1 ≤ wr.heap.size
theorem CI.app {w wr w4 : World} {box : Array Value} {Y : Nat → Int} {j : Nat} {v v' : Value} {x : Int} (h : CI w box Y j v wr) (hx : Y j = x) (hown : w4.ownsRow (w.heap.size + 1) 3 1 v' (j + 1) (intL j Y ++ [.int .i64 x])) (hg : (wr.alloc (.cells #[.int .i64 x] 3)).grownBy w4 v.ownBlock) : CI w box Y (j + 1) v' w4 := by
  obtain ⟨h1, h2, h3, h4⟩ := h
  have g : Grown wr (wr.alloc (.cells #[.int .i64 x] 3)) := (Grown.refl _).alloc _ _
  have lt := (h1.alloc (.cells #[.int .i64 x] 3)).lt
  refine ⟨app_ownR hx hown, Blk.by (Blk.grown h2 g) hg (fun e => by have := (lt _ e.symm).1; omega), (h3.grown g).by hg (fun i e => by have := (lt i e).1; omega), ?_⟩
  have := hg.size
  have := g.2.2
  omega
theorem slice_two (b o len cap l h : Nat) (hl : l < h) (hh : h ≤ cap) (w : World) : (Instr.sliceAt 22 (.slice (some ⟨b, o, none⟩) len cap) (some (.int .i64 l)) (some (.int .i64 h)) none).run Tryz.prog w = .ok (.slice (some ⟨b, o + l, none⟩) (h - l) (cap - l)) w := by
  have e : Tryz.prog.underlying 22 = some (.slice (Tryz.prog.elem 22)) := by kernel_rfl
  have s1 : (sizeOf (Tryz.prog.elem 22)).run Tryz.prog w = .ok 1 w := by kernel_rfl
  rw [run_sliceAt_slice w 22 _ _ _ _ e, run_slice_lh w 22 _ len cap e .i64 .i64 l h (by omega) (by omega) (by omega), s1]
  show Result.ok (sliced _ (l : Int).toNat (h : Int).toNat cap 1) w = _
  unfold sliced
  rw [Int.toNat_natCast, Int.toNat_natCast, if_neg (by omega)]
  show Result.ok (Value.slice (some ((⟨b, o, none⟩ : Addr).add (l * 1))) _ _) w = _
  rw [Go.WideShapes.add_plain, Nat.mul_one]
/-- A list and an error that the document tells. -/
def LiD (len : Nat) (Z : Nat → Int) (err : Int) (X : World → Prop) (w : World) (e : Ending) (w' : World) : Prop :=
  ∃ ao cap, e = .returned (.tuple #[.slice ao len cap, .int .i64 err]) ∧ len ≤ cap ∧ Row w' ao len Z ∧ (∀ U, U < w.heap.size → Off U len ao) ∧ X w'


set_option maxRecDepth 20000 in
set_option maxHeartbeats 4000000 in
theorem refColumn (r c k len cap b o : Nat) (Z : Nat → Int) (hr : 1 ≤ r ∧ r ≤ 12) (hc : 1 ≤ c ∧ c ≤ 12) (hk : k < c) (hl : len = r * c) (w : World) (za : ∀ i, i < len → w.cell? ⟨b, o + i, none⟩ = some (.int .i64 (Z i))) :
    Calls Tryz.prog 53 #[.agg #[.int .i64 r, .int .i64 c, .slice (some ⟨b, o, none⟩) len cap], .int .i64 k] w fun e w' => CopyQ r (colZ Z c k) w e w' := by
  have hlen : len ≤ 144 := by have := mul12n r c hr hc; omega
  obtain ⟨i0, hi, hz0, hz1, hz2⟩ := info_parts Tryz.infoInt
  obtain ⟨Y, hY⟩ : ∃ Y, Y = colZ Z c k := ⟨_, rfl⟩
  rw [← hY]
  have EY : Hid (∀ j, Y j = Z (j * c + k)) := fun j => by rw [hY]; rfl
  have HL := hide (And.intro hl (And.intro hk (And.intro hr hc)))
  have HZ := hide za
  have ST : Hid (CI w #[.int .i64 r, .int .i64 c, .slice (some ⟨b, o, none⟩) len cap] Y 0 (.slice none 0 0) (w.alloc (.cells #[.int .i64 r, .int .i64 c, .slice (some ⟨b, o, none⟩) len cap] 24))) := ⟨World.ownsRow_nil _ _ _ _, Blk.new w _ _, (Kp.refl _).alloc _ _, by simp⟩
  clear hY za hl hk hr hc
  go_enter Tryz.func53, Tryz.ntmps53
  go_wp2_with fail
  generalize w.alloc (.cells #[.int .i64 r, .int .i64 c, .slice (some ⟨b, o, none⟩) len cap] 24) = w1 at *
  go_loopw [5, 6] (fun v i wr => ∃ j : Nat, j ≤ r ∧ i = .int .i64 j ∧ Hid (CI w #[.int .i64 r, .int .i64 c, .slice (some ⟨b, o, none⟩) len cap] Y j v wr)) (fun _ i _ => r - (intOf i).toNat)
  case atStart => exact ⟨0, Nat.zero_le _, rfl, unhide ST⟩
  case round =>
    obtain ⟨j, hj, rfl, HI⟩ := hrel
    clear ST
    have y0 : wr.cell? ⟨w.heap.size, 0, none⟩ = some (.int .i64 r) := Blk.cell (unhide HI).2.1 0
    by_cases hlt : j < r
    · have y1 : wr.cell? ⟨w.heap.size, 1, none⟩ = some (.int .i64 c) := Blk.cell (unhide HI).2.1 1
      have y2 : wr.cell? ⟨w.heap.size, 2, none⟩ = some (.slice (some ⟨b, o, none⟩) len cap) := Blk.cell (unhide HI).2.1 2
      obtain ⟨m, hm⟩ : ∃ m, j * c = m := ⟨_, rfl⟩
      obtain ⟨p, hp⟩ : ∃ p, m + k = p := ⟨_, rfl⟩
      have hpl : p < len := by
        have h1 := place_in j k r c hlt (unhide HL).2.1
        rw [← (unhide HL).1, hm, hp] at h1
        exact h1
      obtain ⟨x, ex⟩ : ∃ x, Z p = x := ⟨_, rfl⟩
      have hc0 : wr.cell? ⟨b, o + p, none⟩ = some (.int .i64 x) := by rw [← ex]; exact (unhide HI).2.2.1.cell (unhide HZ p hpl)
      have EK : Hid (Y j = x) := by show Y j = x; rw [unhide EY, hm, hp, ex]
      have b0 : (0 : Int) ≤ (p : Int) := by omega
      have b1 : (p : Int) < (len : Int) := by omega
      have hj1 : j ≤ 1000000 := Nat.le_trans hj (Nat.le_trans (unhide HL).2.2.1.2 (by decide))
      have B1 : Hid (j + 1 ≤ maxLen) := by show j + 1 ≤ maxLen; unfold maxLen; omega
      have B2 : Hid ((j + 1) * 8 ≤ 140737488355328) := by show (j + 1) * 8 ≤ 140737488355328; omega
      have B3 : Hid (w.heap.size + 1 ≤ (wr.alloc (.cells #[.int .i64 x] 3)).heap.size) := by
        have := (unhide HI).2.2.2
        show _ ≤ _
        simp
        omega
      have B4 : Hid (j + 1 ≤ r) := hlt
      have hm6 : m ≤ 1000000 := by omega
      have hp6 : p ≤ 1000000 := by omega
      have wa : wrap64 ((j : Int) * (c : Int)) = (m : Int) := wrapP j c m hm hm6
      have wb : wrap64 ((m : Int) + (k : Int)) = (p : Int) := wrapA m k p hp hp6
      clear hm hp ex hpl
      go_wp2_with (at_builtin; refine wpList_append_own _ rfl _ _ 22 rfl (w.heap.size + 1) 3 i0 (.int .i64 0) 1 8 Tryz.underlying22 hi hz0 hz1 hz2 rfl (by decide) _ _ _ rfl ((unhide HI).1.alloc _) ⟨wr.heap.size, 0, none⟩ 1 1 [.int .i64 x] rfl rfl (news_one _ _ _) (one_cell _) (unhide B1) (unhide B2) (unhide B3) ?_; intro v' w4 hown hgrow _; have HP := hide (CI.app (unhide HI) (unhide EK) hown hgrow); clear hown hgrow wa wb)
      go_roundw
      case rel => exact ⟨j + 1, unhide B4, by go_num, HP⟩
      case measure => have := unhide B4; simp [intOf]; omega
    · obtain rfl : j = r := by omega
      obtain ⟨h0, h2, h3, h4⟩ := unhide HI
      obtain ⟨ao2, cap2, rfl, g1, g3, g4⟩ := owns_rowC h0
      have R := hide (And.intro g1 (And.intro g3 (And.intro g4 h3)))
      clear h0 h2 h3 h4 g1 g3 g4 HI
      go_wp2
      go_ret
      exact (show CopyQ _ _ _ _ _ from ⟨_, _, rfl, (unhide R).1, (unhide R).2.1, fun U hU => (unhide R).2.2.1 U (by omega), (unhide R).2.2.2⟩)

set_option maxRecDepth 20000 in
set_option maxHeartbeats 4000000 in
theorem refRow_ok (r c k len cap b o : Nat) (Z : Nat → Int) (hr : 1 ≤ r ∧ r ≤ 12) (hc : 1 ≤ c ∧ c ≤ 12) (hk : k < r) (hl : len = r * c) (hcap : len ≤ cap) (w : World) (za : ∀ i, i < len → w.cell? ⟨b, o + i, none⟩ = some (.int .i64 (Z i))) :
    Calls Tryz.prog 51 #[.agg #[.int .i64 r, .int .i64 c, .slice (some ⟨b, o, none⟩) len cap], .int .i64 k] w fun e w' => LiD c (rowZ Z c k) 0 (Kp w) w e w' := by
  have hlen : len ≤ 144 := by have := mul12n r c hr hc; omega
  obtain ⟨i0, hi, hz0, hz1, hz2⟩ := info_parts Tryz.infoInt
  have AL := hide (fun w => refMCheck r c (some ⟨b, o, none⟩) len cap w)
  rw [chk_ok ⟨by omega, by omega, by rw [hl, Int.natCast_mul]⟩] at AL
  obtain ⟨m, hm⟩ : ∃ m, k * c = m := ⟨_, rfl⟩
  obtain ⟨p, hp⟩ : ∃ p, m + c = p := ⟨_, rfl⟩
  have h2 := place_le k r c hk
  rw [← hl, hm, hp] at h2
  have SL := fun w => slice_two b o len cap m p (by omega) (by omega) w
  have dp : p - m = c := by omega
  rw [dp] at SL
  have ZA : Hid (∀ i, i < c → w.cell? ⟨b, o + m + i, none⟩ = some (.int .i64 (rowZ Z c k i))) := fun i hi => by
    rw [Nat.add_assoc, show rowZ Z c k i = Z (m + i) from by unfold rowZ; rw [hm]]
    exact za (m + i) (by omega)
  have G1 : Hid (Grown w (w.alloc (.cells #[.int .i64 r, .int .i64 c, .slice (some ⟨b, o, none⟩) len cap] 24)) ∧ Blk w.heap.size #[.int .i64 r, .int .i64 c, .slice (some ⟨b, o, none⟩) len cap] 24 (w.alloc (.cells #[.int .i64 r, .int .i64 c, .slice (some ⟨b, o, none⟩) len cap] 24))) := ⟨(Grown.refl _).alloc _ _, Blk.new w _ _⟩
  have k0 : (0 : Int) ≤ (k : Int) := by omega
  have k1 : (k : Int) < (r : Int) := by omega
  have BC : Hid (0 + c ≤ maxLen ∧ (0 + c) * 8 ≤ 140737488355328) := by show _ ∧ _; unfold maxLen; omega
  have hm6 : m ≤ 1000000 := by omega
  have hp6 : p ≤ 1000000 := by omega
  have wa : wrap64 ((k : Int) * (c : Int)) = (m : Int) := wrapP k c m hm hm6
  have wb : wrap64 ((m : Int) + (c : Int)) = (p : Int) := wrapA m c p hp hp6
  clear hm hp h2 za hl hr hc hk dp hcap
  generalize (k : Int) = ki at *
  go_enter Tryz.func51, Tryz.ntmps51
  go_wp2_with fail
  generalize w.alloc (.cells #[.int .i64 r, .int .i64 c, .slice (some ⟨b, o, none⟩) len cap] 24) = w1 at *
  refine (unhide AL _).mono ?_
  rintro e w2 ⟨rfl, g2⟩
  have y0 : w2.cell? ⟨w.heap.size, 0, none⟩ = some (.int .i64 r) := Blk.cell (Blk.grown (unhide G1).2 g2) 0
  have y1 : w2.cell? ⟨w.heap.size, 1, none⟩ = some (.int .i64 c) := Blk.cell (Blk.grown (unhide G1).2 g2) 1
  have y2 : w2.cell? ⟨w.heap.size, 2, none⟩ = some (.slice (some ⟨b, o, none⟩) len cap) := Blk.cell (Blk.grown (unhide G1).2 g2) 2
  have GG := hide (gtrans (unhide G1).1 g2)
  have hz : w.heap.size < w2.heap.size := heap_gt y0
  have OM := hide (World.ownsRow_made (base := w2.heap.size) (e := 3) (size := 1) w2 #[] 0 (Nat.le_refl _) (Nat.zero_le _) (by simp))
  have NEWH : Hid (∀ j u, ((List.range c).map fun i => Value.int .i64 (rowZ Z c k i))[j]? = some u → (w2.alloc (.cells #[] 3)).cell? ((⟨b, o + m, none⟩ : Addr).add j) = some u) := by
    intro j u hu
    rw [List.getElem?_map] at hu
    by_cases hj : j < c
    · rw [List.getElem?_range hj] at hu
      simp at hu
      subst hu
      rw [Go.WideShapes.add_plain]
      exact gat ((unhide GG).alloc _ _) (unhide ZA j hj)
    · rw [List.getElem?_eq_none (by simpa using hj)] at hu
      simp at hu
  have LS2 : Hid (w.heap.size ≤ w2.heap.size) := (unhide GG).2.2
  clear g2 G1 AL ZA
  go_wp2_with (at_builtin; refine wpList_append_own _ rfl _ _ 22 rfl w2.heap.size 3 i0 (.int .i64 0) 1 8 Tryz.underlying22 hi hz0 hz1 hz2 rfl (by decide) _ _ _ rfl (unhide OM) ⟨b, o + m, none⟩ c (cap - m) ((List.range c).map fun i => Value.int .i64 (rowZ Z c k i)) rfl (by simp) (unhide NEWH) (cells_one _ _) (unhide BC).1 (unhide BC).2 (by simp) ?_; intro v' w5 hown' hgrow _)
  rw [Nat.zero_add, List.nil_append] at hown'
  obtain ⟨ao2, cap2, rfl, hc2, row2, off2⟩ := owns_rowC hown'
  have K1 : Hid (Kp w w5) := Kp.by ((Kp.of (unhide GG)).alloc _ _) hgrow (fun k e => Nat.le_trans (unhide LS2) ((unhide OM).lt k e).1)
  have R1 := hide (And.intro hc2 (And.intro row2 off2))
  clear hown' hgrow row2 off2 hc2 OM NEWH
  go_wp2
  go_ret2
  exact (show LiD _ _ _ _ _ _ _ from ⟨_, _, rfl, (unhide R1).1, (unhide R1).2.1, fun U hU => (unhide R1).2.2 U (Nat.lt_of_lt_of_le hU (unhide LS2)), unhide K1⟩)

set_option maxHeartbeats 2000000 in
theorem refRow_no (R C i : Int) (ao : Option Addr) (len cap : Nat) (Z : Nat → Int) (hok : okM R C len) (hi : i < 0 ∨ R ≤ i) (w : World) :
    Calls Tryz.prog 51 #[.agg #[.int .i64 R, .int .i64 C, .slice ao len cap], .int .i64 i] w fun e w' => LiD 0 Z 3 (Kp w) w e w' := by
  have AL := hide (fun w => refMCheck R C ao len cap w)
  rw [chk_ok hok] at AL
  have G1 : Hid (Grown w (w.alloc (.cells #[.int .i64 R, .int .i64 C, .slice ao len cap] 24)) ∧ Blk w.heap.size #[.int .i64 R, .int .i64 C, .slice ao len cap] 24 (w.alloc (.cells #[.int .i64 R, .int .i64 C, .slice ao len cap] 24))) := ⟨(Grown.refl _).alloc _ _, Blk.new w _ _⟩
  clear hok
  by_cases h0 : i < 0
  · clear hi
    go_enter Tryz.func51, Tryz.ntmps51
    go_wp2_with fail
    generalize w.alloc (.cells #[.int .i64 R, .int .i64 C, .slice ao len cap] 24) = w1 at *
    refine (unhide AL _).mono ?_
    rintro e w2 ⟨rfl, g2⟩
    have GG := hide (gtrans (unhide G1).1 g2)
    clear G1 g2 AL
    go_wp2
    go_ret2
    exact (show LiD _ _ _ _ _ _ _ from ⟨_, _, rfl, Nat.le_refl _, Or.inl rfl, fun U hU hl => absurd hl (Nat.lt_irrefl _), Kp.of (unhide GG)⟩)
  · have h1 : R ≤ i := hi.resolve_left h0
    have h0' : 0 ≤ i := by omega
    clear hi h0
    go_enter Tryz.func51, Tryz.ntmps51
    go_wp2_with fail
    generalize w.alloc (.cells #[.int .i64 R, .int .i64 C, .slice ao len cap] 24) = w1 at *
    refine (unhide AL _).mono ?_
    rintro e w2 ⟨rfl, g2⟩
    have y0 : w2.cell? ⟨w.heap.size, 0, none⟩ = some (.int .i64 R) := Blk.cell (Blk.grown (unhide G1).2 g2) 0
    have GG := hide (gtrans (unhide G1).1 g2)
    clear G1 g2 AL
    go_wp2
    go_ret2
    exact (show LiD _ _ _ _ _ _ _ from ⟨_, _, rfl, Nat.le_refl _, Or.inl rfl, fun U hU hl => absurd hl (Nat.lt_irrefl _), Kp.of (unhide GG)⟩)

set_option maxHeartbeats 2000000 in
theorem refRow_bad (R C i : Int) (ao : Option Addr) (len cap : Nat) (Z : Nat → Int) (hb : ¬ okM R C len) (w : World) :
    Calls Tryz.prog 51 #[.agg #[.int .i64 R, .int .i64 C, .slice ao len cap], .int .i64 i] w fun e w' => LiD 0 Z 3 (Kp w) w e w' := by
  have AL := hide (fun w => refMCheck R C ao len cap w)
  rw [chk_bad hb] at AL
  have G1 : Hid (Grown w (w.alloc (.cells #[.int .i64 R, .int .i64 C, .slice ao len cap] 24))) := (Grown.refl _).alloc _ _
  clear hb
  go_enter Tryz.func51, Tryz.ntmps51
  go_wp2_with fail
  generalize w.alloc (.cells #[.int .i64 R, .int .i64 C, .slice ao len cap] 24) = w1 at *
  refine (unhide AL _).mono ?_
  rintro e w2 ⟨rfl, g2⟩
  have GG := hide (gtrans (unhide G1) g2)
  clear G1 g2 AL
  go_wp2
  go_ret2
  exact (show LiD _ _ _ _ _ _ _ from ⟨_, _, rfl, Nat.le_refl _, Or.inl rfl, fun U hU hl => absurd hl (Nat.lt_irrefl _), Kp.of (unhide GG)⟩)


end Go.Proofs.YtopaakjildmjcaaGreat

/- append(out, x): where the list lies behind it: where it lay, or in a new block. -/
namespace Go.Proofs.YtopaakjildmjcaaGreat
open Go.RowKit Go.Proofs.Wd
set_option linter.unusedVariables false
set_option linter.unusedSimpArgs false
set_option maxRecDepth 10000

theorem run_append_at (w : World) (ty : TypeId) (base n : Nat) (v : Value) (xs : List Value) (hown : w.ownsRow base 3 1 v n xs) (a : Addr) (m c : Nat) (news : List Value) (hl : news.length = m * 1) (hnews : ∀ j u, news[j]? = some u → w.cell? (a.add j) = some u) (h1 : ∀ u ∈ news, u.oneCell' = true)
    (hm : 1 ≤ m ∧ m ≤ 1000000) (hn : n ≤ 1000000) (hb : base ≤ w.heap.size) :
    ∃ v' w', (Builtin.append_ #[22, 22] ty #[v, .slice (some a) m c]).run Tryz.prog w = .ok v' w' ∧ w'.ownsRow base 3 1 v' (n + m) (xs ++ news) ∧ w.grownBy w' v.ownBlock ∧ (v'.ownBlock = v.ownBlock ∨ ∃ g, v'.ownBlock = some g ∧ w.heap.size ≤ g) := by
  obtain ⟨i0, hi, hz0, hz1, hz2⟩ := info_parts Tryz.infoInt
  have h63 : n + m ≤ maxLen := by unfold maxLen; omega
  have hby : (n + m) * 8 ≤ 140737488355328 := by omega
  obtain ⟨v', w', hr, r1, r2, _⟩ := run_append_own (P := Tryz.prog) w base 22 ty 3 i0 (.int .i64 0) 1 8 Tryz.underlying22 hi hz0 hz1 hz2 rfl (by decide) v n xs hown a m c news hl hnews h1 h63 hby hb
  refine ⟨v', w', hr, r1, r2, ?_⟩
  rcases hown.2 with ⟨rfl, rfl⟩ | ⟨g, cap, cur, rfl, hbg, hg, hnc, hcm, hcs, htake⟩
  · have hx : xs = [] := List.eq_nil_of_length_eq_zero (by simpa using hown.1)
    subst hx
    obtain ⟨v2, w2, hr2, q1, _, _⟩ := run_append_own (P := Tryz.prog) w w.heap.size 22 ty 3 i0 (.int .i64 0) 1 8 Tryz.underlying22 hi hz0 hz1 hz2 rfl (by decide) (.slice none 0 0) 0 [] (World.ownsRow_nil _ _ _ _) a m c news hl hnews h1 h63 hby (Nat.le_refl _)
    rw [hr] at hr2
    cases hr2
    rcases q1.2 with ⟨_, e⟩ | ⟨g, cap, cur, rfl, hbg, _⟩
    · omega
    · exact Or.inr ⟨g, rfl, hbg⟩
  · by_cases hroom : n + m ≤ cap
    · have hfit : n * i0.size + news.length ≤ cur.size := by rw [hl, hcs, hz1, ← Nat.add_mul]; exact Nat.mul_le_mul_right _ hroom
      have hr2 := run_append_room (P := Tryz.prog) w 22 ty 3 i0 Tryz.underlying22 hi g n cap cur hg a m c news (by rw [hz1]; exact hl) hnews h1 hroom hfit
      rw [hr] at hr2
      cases hr2
      exact Or.inl rfl
    · have holds : ∀ j u, xs[j]? = some u → w.cell? ((⟨g, 0, none⟩ : Addr).add j) = some u := hown.cells (g := g) rfl
      have hr2 := run_append_grow (P := Tryz.prog) w 22 ty 3 i0 (.int .i64 0) Tryz.underlying22 hi hz0 ⟨g, 0, none⟩ n cap xs (by rw [hz1]; exact hown.1) holds a m c news (by rw [hz1]; exact hl) hnews (by omega) (by omega) (growslice_fits (by omega) (by rw [hz2]; exact hby))
      rw [hr] at hr2
      cases hr2
      exact Or.inr ⟨_, rfl, Nat.le_refl _⟩
theorem wpList_append_at {ops : Array Oper} {rest : List Oper} {o : Oper} {a : Act} {w : World} {Q : Exit → Act → World → Prop} (hgd : o.guard = none) (s x : Operand) (ho : o.op = .call { callee := .builtin .append, args := #[s, x], argTypes := #[22, 22] })
    (base : Nat) (v : Value) (n : Nat) (xs : List Value) (hs : a.eval s = v) (hown : w.ownsRow base 3 1 v n xs)
    (ad : Addr) (m c : Nat) (news : List Value) (hx : a.eval x = .slice (some ad) m c) (hl : news.length = m * 1) (hnews : ∀ j u, news[j]? = some u → w.cell? (ad.add j) = some u) (h1 : ∀ u ∈ news, u.oneCell' = true)
    (hm : 1 ≤ m ∧ m ≤ 1000000) (hn : n ≤ 1000000) (hb : base ≤ w.heap.size)
    (h : ∀ v' w', w'.ownsRow base 3 1 v' (n + m) (xs ++ news) → w.grownBy w' v.ownBlock → (v'.ownBlock = v.ownBlock ∨ ∃ g, v'.ownBlock = some g ∧ w.heap.size ≤ g) → wpList Tryz.prog ops Q rest (a.put o.dst v') w') : wpList Tryz.prog ops Q (o :: rest) a w := by
  refine wpList_plain hgd fun _ hK => ?_
  obtain ⟨v', w', hr, h2, h3, h4⟩ := run_append_at w o.type base n v xs hown ad m c news hl hnews h1 hm hn hb
  unfold Oper.wp execOp
  simp only [ho, resolve, invoke, builtin, Sem.run_bind, Sem.run_pure, Result.andThen_ok, List.map_toArray, List.map_cons, List.map_nil, hs, hx, hr]
  exact hK _ _ (h v' w' h2 h3 h4)
theorem wp_append_at {o : Oper} {a : Act} {w : World} {K : Act → World → Prop} {Q : Exit → Act → World → Prop} (s x : Operand) (ho : o.op = .call { callee := .builtin .append, args := #[s, x], argTypes := #[22, 22] })
    (base : Nat) (v : Value) (n : Nat) (xs : List Value) (hs : a.eval s = v) (hown : w.ownsRow base 3 1 v n xs)
    (ad : Addr) (m c : Nat) (news : List Value) (hx : a.eval x = .slice (some ad) m c) (hl : news.length = m * 1) (hnews : ∀ j u, news[j]? = some u → w.cell? (ad.add j) = some u) (h1 : ∀ u ∈ news, u.oneCell' = true)
    (hm : 1 ≤ m ∧ m ≤ 1000000) (hn : n ≤ 1000000) (hb : base ≤ w.heap.size)
    (h : ∀ v' w', w'.ownsRow base 3 1 v' (n + m) (xs ++ news) → w.grownBy w' v.ownBlock → (v'.ownBlock = v.ownBlock ∨ ∃ g, v'.ownBlock = some g ∧ w.heap.size ≤ g) → K (a.put o.dst v') w') : Oper.wp Tryz.prog o a w K Q := by
  obtain ⟨v', w', hr, h2, h3, h4⟩ := run_append_at w o.type base n v xs hown ad m c news hl hnews h1 hm hn hb
  unfold Oper.wp execOp
  simp only [ho, resolve, invoke, builtin, Sem.run_bind, Sem.run_pure, Result.andThen_ok, List.map_toArray, List.map_cons, List.map_nil, hs, hx, hr]
  exact h v' w' h2 h3 h4

end Go.Proofs.YtopaakjildmjcaaGreat

/- The document's mat: Apply, Mul. -/
namespace Go.Proofs.YtopaakjildmjcaaGreat
open Go.RowKit Go.Shelf Go.Proofs.Wd
set_option linter.unusedVariables false
set_option linter.unusedSimpArgs false
set_option maxRecDepth 10000

theorem owns_kp {w w' : World} {base : Nat} {e : TypeId} {size : Nat} {v : Value} {n : Nat} {xs : List Value} (h : w.ownsRow base e size v n xs) (k : Kp w w') : w'.ownsRow base e size v n xs := by
  refine ⟨h.1, ?_⟩
  rcases h.2 with h2 | ⟨g, cap, cur, rfl, hb, hg, r⟩
  · exact Or.inl h2
  · exact Or.inr ⟨g, cap, cur, rfl, hb, (k.2.2.1 g (Array.getElem?_eq_some_iff.1 hg).1).trans hg, r⟩
theorem rowBy {w w' : World} {ao : Option Addr} {len : Nat} {Z : Nat → Int} {row : Option Nat} (h : Row w ao len Z) (hg : w.grownBy w' row) (ho : ∀ g, row = some g → Off g len ao) : Row w' ao len Z := by
  rcases h with h | ⟨b, o, rfl, hc⟩
  · exact Or.inl h
  · exact Or.inr ⟨b, o, rfl, fun i hi => hg.cell (hc i hi) (fun e => ho b e.symm (by omega) _ rfl rfl)⟩
theorem bnd (m j : Nat) (hm : m ≤ 12) (hj : j ≤ 144) : 0 ≤ 2 * (m : Int) * (j : Int) ∧ 2 * (m : Int) * (j : Int) ≤ 3456 := by
  have h1 : 2 * m * j ≤ 24 * 144 := Nat.mul_le_mul (by omega) hj
  have h2 : ((2 * m * j : Nat) : Int) = 2 * (m : Int) * (j : Int) := by rw [Int.natCast_mul, Int.natCast_mul]; rfl
  omega
theorem bnd_succ (n : Int) (m j : Nat) : n + 2 * (m : Int) * ((j + 1 : Nat) : Int) = n + 2 * (m : Int) * (j : Int) + 2 * (m : Int) := by
  rw [Int.natCast_add, Int.mul_add, show ((1 : Nat) : Int) = 1 from rfl, Int.mul_one, Int.add_assoc]
/-- A list that is gathered, beside boxes, lists and the document's unit. -/
def GA (w : World) (R : Nat) (bx : List (Nat × Array Value)) (rows : List (Option Addr × Nat × (Nat → Int))) (base : Nat) (Y : Nat → Int) (cut : Bool) (n : Int) (j : Nat) (v : Value) (wr : World) : Prop :=
  wr.ownsRow base 3 1 v j (intL j Y) ∧ (∀ b ∈ bx, Blk b.1 b.2 24 wr ∧ w.heap.size ≤ b.1 ∧ b.1 < base) ∧ (∀ r ∈ rows, Row wr r.1 r.2.1 r.2.2 ∧ Off R r.2.1 r.1 ∧ ∀ g, v.ownBlock = some g → Off g r.2.1 r.1) ∧ RC R cut n wr ∧ Mk R w wr ∧ R < w.heap.size ∧ w.heap.size ≤ base ∧ base ≤ wr.heap.size
section
variable {w wr w' w4 : World} {R base : Nat} {bx : List (Nat × Array Value)} {rows : List (Option Addr × Nat × (Nat → Int))} {Y : Nat → Int} {cut cut' : Bool} {n n' : Int} {j : Nat} {v v' : Value}
theorem GA.kp (h : GA w R bx rows base Y cut n j v wr) (k : Kp wr w') : GA w R bx rows base Y cut n j v w' := by
  obtain ⟨h1, h2, h3, h4, h5, h6, h7, h8⟩ := h
  exact ⟨owns_kp h1 k, fun b hb => ⟨Blk.kp (h2 b hb).1 k, (h2 b hb).2⟩, fun r hr => ⟨(h3 r hr).1.kp k, (h3 r hr).2⟩, Blk.kp h4 k, h5.trans (Mk.kp k), h6, h7, Nat.le_trans h8 k.2.2.2⟩
theorem GA.mod (h : GA w R bx rows base Y cut n j v wr) (m : Mod R wr w') (u : RC R cut' n' w') : GA w R bx rows base Y cut' n' j v w' := by
  obtain ⟨h1, h2, h3, h4, h5, h6, h7, h8⟩ := h
  exact ⟨owns_mod h1 m (by omega), fun b hb => ⟨Blk.keep (h2 b hb).1 m (by have := (h2 b hb).2; omega), (h2 b hb).2⟩, fun r hr => ⟨(h3 r hr).1.mod m (h3 r hr).2.1, (h3 r hr).2⟩, u, h5.trans (Mk.of m), h6, h7, Nat.le_trans h8 m.2.2.2.2⟩
theorem GA.row {ao : Option Addr} {len : Nat} {Z : Nat → Int} (h : GA w R bx rows base Y cut n j v wr) (k : Kp wr w') (r : Row w' ao len Z) (f : ∀ U, U < wr.heap.size → Off U len ao) : GA w R bx ((ao, len, Z) :: rows) base Y cut n j v w' := by
  obtain ⟨h1, h2, h3, h4, h5, h6, h7, h8⟩ := h.kp k
  refine ⟨h1, h2, fun q hq => ?_, h4, h5, h6, h7, h8⟩
  rcases List.mem_cons.1 hq with rfl | hq
  · exact ⟨r, f R (Blk.lt h.2.2.2.1), fun g hg => f g (h.1.lt g hg).2⟩
  · exact h3 q hq
theorem GA.sub {rows' : List (Option Addr × Nat × (Nat → Int))} (h : GA w R bx rows base Y cut n j v wr) (hr : ∀ r ∈ rows', r ∈ rows) : GA w R bx rows' base Y cut n j v wr := by
  obtain ⟨h1, h2, h3, h4⟩ := h
  exact ⟨h1, h2, fun r h => h3 r (hr r h), h4⟩
theorem GA.app {x : Int} (h : GA w R bx rows base Y cut n j v wr) (hx : Y j = x) (hown : w4.ownsRow base 3 1 v' (j + 1) (intL j Y ++ [.int .i64 x])) (hg : (wr.alloc (.cells #[.int .i64 x] 3)).grownBy w4 v.ownBlock)
    (hw : v'.ownBlock = v.ownBlock ∨ ∃ g, v'.ownBlock = some g ∧ (wr.alloc (.cells #[.int .i64 x] 3)).heap.size ≤ g) : GA w R bx rows base Y cut n (j + 1) v' w4 := by
  obtain ⟨h1, h2, h3, h4, h5, h6, h7, h8⟩ := h
  have g : Grown wr (wr.alloc (.cells #[.int .i64 x] 3)) := (Grown.refl _).alloc _ _
  have lt := (h1.alloc (.cells #[.int .i64 x] 3)).lt
  have hs := g.2.2
  refine ⟨app_ownR hx hown, fun b hb => ⟨Blk.by (Blk.grown (h2 b hb).1 g) hg (fun e => by have := (lt _ e.symm).1; have := (h2 b hb).2; omega), (h2 b hb).2⟩, fun r hr => ⟨rowBy ((h3 r hr).1.grown g) hg (h3 r hr).2.2, (h3 r hr).2.1, fun q hq => ?_⟩, Blk.by (Blk.grown h4 g) hg (fun e => by have := (lt _ e.symm).1; omega), (h5.grown g).by hg (fun i e => by have := (lt i e).1; omega), h6, h7, by have := hg.size; omega⟩
  rcases hw with hw | ⟨q', e, hq'⟩
  · exact (h3 r hr).2.2 q (by rw [← hw]; exact hq)
  · rw [e] at hq
    cases hq
    exact (h3 r hr).1.off (by omega)
theorem GA.set {L : Nat} {x0 x1 x2 u : Value} (h : GA w R ((L, #[x0, x1, x2]) :: bx) rows base Y cut n j v wr) (hne : ∀ b ∈ bx, b.1 ≠ L) (hrw : ∀ r ∈ rows, Off L r.2.1 r.1) : GA w R ((L, #[x0, x1, u]) :: bx) rows base Y cut n j v (wr.setCell ⟨L, 2, none⟩ u) := by
  obtain ⟨h1, h2, h3, h4, h5, h6, h7, h8⟩ := h
  have q : Mod L wr (wr.setCell ⟨L, 2, none⟩ u) := (Mod.refl _ _).setCell 2 _
  have hL := h2 _ List.mem_cons_self
  have hL2 := hL.2
  refine ⟨owns_mod h1 q hL2.2, fun b hb => ?_, fun r hr => ⟨(h3 r hr).1.mod q (hrw r hr), (h3 r hr).2⟩, Blk.keep h4 q (by simp only at hL2; omega), h5.new q hL2.1, h6, h7, Nat.le_trans h8 q.2.2.2.2⟩
  rcases List.mem_cons.1 hb with rfl | hb
  · exact ⟨Blk.set hL.1 2 _, hL.2⟩
  · exact ⟨Blk.keep (h2 b (List.mem_cons_of_mem _ hb)).1 q (hne b hb), (h2 b (List.mem_cons_of_mem _ hb)).2⟩
theorem GA.cells {b : Nat} {x0 x1 x2 : Value} (h : GA w R bx rows base Y cut n j v wr) (hb : (b, #[x0, x1, x2]) ∈ bx) : wr.cell? ⟨b, 0, none⟩ = some x0 ∧ wr.cell? ⟨b, 1, none⟩ = some x1 ∧ wr.cell? ⟨b, 2, none⟩ = some x2 := ⟨Blk.cell (h.2.1 _ hb).1 0, Blk.cell (h.2.1 _ hb).1 1, Blk.cell (h.2.1 _ hb).1 2⟩
end


set_option maxRecDepth 20000 in
set_option maxHeartbeats 8000000 in
theorem refMul_ok (R : Nat) (c0 : Bool) (n : Int) (hn : 0 ≤ n ∧ n < 1152921504606846976) (r m c l1 p1 l2 p2 b o b2 o2 : Nat) (A B : Nat → Int) (hr : 1 ≤ r ∧ r ≤ 12) (hm : 1 ≤ m ∧ m ≤ 12) (hc : 1 ≤ c ∧ c ≤ 12) (hl1 : l1 = r * m) (hl2 : l2 = m * c) (hcap : l1 ≤ p1) (hA : ∀ j, j < l1 → I64 (A j)) (hB : ∀ j, j < l2 → I64 (B j)) (w : World) (h : RC R c0 n w)
    (za : ∀ i, i < l1 → w.cell? ⟨b, o + i, none⟩ = some (.int .i64 (A i))) (zb : ∀ i, i < l2 → w.cell? ⟨b2, o2 + i, none⟩ = some (.int .i64 (B i))) (ob : b ≠ R) (ob2 : b2 ≠ R) :
    Calls Tryz.prog 30 #[.pointer (some ⟨R, 0, none⟩), .agg #[.int .i64 r, .int .i64 m, .slice (some ⟨b, o, none⟩) l1 p1], .agg #[.int .i64 m, .int .i64 c, .slice (some ⟨b2, o2, none⟩) l2 p2]] w fun e w' => DocP r c (r * c) (mulZ A B m c) 0 (fun w' => RC R (c0 || orC (mulG A B m c) (r * c)) (n + 2 * (m : Int) * ((r * c : Nat) : Int)) w' ∧ Mk R w w') w e w' := by
  have hlen : r * c ≤ 144 := by have := mul12n r c hr hc; omega
  have A1 := hide (fun w => refMCheck r m (some ⟨b, o, none⟩) l1 p1 w)
  rw [chk_ok ⟨by omega, by omega, by rw [hl1, Int.natCast_mul]⟩] at A1
  have A2 := hide (fun w => refMCheck m c (some ⟨b2, o2, none⟩) l2 p2 w)
  rw [chk_ok ⟨by omega, by omega, by rw [hl2, Int.natCast_mul]⟩] at A2
  obtain ⟨Y, hY⟩ : ∃ Y, Y = mulZ A B m c := ⟨_, rfl⟩
  rw [← hY]
  have EY : Hid (∀ i k, k < c → Y (i * c + k) = dotN (rowZ A m i) (colZ B c k) m ∧ mulG A B m c (i * c + k) = dotC (rowZ A m i) (colZ B c k) m) := fun i k hk => by
    rw [hY]
    constructor
    · show dotN (rowZ A m ((i * c + k) / c)) (colZ B c ((i * c + k) % c)) m = _
      rw [place_div i k c hk, place_mod i k c hk]
    · show dotC (rowZ A m ((i * c + k) / c)) (colZ B c ((i * c + k) % c)) m = _
      rw [place_div i k c hk, place_mod i k c hk]
  have HH := hide (And.intro hn (And.intro hr (And.intro hm (And.intro hc (And.intro hl1 (And.intro hl2 hcap))))))
  have HA := hide (And.intro hA hB)
  have HZ := hide (And.intro za (And.intro zb (And.intro ob ob2)))
  have lR := Blk.lt h
  obtain ⟨G, s3, x0, x1, x2⟩ := alloc3 w #[.int .i64 r, .int .i64 m, .slice (some ⟨b, o, none⟩) l1 p1] 24 #[.int .i64 m, .int .i64 c, .slice (some ⟨b2, o2, none⟩) l2 p2] 24 #[.int .i64 0, .int .i64 0, .slice none 0 0] 24
  have S0 := hide (And.intro G (And.intro x0 (And.intro x1 (And.intro x2 (And.intro h (And.intro lR s3))))))
  have HLN := hide hlen
  clear hlen hY hn hr hm hc hl1 hl2 hcap hA hB za zb ob ob2 h lR G s3 x0 x1 x2
  go_enter Tryz.func30, Tryz.ntmps30
  go_wp2_with fail
  generalize (((w.alloc (.cells #[.int .i64 r, .int .i64 m, .slice (some ⟨b, o, none⟩) l1 p1] 24)).alloc (.cells #[.int .i64 m, .int .i64 c, .slice (some ⟨b2, o2, none⟩) l2 p2] 24)).alloc (.cells #[.int .i64 0, .int .i64 0, .slice none 0 0] 24)) = w1 at *
  refine (unhide A1 _).mono ?_
  rintro e w2 ⟨rfl, g2⟩
  have y2' : w2.cell? ⟨w.heap.size + 1, 0, none⟩ = some (.int .i64 m) := Blk.cell (Blk.grown (unhide S0).2.2.1 g2) 0
  have y3' : w2.cell? ⟨w.heap.size + 1, 1, none⟩ = some (.int .i64 c) := Blk.cell (Blk.grown (unhide S0).2.2.1 g2) 1
  have y4' : w2.cell? ⟨w.heap.size + 1, 2, none⟩ = some (.slice (some ⟨b2, o2, none⟩) l2 p2) := Blk.cell (Blk.grown (unhide S0).2.2.1 g2) 2
  have S1 := hide g2
  clear g2
  go_wp2_with fail
  refine (unhide A2 _).mono ?_
  rintro e w3 ⟨rfl, g3⟩
  have g13 := gtrans (unhide S1) g3
  have S2 := hide g13
  have e0 : w3.cell? ⟨w.heap.size, 0, none⟩ = some (.int .i64 r) := Blk.cell (Blk.grown (unhide S0).2.1 g13) 0
  have e1 : w3.cell? ⟨w.heap.size, 1, none⟩ = some (.int .i64 m) := Blk.cell (Blk.grown (unhide S0).2.1 g13) 1
  have f0 : w3.cell? ⟨w.heap.size + 1, 0, none⟩ = some (.int .i64 m) := Blk.cell (Blk.grown (unhide S0).2.2.1 g13) 0
  have f1 : w3.cell? ⟨w.heap.size + 1, 1, none⟩ = some (.int .i64 c) := Blk.cell (Blk.grown (unhide S0).2.2.1 g13) 1
  clear g3 g13 S1 y2' y3' y4' A1 A2
  go_wp2_with fail
  obtain ⟨L, hL⟩ : ∃ L, w3.heap.size = L := ⟨_, rfl⟩
  have ST : Hid (GA w R [(L, #[.int .i64 r, .int .i64 c, (.slice none 0 0)]), (w.heap.size, #[.int .i64 r, .int .i64 m, .slice (some ⟨b, o, none⟩) l1 p1]), (w.heap.size + 1, #[.int .i64 m, .int .i64 c, .slice (some ⟨b2, o2, none⟩) l2 p2]), (w.heap.size + 1 + 1, #[.int .i64 0, .int .i64 0, .slice none 0 0])] [] (L + 1) Y (c0 || orC (mulG A B m c) (0 * c)) (n + 2 * (m : Int) * ((0 * c : Nat) : Int)) (0 * c) (.slice none 0 0) (w3.alloc (.cells #[.int .i64 r, .int .i64 c, .slice none 0 0] 24))) := by
    obtain ⟨s1, s2, s3, s4, s5, s6, s7⟩ := unhide S0
    have G3 : Grown w3 (w3.alloc (.cells #[.int .i64 r, .int .i64 c, .slice none 0 0] 24)) := (Grown.refl _).alloc _ _
    have gg := gtrans s1 (unhide S2)
    have hs := Blk.lt (Blk.grown s4 (unhide S2))
    refine ⟨by rw [Nat.zero_mul]; exact World.ownsRow_nil _ _ _ _, fun q hq => ?_, fun q hq => absurd hq List.not_mem_nil, ?_, Mk.of (Mod.of (gtrans gg G3)), s6, by have := gg.2.2; omega, by simp; omega⟩
    · have nw : Blk L #[.int .i64 r, .int .i64 c, .slice none 0 0] 24 (w3.alloc (.cells #[.int .i64 r, .int .i64 c, .slice none 0 0] 24)) := by rw [← hL]; exact Blk.new w3 _ _
      have hgs := gg.2.2
      have g23 := gtrans (unhide S2) G3
      simp only [List.mem_cons, List.not_mem_nil, or_false] at hq
      rcases hq with rfl | rfl | rfl | rfl
      · exact ⟨nw, by show w.heap.size ≤ L; omega, by show L < L + 1; omega⟩
      · exact ⟨Blk.grown s2 g23, Nat.le_refl _, by show w.heap.size < L + 1; omega⟩
      · exact ⟨Blk.grown s3 g23, by show w.heap.size ≤ w.heap.size + 1; omega, by show w.heap.size + 1 < L + 1; omega⟩
      · exact ⟨Blk.grown s4 g23, by show w.heap.size ≤ w.heap.size + 1 + 1; omega, by show w.heap.size + 1 + 1 < L + 1; omega⟩
    · rw [Nat.zero_mul]
      show RC _ (c0 || false) (n + 2 * (m : Int) * 0) _
      rw [Bool.or_false, Int.mul_zero, Int.add_zero]
      exact Blk.grown s5 (gtrans gg G3)
  have HLs : Hid (w.heap.size + 1 + 1 < L) := by rw [← hL]; exact Blk.lt (Blk.grown (unhide S0).2.2.2.1 (unhide S2))
  rw [hL]
  generalize w3.alloc (.cells #[.int .i64 r, .int .i64 c, .slice none 0 0] 24) = w4 at *
  clear S0 S2 e0 e1 f0 f1 hL
  go_loopw [9] (fun i wr => ∃ j : Nat, j ≤ r ∧ i = .int .i64 j ∧ Hid (∃ v, GA w R [(L, #[.int .i64 r, .int .i64 c, v]), (w.heap.size, #[.int .i64 r, .int .i64 m, .slice (some ⟨b, o, none⟩) l1 p1]), (w.heap.size + 1, #[.int .i64 m, .int .i64 c, .slice (some ⟨b2, o2, none⟩) l2 p2]), (w.heap.size + 1 + 1, #[.int .i64 0, .int .i64 0, .slice none 0 0])] [] (L + 1) Y (c0 || orC (mulG A B m c) (j * c)) (n + 2 * (m : Int) * ((j * c : Nat) : Int)) (j * c) v wr)) (fun i _ => r - (intOf i).toNat)
  case atStart => exact ⟨0, Nat.zero_le _, rfl, _, unhide ST⟩
  case round =>
    obtain ⟨j, hj, rfl, HI0⟩ := hrel
    clear ST
    obtain ⟨v, hI⟩ := unhide HI0
    have HI := hide hI
    clear hI
    obtain ⟨y0, y1, y2⟩ := (unhide HI).cells (b := w.heap.size) (x0 := .int .i64 r) (x1 := .int .i64 m) (x2 := .slice (some ⟨b, o, none⟩) l1 p1) (by simp)
    by_cases hlt : j < r
    · have RW := hide (refRow_ok r m j l1 p1 b o A (unhide HH).2.1 (unhide HH).2.2.1 hlt (unhide HH).2.2.2.2.1 (unhide HH).2.2.2.2.2.2 wr (fun i hi => (unhide HI).2.2.2.2.1.cell ((unhide HZ).1 i hi) (unhide HZ).2.2.1))
      have IR : Hid (∀ i, i < m → I64 (rowZ A m j i)) := fun i hi => (unhide HA).1 _ (by rw [(unhide HH).2.2.2.2.1]; exact place_in j i r m hlt hi)
      have hj1 : j ≤ 1000000 := Nat.le_trans hj (Nat.le_trans (unhide HH).2.1.2 (by omega))
      have B4 : Hid (j + 1 ≤ r) := hlt
      clear hj hlt HI0
      go_wp2_with fail
      refine (unhide RW).mono ?_
      rintro e w5 ⟨ao1, cap1, rfl, hc1, row1, off1, kp1⟩
      have G5 : Hid (GA w R [(L, #[.int .i64 r, .int .i64 c, v]), (w.heap.size, #[.int .i64 r, .int .i64 m, .slice (some ⟨b, o, none⟩) l1 p1]), (w.heap.size + 1, #[.int .i64 m, .int .i64 c, .slice (some ⟨b2, o2, none⟩) l2 p2]), (w.heap.size + 1 + 1, #[.int .i64 0, .int .i64 0, .slice none 0 0])] [(ao1, m, rowZ A m j)] (L + 1) Y (c0 || orC (mulG A B m c) (j * c + 0)) (n + 2 * (m : Int) * ((j * c + 0 : Nat) : Int)) (j * c + 0) v w5 ∧ Off L m ao1) := ⟨(unhide HI).row kp1 row1 off1, off1 L ((unhide HI).2.2.2.2.2.2.2)⟩
      clear RW HI kp1 row1 off1 y0 y1 y2
      go_wp2_with fail
      go_loopw [12] (fun i wr => ∃ k : Nat, k ≤ c ∧ i = .int .i64 k ∧ Hid (∃ v, GA w R [(L, #[.int .i64 r, .int .i64 c, v]), (w.heap.size, #[.int .i64 r, .int .i64 m, .slice (some ⟨b, o, none⟩) l1 p1]), (w.heap.size + 1, #[.int .i64 m, .int .i64 c, .slice (some ⟨b2, o2, none⟩) l2 p2]), (w.heap.size + 1 + 1, #[.int .i64 0, .int .i64 0, .slice none 0 0])] [(ao1, m, rowZ A m j)] (L + 1) Y (c0 || orC (mulG A B m c) (j * c + k)) (n + 2 * (m : Int) * ((j * c + k : Nat) : Int)) (j * c + k) v wr)) (fun i _ => c - (intOf i).toNat)
      case atStart => exact ⟨0, Nat.zero_le _, rfl, _, (unhide G5).1⟩
      case round =>
        obtain ⟨k, hk, rfl, HI0⟩ := hrel
        obtain ⟨v, hI⟩ := unhide HI0
        have HI := hide hI
        clear hI
        obtain ⟨y0, y1, y2⟩ := (unhide HI).cells (b := w.heap.size + 1) (x0 := .int .i64 m) (x1 := .int .i64 c) (x2 := .slice (some ⟨b2, o2, none⟩) l2 p2) (by simp)
        by_cases hlt : k < c
        · have CW := hide (refColumn m c k l2 p2 b2 o2 B (unhide HH).2.2.1 (unhide HH).2.2.2.1 hlt (unhide HH).2.2.2.2.2.1 wr (fun i hi => (unhide HI).2.2.2.2.1.cell ((unhide HZ).2.1 i hi) (unhide HZ).2.2.2))
          have EK : Hid (Y (j * c + k) = dotN (rowZ A m j) (colZ B c k) m ∧ (c0 || orC (mulG A B m c) (j * c + k + 1)) = (c0 || orC (mulG A B m c) (j * c + k) || dotC (rowZ A m j) (colZ B c k) m) ∧ n + 2 * (m : Int) * ((j * c + k + 1 : Nat) : Int) = n + 2 * (m : Int) * ((j * c + k : Nat) : Int) + 2 * (m : Int)) := by
            obtain ⟨q1, q2⟩ := unhide EY j k hlt
            refine ⟨q1, ?_, bnd_succ n m (j * c + k)⟩
            show (c0 || (orC (mulG A B m c) (j * c + k) || mulG A B m c (j * c + k))) = _
            rw [q2, Bool.or_assoc]
          have hq : j * c + k ≤ 144 := by have h1 := place_in j k r c (unhide B4) hlt; have := unhide HLN; omega
          have BN : Hid (0 ≤ n + 2 * (m : Int) * ((j * c + k : Nat) : Int) ∧ n + 2 * (m : Int) * ((j * c + k : Nat) : Int) < 2305843009213693952) := by
            have h1 := (unhide HH).1
            have h2 := bnd m (j * c + k) (unhide HH).2.2.1.2 hq
            show _ ∧ _
            omega
          have IC : Hid (∀ i, i < m → I64 (colZ B c k i)) := fun i hi => (unhide HA).2 _ (by rw [(unhide HH).2.2.2.2.2.1]; exact place_in i k m c hi hlt)
          have hk1 : k ≤ 1000000 := Nat.le_trans hk (Nat.le_trans (unhide HH).2.2.2.1.2 (by omega))
          have C4 : Hid (k + 1 ≤ c) := hlt
          have EQ : Hid (j * c + (k + 1) = j * c + k + 1) := rfl
          have hq1 : Hid (j * c + k ≤ 1000000) := Nat.le_trans hq (by omega)
          clear hk hlt HI0 hq
          obtain ⟨cq1, hcq1⟩ : ∃ x, (c0 || orC (mulG A B m c) (j * c + k + 1)) = x := ⟨_, rfl⟩
          obtain ⟨nq1, hnq1⟩ : ∃ x, n + 2 * (m : Int) * ((j * c + k + 1 : Nat) : Int) = x := ⟨_, rfl⟩
          rw [hcq1, hnq1] at EK
          have E1 := hide hcq1
          have E2 := hide hnq1
          clear hcq1 hnq1
          generalize n + 2 * (m : Int) * ((j * c + k : Nat) : Int) = nq at EK BN HI
          generalize (c0 || orC (mulG A B m c) (j * c + k)) = cq at EK HI
          obtain ⟨q, hq⟩ : ∃ q, j * c + k = q := ⟨_, rfl⟩
          rw [hq] at EK HI hq1
          go_wp2_with fail
          refine (unhide CW).mono ?_
          rintro e w6 ⟨ao2, cap2, rfl, hc2, row2, off2, kp2⟩
          have G6 := hide ((unhide HI).row kp2 row2 off2)
          clear CW HI kp2 row2 off2 y0 y1 y2
          go_wp2_with fail
          refine (refUDot_ok R cq nq ao1 ao2 m cap1 cap2 (rowZ A m j) (colZ B c k) (unhide BN) (by have := unhide HH; omega) IR IC w6 (unhide G6).2.2.2.1 ((unhide G6).2.2.1 (ao1, m, rowZ A m j) (by simp)).1 ((unhide G6).2.2.1 (ao1, m, rowZ A m j) (by simp)).2.1 ((unhide G6).2.2.1 (ao2, m, colZ B c k) (by simp)).1 ((unhide G6).2.2.1 (ao2, m, colZ B c k) (by simp)).2.1).mono ?_
          rintro e w7 ⟨rfl, u7, m7⟩
          have G7 := hide (((unhide G6).mod m7 u7).sub (rows' := [(ao1, m, rowZ A m j)]) (by simp))
          clear G6 m7 u7 hc2
          rw [← (unhide EK).2.1, ← (unhide EK).2.2] at G7
          have EZ := hide (unhide EK).1
          clear EK IC BN
          generalize dotN (rowZ A m j) (colZ B c k) m = z at *
          obtain ⟨t0, t1, t2⟩ := (unhide G7).cells (b := L) (x0 := .int .i64 r) (x1 := .int .i64 c) (x2 := v) (by simp)
          have hzL : L < w7.heap.size := heap_gt t0
          have B3 : Hid (L + 1 ≤ (w7.alloc (.cells #[.int .i64 z] 3)).heap.size) := by
            show _ ≤ _
            simp
            omega
          go_wp2_with (at_builtin; refine wpList_append_at rfl _ _ rfl (L + 1) _ _ _ rfl ((unhide G7).1.alloc _) ⟨w7.heap.size, 0, none⟩ 1 1 [.int .i64 z] rfl rfl (news_one _ _ _) (one_cell _) ⟨by decide, by decide⟩ (unhide hq1) (unhide B3) ?_; intro v' w8 hown hgrow hwh; obtain ⟨g', cap', rfl⟩ := ownsRow_succ hown; have G8 := hide (GA.app (unhide G7) (unhide EZ) hown hgrow hwh); clear hown hgrow hwh t0 t1 t2; have q2 : w8.cell? ⟨L, 2, none⟩ = some v := (Blk.cell ((unhide G8).2.1 _ List.mem_cons_self).1 2); have q3 := Blk.free ((unhide G8).2.1 _ List.mem_cons_self).1 2)
          have HP : Hid (∃ v, GA w R [(L, #[.int .i64 r, .int .i64 c, v]), (w.heap.size, #[.int .i64 r, .int .i64 m, .slice (some ⟨b, o, none⟩) l1 p1]), (w.heap.size + 1, #[.int .i64 m, .int .i64 c, .slice (some ⟨b2, o2, none⟩) l2 p2]), (w.heap.size + 1 + 1, #[.int .i64 0, .int .i64 0, .slice none 0 0])] [(ao1, m, rowZ A m j)] (L + 1) Y (c0 || orC (mulG A B m c) (j * c + (k + 1))) (n + 2 * (m : Int) * ((j * c + (k + 1) : Nat) : Int)) (j * c + (k + 1)) v (w8.setCell ⟨L, 2, none⟩ (.slice (some ⟨g', 0, none⟩) (q + 1) cap'))) := by
            have h9 := (unhide G8).set (u := .slice (some ⟨g', 0, none⟩) (q + 1) cap') (by have := unhide HLs; simp; omega) (by simp; exact (unhide G5).2)
            show ∃ v, _
            refine ⟨.slice (some ⟨g', 0, none⟩) (q + 1) cap', ?_⟩
            have e : j * c + (k + 1) = q + 1 := by rw [← hq]; rfl
            have e1 := unhide E1
            have e2 := unhide E2
            rw [hq] at e1 e2
            rw [e, e1, e2]
            exact h9
          go_roundw
          case rel => exact ⟨k + 1, unhide C4, by go_num, HP⟩
          case measure => have := unhide C4; simp [intOf]; omega
        · obtain rfl : k = c := by omega
          have HP : Hid (∃ v, GA w R [(L, #[.int .i64 r, .int .i64 k, v]), (w.heap.size, #[.int .i64 r, .int .i64 m, .slice (some ⟨b, o, none⟩) l1 p1]), (w.heap.size + 1, #[.int .i64 m, .int .i64 k, .slice (some ⟨b2, o2, none⟩) l2 p2]), (w.heap.size + 1 + 1, #[.int .i64 0, .int .i64 0, .slice none 0 0])] [] (L + 1) Y (c0 || orC (mulG A B m k) ((j + 1) * k)) (n + 2 * (m : Int) * (((j + 1) * k : Nat) : Int)) ((j + 1) * k) v wr) := by
            have e : (j + 1) * k = j * k + k := by rw [Nat.add_mul, Nat.one_mul]
            show ∃ v, _
            rw [e]
            exact ⟨v, (unhide HI).sub (by simp)⟩
          clear HI0 HI
          go_wp2
          go_roundw
          case rel => exact ⟨j + 1, unhide B4, by go_num, HP⟩
          case measure => have := unhide B4; simp [intOf]; omega
    · obtain rfl : j = r := by omega
      obtain ⟨h0, hbx, _, hu, hk, hl1, hl2, _⟩ := unhide HI
      obtain ⟨ao2, cap2, rfl, g1, g3, g4⟩ := owns_rowC h0
      obtain ⟨t0, t1, t2⟩ := (unhide HI).cells (b := L) (x0 := .int .i64 j) (x1 := .int .i64 c) (x2 := (.slice ao2 (j * c) cap2)) (by simp)
      obtain ⟨s0, s1, s2⟩ := (unhide HI).cells (b := w.heap.size + 1 + 1) (x0 := .int .i64 0) (x1 := .int .i64 0) (x2 := .slice none 0 0) (by simp)
      have b2 := (hbx (w.heap.size + 1 + 1, #[.int .i64 0, .int .i64 0, .slice none 0 0]) (by simp)).1
      have f := Blk.free b2
      have R6 := hide (And.intro b2 (And.intro g1 (And.intro g3 (And.intro g4 (And.intro hu (And.intro hk (And.intro hl1 hl2)))))))
      clear h0 hu hk g1 g3 g4 HI hl1 hl2 hbx b2 HI0
      generalize hjc : j * c = len at *
      go_wp2
      obtain ⟨b2, g1, g3, g4, hu, hk, hl1, hl2⟩ := unhide R6
      have P := putM b2 (.int .i64 j) (.int .i64 c) (.slice ao2 len cap2)
      generalize (((wr.setCell ⟨w.heap.size + 1 + 1, 0, none⟩ (.int .i64 j)).setCell ⟨w.heap.size + 1 + 1, 1, none⟩ (.int .i64 c)).setCell ⟨w.heap.size + 1 + 1, 2, none⟩ (.slice ao2 len cap2)) = wE at *
      have c0 : wE.cell? ⟨w.heap.size + 1 + 1, 0, none⟩ = some (.int .i64 j) := Blk.cell P.1 0
      have c1 : wE.cell? ⟨w.heap.size + 1 + 1, 1, none⟩ = some (.int .i64 c) := Blk.cell P.1 1
      have c2 : wE.cell? ⟨w.heap.size + 1 + 1, 2, none⟩ = some (.slice ao2 len cap2) := Blk.cell P.1 2
      refine bodyPost_ret (v := .tuple #[.agg #[.int .i64 j, .int .i64 c, .slice ao2 len cap2], .int .i64 0]) (by simp [results, Tryz.results30, go_sem, c0, c1, c2]) rfl ?_
      have := unhide HLs
      exact (show DocP _ _ _ _ _ _ _ _ _ from ⟨_, _, rfl, g1, g3.mod P.2 (g4 _ (by omega)), fun U hU => g4 U (by omega), Blk.keep hu P.2 (by omega), hk.new P.2 (by omega)⟩)


set_option maxHeartbeats 2000000 in
theorem refMul_bad (R : Nat) (R1 C1 R2 C2 : Int) (a1 a2 : Option Addr) (l1 p1 l2 p2 : Nat) (Z : Nat → Int) (hb : ¬ (okM R1 C1 l1 ∧ okM R2 C2 l2 ∧ C1 = R2)) (c0 : Bool) (n : Int) (w : World) (h : RC R c0 n w) :
    Calls Tryz.prog 30 #[.pointer (some ⟨R, 0, none⟩), .agg #[.int .i64 R1, .int .i64 C1, .slice a1 l1 p1], .agg #[.int .i64 R2, .int .i64 C2, .slice a2 l2 p2]] w fun e w' => DocP 0 0 0 Z 3 (fun w' => RC R c0 n w' ∧ Mk R w w') w e w' := by
  have A1 := hide (fun w => refMCheck R1 C1 a1 l1 p1 w)
  have A2 := hide (fun w => refMCheck R2 C2 a2 l2 p2 w)
  have lR := Blk.lt h
  obtain ⟨G, s3, x0, x1, x2⟩ := alloc3 w #[.int .i64 R1, .int .i64 C1, .slice a1 l1 p1] 24 #[.int .i64 R2, .int .i64 C2, .slice a2 l2 p2] 24 #[.int .i64 0, .int .i64 0, .slice none 0 0] 24
  have S0 := hide (And.intro G (And.intro x0 (And.intro x1 (And.intro x2 (And.intro h lR)))))
  clear h lR G s3 x0 x1 x2
  by_cases h1 : okM R1 C1 l1
  · rw [chk_ok h1] at A1
    by_cases h2 : okM R2 C2 l2
    · rw [chk_ok h2] at A2
      have h3 : ¬ C1 = R2 := fun e => hb ⟨h1, h2, e⟩
      have b3 : (C1 != R2) = true := by simpa using h3
      clear h1 h2 hb h3
      go_enter Tryz.func30, Tryz.ntmps30
      go_wp2_with fail
      generalize (((w.alloc (.cells #[.int .i64 R1, .int .i64 C1, .slice a1 l1 p1] 24)).alloc (.cells #[.int .i64 R2, .int .i64 C2, .slice a2 l2 p2] 24)).alloc (.cells #[.int .i64 0, .int .i64 0, .slice none 0 0] 24)) = w1 at *
      refine (unhide A1 _).mono ?_
      rintro e w2 ⟨rfl, g2⟩
      have S1 := hide g2
      have y2' : w2.cell? ⟨w.heap.size + 1, 0, none⟩ = some (.int .i64 R2) := Blk.cell (Blk.grown (unhide S0).2.2.1 g2) 0
      have y3' : w2.cell? ⟨w.heap.size + 1, 1, none⟩ = some (.int .i64 C2) := Blk.cell (Blk.grown (unhide S0).2.2.1 g2) 1
      have y4' : w2.cell? ⟨w.heap.size + 1, 2, none⟩ = some (.slice a2 l2 p2) := Blk.cell (Blk.grown (unhide S0).2.2.1 g2) 2
      clear g2
      go_wp2_with fail
      refine (unhide A2 _).mono ?_
      rintro e w3 ⟨rfl, g3⟩
      have S2 := hide (gtrans (unhide S1) g3)
      clear g3
      have e1' : w3.cell? ⟨w.heap.size, 1, none⟩ = some (.int .i64 C1) := Blk.cell (Blk.grown (unhide S0).2.1 (unhide S2)) 1
      have f0' : w3.cell? ⟨w.heap.size + 1, 0, none⟩ = some (.int .i64 R2) := Blk.cell (Blk.grown (unhide S0).2.2.1 (unhide S2)) 0
      have b2 := Blk.grown (unhide S0).2.2.2.1 (unhide S2)
      have e0 : w3.cell? ⟨w.heap.size + 1 + 1, 0, none⟩ = some (.int .i64 0) := Blk.cell b2 0
      have e1 : w3.cell? ⟨w.heap.size + 1 + 1, 1, none⟩ = some (.int .i64 0) := Blk.cell b2 1
      have e2 : w3.cell? ⟨w.heap.size + 1 + 1, 2, none⟩ = some (.slice none 0 0) := Blk.cell b2 2
      have f := Blk.free b2
      have R6 := hide b2
      clear b2
      go_wp2
      have b2 := unhide R6
      have P := putM b2 (.int .i64 0) (.int .i64 0) (.slice none 0 0)
      generalize (((w3.setCell ⟨w.heap.size + 1 + 1, 0, none⟩ (.int .i64 0)).setCell ⟨w.heap.size + 1 + 1, 1, none⟩ (.int .i64 0)).setCell ⟨w.heap.size + 1 + 1, 2, none⟩ (.slice none 0 0)) = wE at *
      have c0 : wE.cell? ⟨w.heap.size + 1 + 1, 0, none⟩ = some (.int .i64 0) := Blk.cell P.1 0
      have c1 : wE.cell? ⟨w.heap.size + 1 + 1, 1, none⟩ = some (.int .i64 0) := Blk.cell P.1 1
      have c2 : wE.cell? ⟨w.heap.size + 1 + 1, 2, none⟩ = some (.slice none 0 0) := Blk.cell P.1 2
      refine bodyPost_ret (v := .tuple #[.agg #[.int .i64 0, .int .i64 0, .slice none 0 0], .int .i64 3]) (by simp [results, Tryz.results30, go_sem, c0, c1, c2]) rfl ?_
      obtain ⟨G, _, _, _, h, lR⟩ := unhide S0
      have gg := gtrans G (unhide S2)
      exact (show DocP _ _ _ _ _ _ _ _ _ from ⟨_, _, rfl, Nat.le_refl _, Or.inl rfl, fun U hU hl => absurd hl (Nat.lt_irrefl _), Blk.keep (Blk.grown h gg) P.2 (by omega), (Mk.of (Mod.of gg)).new P.2 (by omega)⟩)
    · rw [chk_bad h2] at A2
      clear h1 h2 hb
      go_enter Tryz.func30, Tryz.ntmps30
      go_wp2_with fail
      generalize (((w.alloc (.cells #[.int .i64 R1, .int .i64 C1, .slice a1 l1 p1] 24)).alloc (.cells #[.int .i64 R2, .int .i64 C2, .slice a2 l2 p2] 24)).alloc (.cells #[.int .i64 0, .int .i64 0, .slice none 0 0] 24)) = w1 at *
      refine (unhide A1 _).mono ?_
      rintro e w2 ⟨rfl, g2⟩
      have S1 := hide g2
      have y2' : w2.cell? ⟨w.heap.size + 1, 0, none⟩ = some (.int .i64 R2) := Blk.cell (Blk.grown (unhide S0).2.2.1 g2) 0
      have y3' : w2.cell? ⟨w.heap.size + 1, 1, none⟩ = some (.int .i64 C2) := Blk.cell (Blk.grown (unhide S0).2.2.1 g2) 1
      have y4' : w2.cell? ⟨w.heap.size + 1, 2, none⟩ = some (.slice a2 l2 p2) := Blk.cell (Blk.grown (unhide S0).2.2.1 g2) 2
      clear g2
      go_wp2_with fail
      refine (unhide A2 _).mono ?_
      rintro e w3 ⟨rfl, g3⟩
      have S2 := hide (gtrans (unhide S1) g3)
      clear g3
      have b2 := Blk.grown (unhide S0).2.2.2.1 (unhide S2)
      have e0 : w3.cell? ⟨w.heap.size + 1 + 1, 0, none⟩ = some (.int .i64 0) := Blk.cell b2 0
      have e1 : w3.cell? ⟨w.heap.size + 1 + 1, 1, none⟩ = some (.int .i64 0) := Blk.cell b2 1
      have e2 : w3.cell? ⟨w.heap.size + 1 + 1, 2, none⟩ = some (.slice none 0 0) := Blk.cell b2 2
      have f := Blk.free b2
      have R6 := hide b2
      clear b2
      go_wp2
      have b2 := unhide R6
      have P := putM b2 (.int .i64 0) (.int .i64 0) (.slice none 0 0)
      generalize (((w3.setCell ⟨w.heap.size + 1 + 1, 0, none⟩ (.int .i64 0)).setCell ⟨w.heap.size + 1 + 1, 1, none⟩ (.int .i64 0)).setCell ⟨w.heap.size + 1 + 1, 2, none⟩ (.slice none 0 0)) = wE at *
      have c0 : wE.cell? ⟨w.heap.size + 1 + 1, 0, none⟩ = some (.int .i64 0) := Blk.cell P.1 0
      have c1 : wE.cell? ⟨w.heap.size + 1 + 1, 1, none⟩ = some (.int .i64 0) := Blk.cell P.1 1
      have c2 : wE.cell? ⟨w.heap.size + 1 + 1, 2, none⟩ = some (.slice none 0 0) := Blk.cell P.1 2
      refine bodyPost_ret (v := .tuple #[.agg #[.int .i64 0, .int .i64 0, .slice none 0 0], .int .i64 3]) (by simp [results, Tryz.results30, go_sem, c0, c1, c2]) rfl ?_
      obtain ⟨G, _, _, _, h, lR⟩ := unhide S0
      have gg := gtrans G (unhide S2)
      exact (show DocP _ _ _ _ _ _ _ _ _ from ⟨_, _, rfl, Nat.le_refl _, Or.inl rfl, fun U hU hl => absurd hl (Nat.lt_irrefl _), Blk.keep (Blk.grown h gg) P.2 (by omega), (Mk.of (Mod.of gg)).new P.2 (by omega)⟩)
  · rw [chk_bad h1] at A1
    clear h1 hb A2
    go_enter Tryz.func30, Tryz.ntmps30
    go_wp2_with fail
    generalize (((w.alloc (.cells #[.int .i64 R1, .int .i64 C1, .slice a1 l1 p1] 24)).alloc (.cells #[.int .i64 R2, .int .i64 C2, .slice a2 l2 p2] 24)).alloc (.cells #[.int .i64 0, .int .i64 0, .slice none 0 0] 24)) = w1 at *
    refine (unhide A1 _).mono ?_
    rintro e w2 ⟨rfl, g2⟩
    have S1 := hide g2
    clear g2
    have b2 := Blk.grown (unhide S0).2.2.2.1 (unhide S1)
    have e0 : w2.cell? ⟨w.heap.size + 1 + 1, 0, none⟩ = some (.int .i64 0) := Blk.cell b2 0
    have e1 : w2.cell? ⟨w.heap.size + 1 + 1, 1, none⟩ = some (.int .i64 0) := Blk.cell b2 1
    have e2 : w2.cell? ⟨w.heap.size + 1 + 1, 2, none⟩ = some (.slice none 0 0) := Blk.cell b2 2
    have f := Blk.free b2
    have R6 := hide b2
    clear b2
    go_wp2
    have b2 := unhide R6
    have P := putM b2 (.int .i64 0) (.int .i64 0) (.slice none 0 0)
    generalize (((w2.setCell ⟨w.heap.size + 1 + 1, 0, none⟩ (.int .i64 0)).setCell ⟨w.heap.size + 1 + 1, 1, none⟩ (.int .i64 0)).setCell ⟨w.heap.size + 1 + 1, 2, none⟩ (.slice none 0 0)) = wE at *
    have c0 : wE.cell? ⟨w.heap.size + 1 + 1, 0, none⟩ = some (.int .i64 0) := Blk.cell P.1 0
    have c1 : wE.cell? ⟨w.heap.size + 1 + 1, 1, none⟩ = some (.int .i64 0) := Blk.cell P.1 1
    have c2 : wE.cell? ⟨w.heap.size + 1 + 1, 2, none⟩ = some (.slice none 0 0) := Blk.cell P.1 2
    refine bodyPost_ret (v := .tuple #[.agg #[.int .i64 0, .int .i64 0, .slice none 0 0], .int .i64 3]) (by simp [results, Tryz.results30, go_sem, c0, c1, c2]) rfl ?_
    obtain ⟨G, _, _, _, h, lR⟩ := unhide S0
    have gg := gtrans G (unhide S1)
    exact (show DocP _ _ _ _ _ _ _ _ _ from ⟨_, _, rfl, Nat.le_refl _, Or.inl rfl, fun U hU hl => absurd hl (Nat.lt_irrefl _), Blk.keep (Blk.grown h gg) P.2 (by omega), (Mk.of (Mod.of gg)).new P.2 (by omega)⟩)

theorem refMulAny (R : Nat) (c0 : Bool) (n0 : Int) (hn : 0 ≤ n0 ∧ n0 < 1152921504606846976) (R1 C1 R2 C2 : Int) (a1 a2 : Option Addr) (l1 p1 l2 p2 : Nat) (A B : Nat → Int) (hp : l1 ≤ p1) (hA : ∀ j, j < l1 → I64 (A j)) (hB : ∀ j, j < l2 → I64 (B j)) (w : World) (h : RC R c0 n0 w) (ra : Row w a1 l1 A) (oa : Off R l1 a1) (rb : Row w a2 l2 B) (ob : Off R l2 a2) (q : MO) (hq : mulO R1 C1 R2 C2 l1 l2 A B c0 n0 = q) :
    Calls Tryz.prog 30 #[.pointer (some ⟨R, 0, none⟩), .agg #[.int .i64 R1, .int .i64 C1, .slice a1 l1 p1], .agg #[.int .i64 R2, .int .i64 C2, .slice a2 l2 p2]] w fun e w' => DocP q.r q.c q.len q.Z q.err (fun w' => RC R q.cut q.n w' ∧ Mk R w w') w e w' := by
  subst hq
  unfold mulO
  by_cases hg : okM R1 C1 l1 ∧ okM R2 C2 l2 ∧ C1 = R2
  · rw [if_pos hg]
    obtain ⟨h1, h2, h3⟩ := hg
    obtain ⟨r, m, rfl, rfl, hr, hm, e1, k1, k2⟩ := h1.nat
    obtain ⟨m', c, e2, rfl, hm', hc, e3, k3, k4⟩ := h2.nat
    obtain rfl : m = m' := by omega
    obtain ⟨b, o, rfl, za⟩ := ra.some k1
    obtain ⟨b2, o2, rfl, zb⟩ := rb.some k3
    subst h3
    exact refMul_ok R c0 n0 hn r m c l1 p1 l2 p2 b o b2 o2 A B hr hm hc e1 e3 hp hA hB w h za zb (off_at oa k1) (off_at ob k3)
  · rw [if_neg hg]
    exact refMul_bad R R1 C1 R2 C2 a1 a2 l1 p1 l2 p2 A hg c0 n0 w h
theorem refRowAny (R1 C1 : Int) (a1 : Option Addr) (l1 p1 : Nat) (A : Nat → Int) (i : Int) (hp : l1 ≤ p1) (w : World) (ra : Row w a1 l1 A) (q : MO) (hq : rowO R1 C1 l1 A i = q) :
    Calls Tryz.prog 51 #[.agg #[.int .i64 R1, .int .i64 C1, .slice a1 l1 p1], .int .i64 i] w fun e w' => LiD q.len q.Z q.err (Kp w) w e w' := by
  subst hq
  unfold rowO
  by_cases hg : okM R1 C1 l1
  · obtain ⟨r, c, rfl, rfl, hr, hc, e1, k1, k2⟩ := hg.nat
    obtain ⟨b, o, rfl, za⟩ := ra.some k1
    by_cases hi : 0 ≤ i ∧ i < (r : Int)
    · rw [if_pos ⟨hg, hi.1, hi.2⟩]
      obtain ⟨k, rfl⟩ : ∃ k : Nat, i = k := ⟨i.toNat, by omega⟩
      exact refRow_ok r c k l1 p1 b o A hr hc (by omega) e1 hp w za
    · rw [if_neg (fun h => hi ⟨h.2.1, h.2.2⟩)]
      exact refRow_no r c i (some ⟨b, o, none⟩) l1 p1 A hg (by omega) w
  · rw [if_neg (fun h => hg h.1)]
    exact refRow_bad R1 C1 i a1 l1 p1 A hg w


end Go.Proofs.YtopaakjildmjcaaGreat

/- The document's mat: Diag, Eye. -/
namespace Go.Proofs.YtopaakjildmjcaaGreat
open Go.RowKit Go.Shelf Go.Proofs.Wd
set_option linter.unusedVariables false
set_option linter.unusedSimpArgs false
set_option maxRecDepth 10000

/-- A diagonal under way. -/
def dgZ (L : Nat → Int) (n k : Nat) : Nat → Int := fun p => if p / n = p % n ∧ p / n < k then L (p / n) else 0
theorem dgZ_zero (L : Nat → Int) (n : Nat) : (fun _ => (0 : Int)) = dgZ L n 0 := by
  funext p
  unfold dgZ
  rw [if_neg (fun h => Nat.not_lt_zero _ h.2)]
theorem dgZ_succ (L : Nat → Int) (n k p : Nat) (hk : k < n) : (if p = k * n + k then L k else dgZ L n k p) = dgZ L n (k + 1) p := by
  by_cases e : p = k * n + k
  · rw [if_pos e, e]
    unfold dgZ
    rw [place_div k k n hk, place_mod k k n hk, if_pos ⟨rfl, Nat.lt_succ_self _⟩]
  · rw [if_neg e]
    unfold dgZ
    by_cases h : p / n = p % n ∧ p / n < k
    · rw [if_pos h, if_pos ⟨h.1, by omega⟩]
    · rw [if_neg h, if_neg]
      rintro ⟨h1, h2⟩
      have h3 : p / n = k := by
        have : ¬ p / n < k := fun h3 => h ⟨h1, h3⟩
        omega
      have := place_eq p n
      rw [← h1, h3] at this
      exact e this.symm
theorem dgZ_all (L : Nat → Int) (n p : Nat) (h : p < n * n) : dgZ L n n p = diagZ L n p := by
  have := place_lt p n n h
  unfold dgZ diagZ
  by_cases e : p / n = p % n
  · rw [if_pos ⟨e, this.1⟩, if_pos e]
  · rw [if_neg (fun h => e h.1), if_neg e]
def DgI (w : World) (n nn : Nat) (L : Nat → Int) (k : Nat) (wr : World) : Prop :=
  Blk w.heap.size #[.int .i64 0, .int .i64 0, .slice none 0 0] 24 wr ∧ Blk (w.heap.size + 1) (ints nn (dgZ L n k)) 3 wr ∧ Blk (w.heap.size + 1 + 1) #[.int .i64 n, .int .i64 n, .slice (some ⟨w.heap.size + 1, 0, none⟩) nn nn] 24 wr ∧ Kp w wr
theorem DgI.set {w wr : World} {n nn k p : Nat} {L : Nat → Int} {x : Int} (h : DgI w n nn L k wr) (hk : k < n) (hp : k * n + k = p) (hx : L k = x) : DgI w n nn L (k + 1) (wr.setCell ⟨w.heap.size + 1, p, none⟩ (.int .i64 x)) := by
  obtain ⟨h1, h2, h3, h4⟩ := h
  have q : Mod (w.heap.size + 1) wr (wr.setCell ⟨w.heap.size + 1, p, none⟩ (.int .i64 x)) := (Mod.refl _ _).setCell _ _
  refine ⟨Blk.keep h1 q (by omega), ?_, Blk.keep h3 q (by omega), h4.mod q (by omega)⟩
  have := Blk.setI h2 p x
  rwa [ints_congr nn _ (dgZ L n (k + 1)) (fun i hi => by rw [← hp, ← hx]; exact dgZ_succ L n k i hk)] at this


set_option maxRecDepth 20000 in
set_option maxHeartbeats 4000000 in
theorem refDiag_ok (n cap : Nat) (ao : Option Addr) (L : Nat → Int) (hn : 1 ≤ n ∧ n ≤ 12) (w : World) (hr : Row w ao n L) :
    Calls Tryz.prog 50 #[.slice ao n cap] w fun e w' => DocP n n (n * n) (diagZ L n) 0 (Kp w) w e w' := by
  obtain ⟨nn, hnn⟩ : ∃ nn, n * n = nn := ⟨_, rfl⟩
  have hb : nn ≤ 144 := by have := mul12n n n hn hn; omega
  have h0 : 1 ≤ (n : Int) := by omega
  have h1 : (n : Int) ≤ 12 := by omega
  have nn6 : nn ≤ 1000000 := by omega
  rw [hnn]
  have EN := hide hnn
  have MK := make_ints nn nn6
  obtain ⟨G, s3, x0, x1, x2⟩ := alloc3 w #[.int .i64 0, .int .i64 0, .slice none 0 0] 24 (ints nn (fun _ => 0)) 3 #[.int .i64 n, .int .i64 n, .slice (some ⟨w.heap.size + 1, 0, none⟩) nn nn] 24
  have ST : Hid (DgI w n nn L 0 (((w.alloc (.cells #[.int .i64 0, .int .i64 0, .slice none 0 0] 24)).alloc (.cells (ints nn (fun _ => 0)) 3)).alloc (.cells #[.int .i64 n, .int .i64 n, .slice (some ⟨w.heap.size + 1, 0, none⟩) nn nn] 24))) := by
    refine ⟨x0, ?_, x2, Kp.of G⟩
    rw [← dgZ_zero]
    exact x1
  have HR := hide hr
  have wa : wrap64 ((n : Int) * (n : Int)) = (nn : Int) := wrapP n n nn hnn nn6
  clear hr G s3 x0 x1 x2 hnn hn
  go_enter Tryz.func50, Tryz.ntmps50
  go_wp2_with fail
  generalize (((w.alloc (.cells #[.int .i64 0, .int .i64 0, .slice none 0 0] 24)).alloc (.cells (ints nn (fun _ => 0)) 3)).alloc (.cells #[.int .i64 n, .int .i64 n, .slice (some ⟨w.heap.size + 1, 0, none⟩) nn nn] 24)) = w1 at *
  clear MK wa
  go_loopw [6] (fun i wr => ∃ k : Nat, k ≤ n ∧ i = .int .i64 k ∧ Hid (DgI w n nn L k wr)) (fun i _ => n - (intOf i).toNat)
  case atStart => exact ⟨0, Nat.zero_le _, rfl, unhide ST⟩
  case round =>
    obtain ⟨k, hk, rfl, HI⟩ := hrel
    clear ST
    by_cases hlt : k < n
    · obtain ⟨b, o, rfl, hc⟩ := (unhide HR).at hlt
      obtain ⟨m, hm⟩ : ∃ m, k * n = m := ⟨_, rfl⟩
      obtain ⟨p, hp⟩ : ∃ p, m + k = p := ⟨_, rfl⟩
      have hpl : p < nn := by
        have h1 := place_in k k n n hlt hlt
        rw [unhide EN, hm, hp] at h1
        exact h1
      obtain ⟨x, ex⟩ : ∃ x, L k = x := ⟨_, rfl⟩
      rw [ex] at hc
      have hc1 : wr.cell? ⟨b, o + k, none⟩ = some (.int .i64 x) := (unhide HI).2.2.2.cell hc
      have hc2 : wr.cell? ⟨w.heap.size + 1 + 1, 2, none⟩ = some (.slice (some ⟨w.heap.size + 1, 0, none⟩) nn nn) := Blk.cell (unhide HI).2.2.1 2
      obtain ⟨y, hc3⟩ : ∃ y, wr.cell? ⟨w.heap.size + 1, p, none⟩ = some (.int .i64 y) := ⟨_, by rw [Blk.cell (unhide HI).2.1, ints_at nn _ p hpl]⟩
      have hfz : wr.frozen? ⟨w.heap.size + 1, p, none⟩ = false := Blk.free (unhide HI).2.1 p
      have HP : Hid (DgI w n nn L (k + 1) (wr.drew.setCell ⟨w.heap.size + 1, p, none⟩ (.int .i64 x))) := DgI.set (wr := wr.drew) (unhide HI) hlt (by rw [hm]; exact hp) ex
      have i0 : (0 : Int) ≤ (k : Int) := by omega
      have i1 : (k : Int) < (n : Int) := by omega
      have i2 : (0 : Int) ≤ (p : Int) := by omega
      have i3 : (p : Int) < (nn : Int) := by omega
      have hk1 : k ≤ 1000000 := by omega
      have hm6 : m ≤ 1000000 := by omega
      have hp6 : p ≤ 1000000 := by omega
      have B4 : Hid (k + 1 ≤ n) := hlt
      have wa : IntKind.i64.wrap ((k : Int) * (n : Int)) = (m : Int) := wrapPi k n m hm hm6
      have wb : IntKind.i64.wrap ((m : Int) + (k : Int)) = (p : Int) := wrapAi m k p hp hp6
      clear hm hp ex hc HI hpl
      go_wp2
      refine region_G (fun w' => w'.cell? ⟨b, o + k, none⟩ = some (.int .i64 x) ∧ w'.cell? ⟨w.heap.size + 1 + 1, 2, none⟩ = some (.slice (some ⟨w.heap.size + 1, 0, none⟩) nn nn)) 12 (by kernel_rfl) ⟨hc1, hc2⟩ (fun hHeld => ?_)
      refine take_G (i := 0) (d := 28) (v := .pointer (some ⟨w.heap.size + 1 + 1, 2, none⟩)) rfl rfl (by kernel_rfl) (by kernel_rfl) (by kernel_rfl) (by kernel_rfl) (by kernel_rfl) (Or.inl ⟨by rfl, ?_⟩) (by assumption) ?_
      · intro w hSw
        (try dsimp only at hSw)
        go_simp
      (try simp only [Act.put, List.setIfInBounds_toArray, List.set_cons_zero, List.set_cons_succ])
      refine take_G (i := 1) (d := 29) (v := .slice (some ⟨w.heap.size + 1, 0, none⟩) nn nn) rfl rfl (by kernel_rfl) (by kernel_rfl) (by kernel_rfl) (by kernel_rfl) (by kernel_rfl) (Or.inl ⟨by rfl, ?_⟩) (by assumption) ?_
      · intro w hSw
        (try dsimp only at hSw)
        go_simp
      (try simp only [Act.put, List.setIfInBounds_toArray, List.set_cons_zero, List.set_cons_succ])
      refine take_G (i := 2) (d := 30) (v := .int .i64 (k : Int)) rfl rfl (by kernel_rfl) (by kernel_rfl) (by kernel_rfl) (by kernel_rfl) (by kernel_rfl) (Or.inl ⟨by rfl, ?_⟩) (by assumption) ?_
      · intro w hSw
        (try dsimp only at hSw)
        go_simp
      (try simp only [Act.put, List.setIfInBounds_toArray, List.set_cons_zero, List.set_cons_succ])
      refine take_G (i := 3) (d := 31) (v := .int .i64 (n : Int)) rfl rfl (by kernel_rfl) (by kernel_rfl) (by kernel_rfl) (by kernel_rfl) (by kernel_rfl) (Or.inl ⟨by rfl, ?_⟩) (by assumption) ?_
      · intro w hSw
        (try dsimp only at hSw)
        go_simp
      (try simp only [Act.put, List.setIfInBounds_toArray, List.set_cons_zero, List.set_cons_succ])
      refine take_G (i := 4) (d := 32) (v := .int .i64 (m : Int)) rfl rfl (by kernel_rfl) (by kernel_rfl) (by kernel_rfl) (by kernel_rfl) (by kernel_rfl) (Or.inl ⟨by rfl, ?_⟩) (by assumption) ?_
      · intro w hSw
        (try dsimp only at hSw)
        go_simp
      (try simp only [Act.put, List.setIfInBounds_toArray, List.set_cons_zero, List.set_cons_succ])
      refine take_G (i := 5) (d := 33) (v := .int .i64 (k : Int)) rfl rfl (by kernel_rfl) (by kernel_rfl) (by kernel_rfl) (by kernel_rfl) (by kernel_rfl) (Or.inl ⟨by rfl, ?_⟩) (by assumption) ?_
      · intro w hSw
        (try dsimp only at hSw)
        go_simp
      (try simp only [Act.put, List.setIfInBounds_toArray, List.set_cons_zero, List.set_cons_succ])
      refine take_G (i := 6) (d := 34) (v := .int .i64 (p : Int)) rfl rfl (by kernel_rfl) (by kernel_rfl) (by kernel_rfl) (by kernel_rfl) (by kernel_rfl) (Or.inl ⟨by rfl, ?_⟩) (by assumption) ?_
      · intro w hSw
        (try dsimp only at hSw)
        go_simp
      (try simp only [Act.put, List.setIfInBounds_toArray, List.set_cons_zero, List.set_cons_succ])
      refine take_G (i := 7) (d := 35) (v := .slice (some ⟨b, o, none⟩) n cap) rfl rfl (by kernel_rfl) (by kernel_rfl) (by kernel_rfl) (by kernel_rfl) (by kernel_rfl) (Or.inl ⟨by rfl, ?_⟩) (by assumption) ?_
      · intro w hSw
        (try dsimp only at hSw)
        go_simp
      (try simp only [Act.put, List.setIfInBounds_toArray, List.set_cons_zero, List.set_cons_succ])
      refine take_G (i := 8) (d := 36) (v := .int .i64 (k : Int)) rfl rfl (by kernel_rfl) (by kernel_rfl) (by kernel_rfl) (by kernel_rfl) (by kernel_rfl) (Or.inl ⟨by rfl, ?_⟩) (by assumption) ?_
      · intro w hSw
        (try dsimp only at hSw)
        go_simp
      (try simp only [Act.put, List.setIfInBounds_toArray, List.set_cons_zero, List.set_cons_succ])
      refine take_G (i := 9) (d := 37) (v := .pointer (some ⟨b, o + k, none⟩)) rfl rfl (by kernel_rfl) (by kernel_rfl) (by kernel_rfl) (by kernel_rfl) (by kernel_rfl) (Or.inl ⟨by rfl, ?_⟩) (by assumption) ?_
      · intro w hSw
        (try dsimp only at hSw)
        go_simp
      (try simp only [Act.put, List.setIfInBounds_toArray, List.set_cons_zero, List.set_cons_succ])
      refine take_G (i := 10) (d := 38) (v := .int .i64 x) rfl rfl (by kernel_rfl) (by kernel_rfl) (by kernel_rfl) (by kernel_rfl) (by kernel_rfl) (Or.inl ⟨by rfl, ?_⟩) (by assumption) ?_
      · intro w hSw
        (try dsimp only at hSw)
        go_simp
      (try simp only [Act.put, List.setIfInBounds_toArray, List.set_cons_zero, List.set_cons_succ])
      refine take_G (i := 11) (d := 39) (v := .pointer (some ⟨w.heap.size + 1, p, none⟩)) rfl rfl (by kernel_rfl) (by kernel_rfl) (by kernel_rfl) (by kernel_rfl) (by kernel_rfl) (Or.inl ⟨by rfl, ?_⟩) (by assumption) ?_
      · intro w hSw
        (try dsimp only at hSw)
        go_simp
      (try simp only [Act.put, List.setIfInBounds_toArray, List.set_cons_zero, List.set_cons_succ])
      refine step_G (i := 12) (by kernel_rfl) (fun K hK => ?_)
      refine wpOp_of rfl rfl ?_
      unfold Oper.wp
      go_simp
      refine hK _ _ (fun h => absurd rfl h) ?_
      clear hK K
      refine done_G (by kernel_rfl) ?_
      clear wa wb
      refine noPanic_normalE ?_
      go_wp2
      go_roundw
      case rel => exact ⟨k + 1, unhide B4, by go_num, HP⟩
      case measure => have := unhide B4; simp [intOf]; omega
    · obtain rfl : k = n := by omega
      obtain ⟨b0, b1, b2, kk⟩ := unhide HI
      have y0 : wr.cell? ⟨w.heap.size + 1 + 1, 0, none⟩ = some (.int .i64 k) := Blk.cell b2 0
      have y1 : wr.cell? ⟨w.heap.size + 1 + 1, 1, none⟩ = some (.int .i64 k) := Blk.cell b2 1
      have y2 : wr.cell? ⟨w.heap.size + 1 + 1, 2, none⟩ = some (.slice (some ⟨w.heap.size + 1, 0, none⟩) nn nn) := Blk.cell b2 2
      have e0 : wr.cell? ⟨w.heap.size, 0, none⟩ = some (.int .i64 0) := Blk.cell b0 0
      have e1 : wr.cell? ⟨w.heap.size, 1, none⟩ = some (.int .i64 0) := Blk.cell b0 1
      have e2 : wr.cell? ⟨w.heap.size, 2, none⟩ = some (.slice none 0 0) := Blk.cell b0 2
      have f := Blk.free b0
      have R6 := hide (And.intro b0 (And.intro b1 kk))
      clear b0 b1 b2 kk HI
      go_wp2
      obtain ⟨b0, b1, kk⟩ := unhide R6
      have P := putM b0 (.int .i64 k) (.int .i64 k) (.slice (some ⟨w.heap.size + 1, 0, none⟩) nn nn)
      generalize (((wr.setCell ⟨w.heap.size, 0, none⟩ (.int .i64 k)).setCell ⟨w.heap.size, 1, none⟩ (.int .i64 k)).setCell ⟨w.heap.size, 2, none⟩ (.slice (some ⟨w.heap.size + 1, 0, none⟩) nn nn)) = wE at *
      have c0 : wE.cell? ⟨w.heap.size, 0, none⟩ = some (.int .i64 k) := Blk.cell P.1 0
      have c1 : wE.cell? ⟨w.heap.size, 1, none⟩ = some (.int .i64 k) := Blk.cell P.1 1
      have c2 : wE.cell? ⟨w.heap.size, 2, none⟩ = some (.slice (some ⟨w.heap.size + 1, 0, none⟩) nn nn) := Blk.cell P.1 2
      refine bodyPost_ret (v := .tuple #[.agg #[.int .i64 k, .int .i64 k, .slice (some ⟨w.heap.size + 1, 0, none⟩) nn nn], .int .i64 0]) (by simp [results, Tryz.results50, go_sem, c0, c1, c2]) rfl ?_
      have row : Row wE (some ⟨w.heap.size + 1, 0, none⟩) nn (diagZ L k) := by
        have r0 := (Blk.row b1).mod P.2 (off_blk (by omega))
        rcases r0 with r0 | ⟨b, o, e, hc⟩
        · exact Or.inl r0
        · exact Or.inr ⟨b, o, e, fun i hi => by rw [hc i hi, dgZ_all L k i (by rw [unhide EN]; exact hi)]⟩
      exact (show DocP _ _ _ _ _ _ _ _ _ from ⟨_, _, rfl, Nat.le_refl _, row, fun U hU => off_blk (by omega), kk.mod P.2 (Nat.le_refl _)⟩)

set_option maxHeartbeats 2000000 in
theorem refDiag_bad (n cap : Nat) (ao : Option Addr) (L : Nat → Int) (hn : ¬ (1 ≤ n ∧ n ≤ 12)) (w : World) :
    Calls Tryz.prog 50 #[.slice ao n cap] w fun e w' => DocP 0 0 0 L 3 (Kp w) w e w' := by
  have b0 := Blk.new w #[.int .i64 0, .int .i64 0, .slice none 0 0] 24
  have kk : Kp w (w.alloc (.cells #[.int .i64 0, .int .i64 0, .slice none 0 0] 24)) := (Kp.refl _).alloc _ _
  have e0 : (w.alloc (.cells #[.int .i64 0, .int .i64 0, .slice none 0 0] 24)).cell? ⟨w.heap.size, 0, none⟩ = some (.int .i64 0) := Blk.cell b0 0
  have e1 : (w.alloc (.cells #[.int .i64 0, .int .i64 0, .slice none 0 0] 24)).cell? ⟨w.heap.size, 1, none⟩ = some (.int .i64 0) := Blk.cell b0 1
  have e2 : (w.alloc (.cells #[.int .i64 0, .int .i64 0, .slice none 0 0] 24)).cell? ⟨w.heap.size, 2, none⟩ = some (.slice none 0 0) := Blk.cell b0 2
  have f := Blk.free b0
  have R6 := hide (And.intro b0 kk)
  clear b0 kk
  by_cases h0 : (n : Int) < 1
  · clear hn
    go_enter Tryz.func50, Tryz.ntmps50
    go_wp2
    obtain ⟨b0, kk⟩ := unhide R6
    refine bodyPost_ret (v := .tuple #[.agg #[.int .i64 0, .int .i64 0, .slice none 0 0], .int .i64 3]) (by simp [results, Tryz.results50, go_sem, e0, e1, e2]) rfl ?_
    exact (show DocP _ _ _ _ _ _ _ _ _ from ⟨_, _, rfl, Nat.le_refl _, Or.inl rfl, fun U hU hl => absurd hl (Nat.lt_irrefl _), kk⟩)
  · have h1 : 12 < (n : Int) := by omega
    have h0' : 1 ≤ (n : Int) := by omega
    clear hn h0
    go_enter Tryz.func50, Tryz.ntmps50
    go_wp2
    obtain ⟨b0, kk⟩ := unhide R6
    refine bodyPost_ret (v := .tuple #[.agg #[.int .i64 0, .int .i64 0, .slice none 0 0], .int .i64 3]) (by simp [results, Tryz.results50, go_sem, e0, e1, e2]) rfl ?_
    exact (show DocP _ _ _ _ _ _ _ _ _ from ⟨_, _, rfl, Nat.le_refl _, Or.inl rfl, fun U hU hl => absurd hl (Nat.lt_irrefl _), kk⟩)


def EyI (w : World) (n k : Nat) (wr : World) : Prop :=
  Blk w.heap.size #[.int .i64 0, .int .i64 0, .slice none 0 0] 24 wr ∧ Blk (w.heap.size + 1) (ints n (fun i => if i < k then 4294967296 else 0)) 3 wr ∧ Kp w wr
theorem EyI.set {w wr : World} {n k : Nat} (h : EyI w n k wr) : EyI w n (k + 1) (wr.setCell ⟨w.heap.size + 1, k, none⟩ (.int .i64 4294967296)) := by
  obtain ⟨h1, h2, h4⟩ := h
  have q : Mod (w.heap.size + 1) wr (wr.setCell ⟨w.heap.size + 1, k, none⟩ (.int .i64 4294967296)) := (Mod.refl _ _).setCell _ _
  refine ⟨Blk.keep h1 q (by omega), ?_, h4.mod q (by omega)⟩
  have := Blk.setI h2 k 4294967296
  rwa [ints_congr n _ (fun i => if i < k + 1 then 4294967296 else 0) (fun i hi => by
    by_cases e : i = k
    · rw [if_pos e, if_pos (by omega)]
    · rw [if_neg e]
      by_cases h : i < k
      · rw [if_pos h, if_pos (by omega)]
      · rw [if_neg h, if_neg (by omega)])] at this

set_option maxRecDepth 20000 in
set_option maxHeartbeats 4000000 in
theorem refEye_ok (n : Nat) (hn : 1 ≤ n ∧ n ≤ 12) (w : World) :
    Calls Tryz.prog 29 #[.int .i64 n] w fun e w' => DocP n n (n * n) (diagZ oneZ n) 0 (Kp w) w e w' := by
  have h0 : 1 ≤ (n : Int) := by omega
  have h1 : (n : Int) ≤ 12 := by omega
  have n6 : n ≤ 1000000 := by omega
  have MK := make_ints n n6
  have HN := hide hn
  obtain ⟨nn, hnn⟩ : ∃ nn, n * n = nn := ⟨_, rfl⟩
  rw [hnn]
  have EN := hide hnn
  clear hnn
  have ST : Hid (EyI w n 0 ((w.alloc (.cells #[.int .i64 0, .int .i64 0, .slice none 0 0] 24)).alloc (.cells (ints n (fun _ => 0)) 3))) := by
    refine ⟨Blk.grown (Blk.new w _ _) ((Grown.refl _).alloc _ _), ?_, ((Kp.refl _).alloc _ _).alloc _ _⟩
    rw [ints_congr n (fun i => if i < 0 then 4294967296 else 0) (fun _ => 0) (fun i _ => if_neg (Nat.not_lt_zero _))]
    exact blk_new2 w _ _ _
  clear hn
  go_enter Tryz.func29, Tryz.ntmps29
  go_wp2_with fail
  generalize ((w.alloc (.cells #[.int .i64 0, .int .i64 0, .slice none 0 0] 24)).alloc (.cells (ints n (fun _ => 0)) 3)) = w1 at *
  clear MK
  go_loopw [5] (fun i wr => ∃ k : Nat, k ≤ n ∧ i = .int .i64 k ∧ Hid (EyI w n k wr)) (fun i _ => n - (intOf i).toNat)
  case atStart => exact ⟨0, Nat.zero_le _, rfl, unhide ST⟩
  case round =>
    obtain ⟨k, hk, rfl, HI⟩ := hrel
    clear ST
    by_cases hlt : k < n
    · obtain ⟨y, hc3⟩ : ∃ y, wr.cell? ⟨w.heap.size + 1, k, none⟩ = some (.int .i64 y) := ⟨_, by rw [Blk.cell (unhide HI).2.1, ints_at n _ k hlt]⟩
      have hfz : wr.frozen? ⟨w.heap.size + 1, k, none⟩ = false := Blk.free (unhide HI).2.1 k
      have HP : Hid (EyI w n (k + 1) (wr.setCell ⟨w.heap.size + 1, k, none⟩ (.int .i64 4294967296))) := EyI.set (unhide HI)
      have i0 : (0 : Int) ≤ (k : Int) := by omega
      have i1 : (k : Int) < (n : Int) := by omega
      have hk1 : k ≤ 1000000 := by omega
      have B4 : Hid (k + 1 ≤ n) := hlt
      clear HI
      go_wp2
      go_roundw
      case rel => exact ⟨k + 1, unhide B4, by go_num, HP⟩
      case measure => have := unhide B4; simp [intOf]; omega
    · obtain rfl : k = n := by omega
      have row : Row wr (some ⟨w.heap.size + 1, 0, none⟩) k oneZ := by
        have b1 := (unhide HI).2.1
        rw [ints_congr k (fun i => if i < k then 4294967296 else 0) oneZ (fun i hi => if_pos hi)] at b1
        exact Blk.row b1
      have DG0 := refDiag_ok k k (some ⟨w.heap.size + 1, 0, none⟩) oneZ (unhide HN) wr row
      rw [unhide EN] at DG0
      have DG := hide DG0
      clear row DG0
      go_wp2_with fail
      refine (unhide DG).mono ?_
      rintro e w3 ⟨ao2, cap2, rfl, g1, g3, g4, kk⟩
      have b0 := Blk.kp (unhide HI).1 kk
      have hw : w.heap.size < wr.heap.size := Blk.lt (unhide HI).1
      have k3 : Kp w w3 := (unhide HI).2.2.trans kk
      have e0 : w3.cell? ⟨w.heap.size, 0, none⟩ = some (.int .i64 0) := Blk.cell b0 0
      have e1 : w3.cell? ⟨w.heap.size, 1, none⟩ = some (.int .i64 0) := Blk.cell b0 1
      have e2 : w3.cell? ⟨w.heap.size, 2, none⟩ = some (.slice none 0 0) := Blk.cell b0 2
      have f := Blk.free b0
      have R6 := hide (And.intro b0 (And.intro g1 (And.intro g3 (And.intro g4 (And.intro k3 hw)))))
      clear b0 kk k3 HI g1 g3 g4 hw DG
      go_wp2
      obtain ⟨b0, g1, g3, g4, k3, hw⟩ := unhide R6
      have P := putM b0 (.int .i64 k) (.int .i64 k) (.slice ao2 nn cap2)
      generalize (((w3.setCell ⟨w.heap.size, 0, none⟩ (.int .i64 k)).setCell ⟨w.heap.size, 1, none⟩ (.int .i64 k)).setCell ⟨w.heap.size, 2, none⟩ (.slice ao2 nn cap2)) = wE at *
      have c0 : wE.cell? ⟨w.heap.size, 0, none⟩ = some (.int .i64 k) := Blk.cell P.1 0
      have c1 : wE.cell? ⟨w.heap.size, 1, none⟩ = some (.int .i64 k) := Blk.cell P.1 1
      have c2 : wE.cell? ⟨w.heap.size, 2, none⟩ = some (.slice ao2 nn cap2) := Blk.cell P.1 2
      refine bodyPost_ret (v := .tuple #[.agg #[.int .i64 k, .int .i64 k, .slice ao2 nn cap2], .int .i64 0]) (by simp [results, Tryz.results29, go_sem, c0, c1, c2]) rfl ?_
      exact (show DocP _ _ _ _ _ _ _ _ _ from ⟨_, _, rfl, g1, g3.mod P.2 (g4 _ hw), fun U hU => g4 U (by omega), k3.mod P.2 (Nat.le_refl _)⟩)

set_option maxHeartbeats 2000000 in
theorem refEye_bad (n : Int) (hn : ¬ (1 ≤ n ∧ n ≤ 12)) (L : Nat → Int) (w : World) :
    Calls Tryz.prog 29 #[.int .i64 n] w fun e w' => DocP 0 0 0 L 3 (Kp w) w e w' := by
  have b0 := Blk.new w #[.int .i64 0, .int .i64 0, .slice none 0 0] 24
  have kk : Kp w (w.alloc (.cells #[.int .i64 0, .int .i64 0, .slice none 0 0] 24)) := (Kp.refl _).alloc _ _
  have e0 : (w.alloc (.cells #[.int .i64 0, .int .i64 0, .slice none 0 0] 24)).cell? ⟨w.heap.size, 0, none⟩ = some (.int .i64 0) := Blk.cell b0 0
  have e1 : (w.alloc (.cells #[.int .i64 0, .int .i64 0, .slice none 0 0] 24)).cell? ⟨w.heap.size, 1, none⟩ = some (.int .i64 0) := Blk.cell b0 1
  have e2 : (w.alloc (.cells #[.int .i64 0, .int .i64 0, .slice none 0 0] 24)).cell? ⟨w.heap.size, 2, none⟩ = some (.slice none 0 0) := Blk.cell b0 2
  have f := Blk.free b0
  have R6 := hide (And.intro b0 kk)
  clear b0 kk
  by_cases h0 : n < 1
  · clear hn
    go_enter Tryz.func29, Tryz.ntmps29
    go_wp2
    obtain ⟨b0, kk⟩ := unhide R6
    refine bodyPost_ret (v := .tuple #[.agg #[.int .i64 0, .int .i64 0, .slice none 0 0], .int .i64 3]) (by simp [results, Tryz.results29, go_sem, e0, e1, e2]) rfl ?_
    exact (show DocP _ _ _ _ _ _ _ _ _ from ⟨_, _, rfl, Nat.le_refl _, Or.inl rfl, fun U hU hl => absurd hl (Nat.lt_irrefl _), kk⟩)
  · have h1 : 12 < n := by omega
    have h0' : 1 ≤ n := by omega
    clear hn h0
    go_enter Tryz.func29, Tryz.ntmps29
    go_wp2
    obtain ⟨b0, kk⟩ := unhide R6
    refine bodyPost_ret (v := .tuple #[.agg #[.int .i64 0, .int .i64 0, .slice none 0 0], .int .i64 3]) (by simp [results, Tryz.results29, go_sem, e0, e1, e2]) rfl ?_
    exact (show DocP _ _ _ _ _ _ _ _ _ from ⟨_, _, rfl, Nat.le_refl _, Or.inl rfl, fun U hU hl => absurd hl (Nat.lt_irrefl _), kk⟩)


theorem owns_kpE {w w' : World} {base : Nat} {e : TypeId} {size : Nat} {v : Value} {n : Nat} {xs : List Value} (h : w.ownsRow base e size v n xs) (k : Kp w w') : w'.ownsRow base e size v n xs := by
  refine ⟨h.1, ?_⟩
  rcases h.2 with h2 | ⟨g, cap, cur, rfl, hb, hg, r⟩
  · exact Or.inl h2
  · exact Or.inr ⟨g, cap, cur, rfl, hb, (k.2.2.1 g (Array.getElem?_eq_some_iff.1 hg).1).trans hg, r⟩
theorem intL_app (j m : Nat) (Y Z : Nat → Int) (h : ∀ i, i < m → Y (j + i) = Z i) : intL j Y ++ (List.range m).map (fun i => Value.int .i64 (Z i)) = intL (j + m) Y := by
  unfold intL
  rw [List.range_add, List.map_append, List.map_map]
  congr 1
  apply List.map_congr_left
  intro i hi
  show Value.int .i64 (Z i) = Value.int .i64 (Y (j + i))
  rw [h i (List.mem_range.1 hi)]
/-- A list that is gathered, beside boxes. -/
def GK (w : World) (bx : List (Nat × Array Value)) (base : Nat) (Y : Nat → Int) (j : Nat) (v : Value) (wr : World) : Prop :=
  wr.ownsRow base 3 1 v j (intL j Y) ∧ (∀ b ∈ bx, Blk b.1 b.2 24 wr ∧ w.heap.size ≤ b.1 ∧ b.1 < base) ∧ Kp w wr ∧ w.heap.size ≤ base ∧ base ≤ wr.heap.size
section
variable {w wr w' w4 : World} {base : Nat} {bx : List (Nat × Array Value)} {Y : Nat → Int} {j m : Nat} {v v' : Value}
theorem GK.kp (h : GK w bx base Y j v wr) (k : Kp wr w') : GK w bx base Y j v w' := by
  obtain ⟨h1, h2, h5, h7, h8⟩ := h
  exact ⟨owns_kpE h1 k, fun b hb => ⟨Blk.kp (h2 b hb).1 k, (h2 b hb).2⟩, h5.trans k, h7, Nat.le_trans h8 k.2.2.2⟩
theorem GK.app {Z : Nat → Int} (h : GK w bx base Y j v wr) (hz : ∀ i, i < m → Y (j + i) = Z i) (hown : w4.ownsRow base 3 1 v' (j + m) (intL j Y ++ (List.range m).map (fun i => Value.int .i64 (Z i)))) (hg : wr.grownBy w4 v.ownBlock) : GK w bx base Y (j + m) v' w4 := by
  obtain ⟨h1, h2, h5, h7, h8⟩ := h
  have lt := h1.lt
  rw [intL_app j m Y Z hz] at hown
  exact ⟨hown, fun b hb => ⟨Blk.by (h2 b hb).1 hg (fun e => by have := (lt _ e.symm).1; have := (h2 b hb).2; omega), (h2 b hb).2⟩, h5.by hg (fun i e => by have := (lt i e).1; omega), h7, by have := hg.size; omega⟩
theorem GK.set {L : Nat} {x0 x1 x2 u : Value} (h : GK w ((L, #[x0, x1, x2]) :: bx) base Y j v wr) (hne : ∀ b ∈ bx, b.1 ≠ L) : GK w ((L, #[x0, x1, u]) :: bx) base Y j v (wr.setCell ⟨L, 2, none⟩ u) := by
  obtain ⟨h1, h2, h5, h7, h8⟩ := h
  have q : Mod L wr (wr.setCell ⟨L, 2, none⟩ u) := (Mod.refl _ _).setCell 2 _
  have hL := h2 _ List.mem_cons_self
  refine ⟨owns_mod h1 q hL.2.2, fun b hb => ?_, h5.mod q hL.2.1, h7, Nat.le_trans h8 q.2.2.2.2⟩
  rcases List.mem_cons.1 hb with rfl | hb
  · exact ⟨Blk.set hL.1 2 _, hL.2⟩
  · exact ⟨Blk.keep (h2 b (List.mem_cons_of_mem _ hb)).1 q (hne b hb), (h2 b (List.mem_cons_of_mem _ hb)).2⟩
theorem GK.cells {b : Nat} {x0 x1 x2 : Value} (h : GK w bx base Y j v wr) (hb : (b, #[x0, x1, x2]) ∈ bx) : wr.cell? ⟨b, 0, none⟩ = some x0 ∧ wr.cell? ⟨b, 1, none⟩ = some x1 ∧ wr.cell? ⟨b, 2, none⟩ = some x2 := ⟨Blk.cell (h.2.1 _ hb).1 0, Blk.cell (h.2.1 _ hb).1 1, Blk.cell (h.2.1 _ hb).1 2⟩
end
theorem owns_some {w : World} {base n : Nat} {v : Value} {xs : List Value} (h : w.ownsRow base 3 1 v n xs) (hn : 1 ≤ n) : ∃ g cap, v = .slice (some ⟨g, 0, none⟩) n cap := by
  rcases h.2 with ⟨_, h2⟩ | ⟨g, cap, cur, e, _⟩
  · omega
  · exact ⟨g, cap, e⟩


theorem refEyeAny (n : Int) (w : World) (q : MO) (hq : eyeO n = q) : Calls Tryz.prog 29 #[.int .i64 n] w fun e w' => DocP q.r q.c q.len q.Z q.err (Kp w) w e w' := by
  subst hq
  unfold eyeO
  by_cases hg : 1 ≤ n ∧ n ≤ 12
  · rw [if_pos hg]
    obtain ⟨k, rfl⟩ : ∃ k : Nat, n = k := ⟨n.toNat, by omega⟩
    exact refEye_ok k (by omega) w
  · rw [if_neg hg]
    exact refEye_bad n hg oneZ w
theorem refDiagAny (n cap : Nat) (ao : Option Addr) (L : Nat → Int) (w : World) (hr : Row w ao n L) (q : MO) (hq : diagO n L = q) : Calls Tryz.prog 50 #[.slice ao n cap] w fun e w' => DocP q.r q.c q.len q.Z q.err (Kp w) w e w' := by
  subst hq
  unfold diagO
  by_cases hg : 1 ≤ n ∧ n ≤ 12
  · rw [if_pos hg]
    exact refDiag_ok n cap ao L hg w hr
  · rw [if_neg hg]
    exact refDiag_bad n cap ao L hg w


end Go.Proofs.YtopaakjildmjcaaGreat
