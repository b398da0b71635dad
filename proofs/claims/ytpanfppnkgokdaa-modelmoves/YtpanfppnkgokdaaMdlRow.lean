/- WideMath WideA WideBits WideB WideC RowA, one after another. -/
import Derived.Test.YtpanfppnkgokdaaProg
import Derived.WalkKit
import Derived.WalkSpells
import Derived.Laws.Externs
import Derived.Shelf.Spec.BitsCarry
import Derived.Laws.Bits64b
import Derived.Deep.RegionHeld3
import Derived.Deep.DrawnRows
import Derived.WalkSmall
import Derived.ChangeKeysEq
/- What a number of 128 bits, written as a signed upper half and an unsigned lower half, is as a whole number, and how halves are made of whole numbers: plain arithmetic. -/
namespace Go.Proofs.Wd

def val (h l : Int) : Int := h * 18446744073709551616 + l
def hiOf (v : Int) : Int := (v / 18446744073709551616 + 9223372036854775808) % 18446744073709551616 - 9223372036854775808
def loOf (v : Int) : Int := v % 18446744073709551616
def I64 (h : Int) : Prop := -9223372036854775808 ≤ h ∧ h < 9223372036854775808
def U64 (l : Int) : Prop := 0 ≤ l ∧ l < 18446744073709551616
/-- What a whole number is modulo 2^128, from -2^127 on. -/
def wrapW (v : Int) : Int := (v + 170141183460469231731687303715884105728) % 340282366920938463463374607431768211456 - 170141183460469231731687303715884105728
/-- -1, 0 or 1. -/
def cmpI (x y : Int) : Int := if x < y then -1 else if x = y then 0 else 1
def rawq (m n : Int) : Int := if n - m % n < m % n ∨ (n - m % n = m % n ∧ m / n % 2 = 1) then m / n + 1 else m / n
/-- A whole number divided by another one, to the nearest one, halves to the even one. -/
def rdiv (a d : Int) : Int := if (decide (a < 0) != decide (d < 0)) = true then -(rawq (a.natAbs) (d.natAbs)) else rawq (a.natAbs) (d.natAbs)
def fitI (a : Int) : Int := if 9223372036854775807 < a then 9223372036854775807 else if a < -9223372036854775807 then -9223372036854775807 else a
def fitB (a : Int) : Bool := decide (9223372036854775807 < a ∨ a < -9223372036854775807)

/-- How far a whole number is from 0. -/
def absI (n : Int) : Int := if n < 0 then -n else n
/-- A size with its sign put back. -/
def sg (b : Bool) (m : Int) : Int := if b = true then -m else m
/-- The upper half of a size. -/
def mhi (m : Int) : Int := m / 18446744073709551616 % 18446744073709551616
/-- Are two numbers on different sides of 0? -/
def apartS (a b : Int) : Bool := decide (a < 0) != decide (b < 0)

theorem mhi_U64 (v : Int) : U64 (mhi v) := by unfold U64 mhi; omega
theorem val_size (m : Int) (h : 0 ≤ m ∧ m < 340282366920938463463374607431768211456) : val (mhi m) (loOf m) = m := by unfold val mhi loOf; omega
theorem hiOf_I64 (v : Int) : I64 (hiOf v) := by unfold I64 hiOf; omega
theorem loOf_U64 (v : Int) : U64 (loOf v) := by unfold U64 loOf; omega
theorem val_of (v : Int) : val (hiOf v) (loOf v) = wrapW v := by unfold val hiOf loOf wrapW; omega
theorem hiOf_val (h l : Int) (a : I64 h) (b : U64 l) : hiOf (val h l) = h := by unfold I64 at a; unfold U64 at b; unfold hiOf val; omega
theorem loOf_val (h l : Int) (b : U64 l) : loOf (val h l) = l := by unfold U64 at b; unfold loOf val; omega
theorem val_range (h l : Int) (a : I64 h) (b : U64 l) : -170141183460469231731687303715884105728 ≤ val h l ∧ val h l < 170141183460469231731687303715884105728 := by unfold I64 at a; unfold U64 at b; unfold val; omega
theorem wrapW_in (v : Int) (h : -170141183460469231731687303715884105728 ≤ v ∧ v < 170141183460469231731687303715884105728) : wrapW v = v := by unfold wrapW; omega
theorem hiOf_wrapW (v : Int) : hiOf (wrapW v) = hiOf v := by unfold wrapW hiOf; omega
theorem loOf_wrapW (v : Int) : loOf (wrapW v) = loOf v := by unfold wrapW loOf; omega

theorem absI_U64 (a : Int) (h : I64 a) : U64 (absI a) := by unfold I64 at h; unfold U64 absI; split <;> omega
theorem mul_lt (x y : Int) (h1 : U64 x) (h2 : U64 y) : x * y < 340282366920938463463374607431768211456 := by
  obtain ⟨a0, a1⟩ := h1; obtain ⟨b0, b1⟩ := h2
  have p1 : x * y ≤ x * 18446744073709551616 := Int.mul_le_mul_of_nonneg_left (by omega) a0
  omega
theorem sg_mul (a b : Int) : sg (apartS a b) (absI a * absI b) = a * b := by
  unfold sg apartS absI
  by_cases h1 : a < 0 <;> by_cases h2 : b < 0 <;> simp [h1, h2] <;> grind

theorem size_range (h l : Int) (a : U64 h) (b : U64 l) : 0 ≤ val h l ∧ val h l < 340282366920938463463374607431768211456 := by unfold U64 at a b; unfold val; omega
/-- What is rounded to the nearest one: a whole part, what is left, and what that lacks of one more. -/
def nearQ (q r l : Int) : Int := if l < r ∨ (l = r ∧ q % 2 = 1) then q + 1 else q
theorem pow_le (i j : Nat) (h : i ≤ j) : (2 : Int) ^ i ≤ 2 ^ j := by
  obtain ⟨k, rfl⟩ := Nat.le.dest h
  rw [Int.pow_add]
  have a : (0 : Int) < 2 ^ i := Int.pow_pos (by decide)
  have b : (0 : Int) < 2 ^ k := Int.pow_pos (by decide)
  have c : (2 : Int) ^ i * 1 ≤ 2 ^ i * 2 ^ k := Int.mul_le_mul_of_nonneg_left (by omega) (by omega)
  omega
theorem pow127 (n : Int) (h0 : 0 ≤ n) (h : n ≤ 127) : (2 : Int) ^ n.toNat ≤ 170141183460469231731687303715884105728 := by
  have := pow_le n.toNat 127 (by omega)
  exact Int.le_trans this (by decide)

end Go.Proofs.Wd

/- The leaves of package wide and of the document's answer beside it: what each call of Of, Add, Neg and Cmp returns, in whole numbers. -/
namespace Go.Proofs.Ytpanfppnkgokdaa
open Go.RowKit Go.Proofs.Wd
set_option linter.unusedVariables false
set_option linter.unusedSimpArgs false
set_option maxRecDepth 10000

theorem hide {p : Prop} (h : p) : Hid p := h
theorem unhide {p : Prop} (h : Hid p) : p := h

theorem gtrans {a b c : World} (h : Grown a b) (k : Grown b c) : Grown a c :=
  ⟨World.keptBut_trans h.1 k.1, fun x => (k.2.1 x).trans (h.2.1 x), Nat.le_trans h.2.2 k.2.2⟩
theorem gcell {W w1 : World} (h : Grown W w1) : (∀ b o, b < W.heap.size → w1.cell? ⟨b, o, none⟩ = W.cell? ⟨b, o, none⟩) ∧ (∀ a, w1.frozen? a = W.frozen? a) ∧ W.heap.size ≤ w1.heap.size :=
  ⟨fun _ _ hb => h.1.cell hb (fun f => f), h.2.1, h.2.2⟩

theorem gat {W w1 : World} (h : Grown W w1) {b o : Nat} {v : Value} (hv : W.cell? ⟨b, o, none⟩ = some v) : w1.cell? ⟨b, o, none⟩ = some v := by
  rw [(gcell h).1 b o ?_]
  · exact hv
  · by_cases hb : b < W.heap.size
    · exact hb
    · rw [World.cell?] at hv
      simp [Array.getElem?_eq_none (Nat.le_of_not_lt hb)] at hv

/-- A borrow. -/
def bor (x y : Int) : Int := if x < y then 1 else 0
theorem bor0 (x y : Int) : 0 ≤ bor x y := by unfold bor; split <;> decide
theorem bor1 (x y : Int) : bor x y ≤ 1 := by unfold bor; split <;> decide

theorem uw0 (x : Int) : 0 ≤ IntKind.u64.wrap x := by rw [IntKind.wrap_u64]; omega
theorem uw1 (x : Int) : IntKind.u64.wrap x < 18446744073709551616 := by rw [IntKind.wrap_u64]; omega

theorem ret_int {k : IntKind} {a b : Int} (h : a = b) : Ending.returned (.int k a) = .returned (.int k b) := by rw [h]

end Go.Proofs.Ytpanfppnkgokdaa

/- Shifts of numbers of two halves, and the sum that an 'or' of bits apart is: plain arithmetic. -/
namespace Go.Proofs.Wd
set_option linter.unusedVariables false

theorem du {B x q r : Int} (hB : 0 < B) (h : r + B * q = x) (h0 : 0 ≤ r) (h1 : r < B) : x / B = q ∧ x % B = r := (Int.ediv_emod_unique hB).2 ⟨h, h0, h1⟩
theorem sh1 (hi lo K K' : Int) (hK : 0 < K) (h0 : 0 ≤ lo) (h1 : lo < K * K') : (hi * (K * K') + lo) / K = hi * K' + lo / K := by
  have e1 := Int.emod_add_mul_ediv lo K
  have e2 := Int.emod_nonneg lo (by omega : K ≠ 0)
  have e3 := Int.emod_lt_of_pos lo hK
  exact (du hK (x := hi * (K * K') + lo) (q := hi * K' + lo / K) (r := lo % K) (by grind) e2 e3).1
theorem ltdiv (lo K K' : Int) (hK : 0 < K) (h1 : lo < K * K') : lo / K < K' := Int.ediv_lt_of_lt_mul hK (by rw [Int.mul_comm]; exact h1)
theorem dv0 (lo K : Int) (hK : 0 < K) (h0 : 0 ≤ lo) : 0 ≤ lo / K := Int.ediv_nonneg h0 (by omega)
theorem sh2 (hi lo K K' : Int) (hK : 0 < K) (hK' : 0 < K') (h0 : 0 ≤ lo) (h1 : lo < K * K') : (hi * K' + lo / K) / (K * K') = hi / K ∧ (hi * K' + lo / K) % (K * K') = lo / K + K' * (hi % K) := by
  have e1 := Int.emod_add_mul_ediv hi K
  have e2 := Int.emod_nonneg hi (by omega : K ≠ 0)
  have e3 := Int.emod_lt_of_pos hi hK
  have d1 := ltdiv lo K K' hK h1
  have d0 := dv0 lo K hK h0
  have m0 : 0 ≤ K' * (hi % K) := Int.mul_nonneg (by omega) e2
  have m1 : K' * (hi % K) ≤ K' * (K - 1) := Int.mul_le_mul_of_nonneg_left (by omega) (by omega)
  have m2 : K' * (K - 1) = K * K' - K' := by grind
  refine du (Int.mul_pos hK hK') ?_ (by omega) (by omega)
  grind
theorem pow2_pos (j : Nat) : (0 : Int) < 2 ^ j := Int.pow_pos (by decide)
theorem pow2_mul (i j : Nat) (h : i + j = 64) : (2 : Int) ^ i * 2 ^ j = 18446744073709551616 := by
  rw [← Int.pow_add, h]; rfl
theorem orU (x t : Int) (j : Nat) (h0 : 0 ≤ x) (h1 : x < 2 ^ j) (ht : 0 ≤ t) (hs : 2 ^ j * t + x < 18446744073709551616) :
    bits .or .u64 x (2 ^ j * t) = x + 2 ^ j * t ∧ bits .or .u64 (2 ^ j * t) x = x + 2 ^ j * t := by
  obtain ⟨x, rfl⟩ := Int.eq_ofNat_of_zero_le h0
  obtain ⟨t, rfl⟩ := Int.eq_ofNat_of_zero_le ht
  have e : (2 : Int) ^ j * (t : Int) = ((2 ^ j * t : Nat) : Int) := by simp
  have hx : x < 2 ^ j := by
    have : ((2 ^ j : Nat) : Int) = (2 : Int) ^ j := by simp
    omega
  rw [e] at hs ⊢
  have q := Nat.two_pow_add_eq_or_of_lt hx t
  constructor
  · rw [bits_or_u64_nat x (2 ^ j * t) (by omega) (by omega), Nat.or_comm, ← q]; omega
  · rw [bits_or_u64_nat (2 ^ j * t) x (by omega) (by omega), ← q]; omega

theorem down_small (hi lo n : Int) (h1 : U64 lo) (h2 : U64 hi) (h3 : 0 ≤ n) (h4 : n < 64) :
    bits .or .u64 (lo / 2 ^ n.toNat) (IntKind.u64.wrap (hi * 2 ^ (64 - n).toNat)) = loOf (val hi lo / 2 ^ n.toNat) ∧ hi / 2 ^ n.toNat = mhi (val hi lo / 2 ^ n.toNat) := by
  have hm := pow2_mul n.toNat (64 - n).toNat (by omega)
  have hK := pow2_pos n.toNat
  have hK' := pow2_pos (64 - n).toNat
  obtain ⟨a0, a1⟩ := h1; obtain ⟨b0, b1⟩ := h2
  rw [IntKind.wrap_u64]
  unfold loOf mhi val
  have hlo : lo < 2 ^ n.toNat * 2 ^ (64 - n).toNat := by omega
  rw [← hm, sh1 hi lo _ _ hK a0 hlo]
  obtain ⟨q1, q2⟩ := sh2 hi lo _ _ hK hK' a0 hlo
  obtain ⟨p1, p2⟩ := sh2 hi 0 _ _ hK hK' (Int.le_refl 0) (by omega)
  rw [Int.zero_ediv, Int.add_zero, Int.zero_add] at p2
  have e2 := Int.emod_nonneg hi (by omega : (2 : Int) ^ n.toNat ≠ 0)
  have z2 := Int.emod_nonneg (hi * 2 ^ (64 - n).toNat + lo / 2 ^ n.toNat) (by omega : (2 : Int) ^ n.toNat * 2 ^ (64 - n).toNat ≠ 0)
  have z3 := Int.emod_lt_of_pos (hi * 2 ^ (64 - n).toNat + lo / 2 ^ n.toNat) (by omega : (0 : Int) < 2 ^ n.toNat * 2 ^ (64 - n).toNat)
  rw [p2, q2, q1]
  rw [q2] at z2 z3
  refine ⟨(orU _ _ _ (dv0 lo _ hK a0) (ltdiv lo _ _ hK hlo) e2 (by omega)).1, ?_⟩
  rw [hm]
  have w1 : 0 ≤ hi / 2 ^ n.toNat := dv0 _ _ hK b0
  have w2 : hi / 2 ^ n.toNat ≤ hi := Int.ediv_le_self _ b0
  omega

theorem down_great (hi lo n : Int) (h1 : U64 lo) (h2 : U64 hi) (h3 : 64 ≤ n) :
    hi / 2 ^ (n - 64).toNat = loOf (val hi lo / 2 ^ n.toNat) ∧ 0 = mhi (val hi lo / 2 ^ n.toNat) := by
  obtain ⟨a0, a1⟩ := h1; obtain ⟨b0, b1⟩ := h2
  have hK := pow2_pos (n - 64).toNat
  have e : (2 : Int) ^ n.toNat = 18446744073709551616 * 2 ^ (n - 64).toNat := by
    rw [show n.toNat = 64 + (n - 64).toNat from by omega, Int.pow_add]; rfl
  rw [e, ← Int.ediv_ediv_of_nonneg (by decide)]
  have e3 : val hi lo / 18446744073709551616 = hi := by unfold val; omega
  rw [e3]
  have w1 : 0 ≤ hi / 2 ^ (n - 64).toNat := dv0 _ _ hK b0
  have w2 : hi / 2 ^ (n - 64).toNat ≤ hi := Int.ediv_le_self _ b0
  unfold loOf mhi
  omega

theorem up_small (hi lo n : Int) (h1 : U64 lo) (h2 : U64 hi) (h3 : 0 ≤ n) (h4 : n < 64) :
    IntKind.u64.wrap (lo * 2 ^ n.toNat) = loOf (val hi lo * 2 ^ n.toNat) ∧ bits .or .u64 (IntKind.u64.wrap (hi * 2 ^ n.toNat)) (lo / 2 ^ (64 - n).toNat) = mhi (val hi lo * 2 ^ n.toNat) := by
  have hm := pow2_mul n.toNat (64 - n).toNat (by omega)
  have hK := pow2_pos n.toNat
  have hK' := pow2_pos (64 - n).toNat
  obtain ⟨a0, a1⟩ := h1; obtain ⟨b0, b1⟩ := h2
  rw [IntKind.wrap_u64, IntKind.wrap_u64]
  unfold loOf mhi val
  have hlo : lo < 2 ^ (64 - n).toNat * 2 ^ n.toNat := by rw [Int.mul_comm]; omega
  obtain ⟨p1, p2⟩ := sh2 hi 0 _ _ hK' hK (Int.le_refl 0) (by rw [Int.mul_comm]; omega)
  rw [Int.zero_ediv, Int.add_zero, Int.zero_add] at p2
  rw [Int.mul_comm (2 ^ (64 - n).toNat) (2 ^ n.toNat), hm] at p2
  obtain ⟨q1, q2⟩ := sh2 hi lo _ _ hK' hK a0 hlo
  rw [Int.mul_comm (2 ^ (64 - n).toNat) (2 ^ n.toNat), hm] at q1 q2
  have e2 := Int.emod_nonneg hi (by omega : (2 : Int) ^ (64 - n).toNat ≠ 0)
  have z3 := Int.emod_lt_of_pos (hi * 2 ^ n.toNat + lo / 2 ^ (64 - n).toNat) (by omega : (0 : Int) < 18446744073709551616)
  rw [q2] at z3
  have hd : (hi * 18446744073709551616 + lo) * 2 ^ n.toNat / 18446744073709551616 = hi * 2 ^ n.toNat + lo / 2 ^ (64 - n).toNat := by
    have s1 : (hi * 18446744073709551616 + lo) * 2 ^ n.toNat = 2 ^ n.toNat * (hi * 18446744073709551616 + lo) := Int.mul_comm _ _
    rw [s1]
    have s2 : (18446744073709551616 : Int) = 2 ^ n.toNat * 2 ^ (64 - n).toNat := hm.symm
    have s3 : 2 ^ n.toNat * (hi * 18446744073709551616 + lo) / 18446744073709551616 = 2 ^ n.toNat * (hi * 18446744073709551616 + lo) / (2 ^ n.toNat * 2 ^ (64 - n).toNat) := by rw [hm]
    rw [s3, Int.mul_ediv_mul_of_pos _ _ hK]
    have s4 : hi * 18446744073709551616 + lo = hi * (2 ^ (64 - n).toNat * 2 ^ n.toNat) + lo := by rw [Int.mul_comm (2 ^ (64 - n).toNat), hm]
    rw [s4, sh1 hi lo _ _ hK' a0 hlo]
  constructor
  · have s5 : (hi * 18446744073709551616 + lo) * 2 ^ n.toNat = lo * 2 ^ n.toNat + 18446744073709551616 * (hi * 2 ^ n.toNat) := by grind
    rw [s5, Int.add_mul_emod_self_left]
  · rw [hd, q2, p2]
    exact (orU _ _ _ (dv0 lo _ hK' a0) (ltdiv lo _ _ hK' hlo) e2 (by omega)).2

theorem up_great (hi lo n : Int) (h1 : U64 lo) (h2 : U64 hi) (h3 : 64 ≤ n) :
    0 = loOf (val hi lo * 2 ^ n.toNat) ∧ IntKind.u64.wrap (lo * 2 ^ (n - 64).toNat) = mhi (val hi lo * 2 ^ n.toNat) := by
  have e : (2 : Int) ^ n.toNat = 18446744073709551616 * 2 ^ (n - 64).toNat := by
    rw [show n.toNat = 64 + (n - 64).toNat from by omega, Int.pow_add]; rfl
  rw [e, IntKind.wrap_u64]
  have s1 : val hi lo * (18446744073709551616 * 2 ^ (n - 64).toNat) = 18446744073709551616 * (lo * 2 ^ (n - 64).toNat + 18446744073709551616 * (hi * 2 ^ (n - 64).toNat)) := by unfold val; grind
  rw [s1]
  generalize hi * 2 ^ (n - 64).toNat = p
  generalize lo * 2 ^ (n - 64).toNat = q
  unfold loOf mhi
  omega

/-- The lower 32 bits of a number of 64. -/
theorem mask32 (t : Int) (h0 : 0 ≤ t) (h1 : t < 18446744073709551616) : bits .and .u64 t 4294967295 = t % 4294967296 := by
  obtain ⟨t, rfl⟩ := Int.eq_ofNat_of_zero_le h0
  rw [show ((4294967295 : Int)) = ((4294967295 : Nat) : Int) from rfl, bits_and_u64_nat t 4294967295 (by omega) (by omega), Nat.and_two_pow_sub_one_eq_mod t 32]
  rfl

end Go.Proofs.Wd

/- Package wide's sizes: what far, signed, sizeOf, less, minus, next, factors, product and Mul return, in whole numbers; math/bits.Mul64 is walked through. -/
namespace Go.Proofs.Ytpanfppnkgokdaa
open Go.RowKit Go.Proofs.Wd
set_option linter.unusedVariables false
set_option linter.unusedSimpArgs false
set_option maxRecDepth 10000

theorem part_mul (p q : Int) (hp : 0 ≤ p ∧ p ≤ 4294967295) (hq : 0 ≤ q ∧ q ≤ 4294967295) : 0 ≤ p * q ∧ p * q ≤ 18446744065119617025 := by
  have e : p * q ≤ p * 4294967295 := Int.mul_le_mul_of_nonneg_left hq.2 hp.1
  exact ⟨Int.mul_nonneg hp.1 hq.1, by omega⟩
end Go.Proofs.Ytpanfppnkgokdaa

/- Package wide's rounding: what shift, shifted, nearest and Round return, in whole numbers. -/
namespace Go.Proofs.Ytpanfppnkgokdaa
open Go.RowKit Go.Proofs.Wd
set_option linter.unusedVariables false
set_option linter.unusedSimpArgs false
set_option maxRecDepth 10000
attribute [local go_sem ↓] Go.wp_at_zero Go.wp_at_succ

theorem gfr {W w1 : World} (h : Grown W w1) {a : Addr} (hv : W.frozen? a = false) : w1.frozen? a = false := (h.2.1 a).trans hv

theorem heap_gt {W : World} {b o : Nat} {v : Value} (hv : W.cell? ⟨b, o, none⟩ = some v) : b < W.heap.size := by
  by_cases hb : b < W.heap.size
  · exact hb
  · rw [World.cell?] at hv
    simp [Array.getElem?_eq_none (Nat.le_of_not_lt hb)] at hv
theorem frz {W w1 : World} (h : Grown W w1) : ∀ b o, W.heap.size ≤ b → w1.frozen? ⟨b, o, none⟩ = false := by
  intro b o hb
  rw [h.2.1]
  simp [World.frozen?, Array.getElem?_eq_none hb]
theorem gat2 {W w1 : World} (h : Grown W w1) (b : Nat) (x y : Value) (hv : W.cell? ⟨b, 0, none⟩ = some x ∧ W.cell? ⟨b, 1, none⟩ = some y) : w1.cell? ⟨b, 0, none⟩ = some x ∧ w1.cell? ⟨b, 1, none⟩ = some y := ⟨gat h hv.1, gat h hv.2⟩

theorem sg_near (a d : Int) (b : Bool) (hd : 0 < d) (hb : b = decide (a < 0)) : sg b (nearQ (absI a / d) (absI a % d) (d - absI a % d)) = rdiv a d := by
  have e1 : ((a.natAbs : Nat) : Int) = absI a := by unfold absI; split <;> omega
  have e2 : ((d.natAbs : Nat) : Int) = d := by omega
  subst hb
  unfold rdiv rawq sg nearQ
  rw [e1, e2]
  by_cases h : a < 0
  · simp [h, show ¬ d < 0 from by omega]
  · simp [h, show ¬ d < 0 from by omega]

end Go.Proofs.Ytpanfppnkgokdaa

/- Blocks, rows of numbers, and what stays of the world: words that all later stages use. -/
namespace Go.Proofs.Ytpanfppnkgokdaa
open Go.RowKit Go.Proofs.Wd
set_option linter.unusedVariables false
set_option linter.unusedSimpArgs false
set_option maxRecDepth 10000

/-- But for block U, and new blocks, the world is as it was. -/
def Mod (U : Nat) (w w' : World) : Prop :=
  w'.os = w.os ∧ w'.output = w.output ∧ (∀ k, k < w.heap.size → k ≠ U → w'.heap[k]? = w.heap[k]?) ∧ (∀ a, w'.frozen? a = w.frozen? a) ∧ w.heap.size ≤ w'.heap.size

theorem gblock {w w' : World} (h : Grown w w') {k : Nat} (hk : k < w.heap.size) : w'.heap[k]? = w.heap[k]? := by
  have h1 := h.1.2.2 k hk
  generalize w.heap[k]? = a at *
  generalize w'.heap[k]? = b at *
  rcases a with _ | (⟨c, t, fr⟩ | ⟨es, cl⟩ | _) <;> rcases b with _ | (⟨c', t', fr'⟩ | ⟨es', cl'⟩ | _) <;> simp_all
  apply Array.ext_getElem?
  exact h1.2.2.2

theorem Mod.of {U : Nat} {w w' : World} (h : Grown w w') : Mod U w w' := ⟨h.1.1, h.1.2.1, fun k hk _ => gblock h hk, h.2.1, h.2.2⟩
theorem Mod.refl (U : Nat) (w : World) : Mod U w w := ⟨rfl, rfl, fun _ _ _ => rfl, fun _ => rfl, Nat.le_refl _⟩
theorem Mod.trans {U : Nat} {a b c : World} (h : Mod U a b) (k : Mod U b c) : Mod U a c :=
  ⟨k.1.trans h.1, k.2.1.trans h.2.1, fun i hi hu => (k.2.2.1 i (Nat.lt_of_lt_of_le hi h.2.2.2.2) hu).trans (h.2.2.1 i hi hu), fun x => (k.2.2.2.1 x).trans (h.2.2.2.1 x), Nat.le_trans h.2.2.2.2 k.2.2.2.2⟩
theorem Mod.setCell {U : Nat} {a w : World} (h : Mod U a w) (o : Nat) (v : Value) : Mod U a (w.setCell ⟨U, o, none⟩ v) := by
  refine h.trans ⟨rfl, rfl, fun k hk hu => ?_, fun x => World.frozen?_setCell _ _ _ _, by simp [World.setCell]⟩
  exact Below.heap_setCell _ _ _ _ hu
theorem Mod.grown {U : Nat} {W a b : World} (g : Grown W a) (h : Mod U a b) (hU : W.heap.size ≤ U) : Grown W b := by
  refine ⟨⟨h.1.trans g.1.1, h.2.1.trans g.1.2.1, fun i hi => ?_⟩, fun x => (h.2.2.2.1 x).trans (g.2.1 x), Nat.le_trans g.2.2 h.2.2.2.2⟩
  have e : b.heap[i]? = W.heap[i]? := (h.2.2.1 i (Nat.lt_of_lt_of_le hi g.2.2) (by omega)).trans (gblock g hi)
  rw [e]
  split <;> simp_all

/-- A block of cells that are not frozen. -/
def Blk (U : Nat) (cs : Array Value) (T : TypeId) (w : World) : Prop := w.heap[U]? = some (.cells cs T (0, 0))
theorem Blk.lt {U : Nat} {cs : Array Value} {T : TypeId} {w : World} (h : Blk U cs T w) : U < w.heap.size := (Array.getElem?_eq_some_iff.1 h).1
theorem Blk.cell {U : Nat} {cs : Array Value} {T : TypeId} {w : World} (h : Blk U cs T w) (o : Nat) : w.cell? ⟨U, o, none⟩ = cs[o]? := cell_of_row w U o cs T (0, 0) h
theorem Blk.free {U : Nat} {cs : Array Value} {T : TypeId} {w : World} (h : Blk U cs T w) (o : Nat) : w.frozen? ⟨U, o, none⟩ = false := by
  unfold Blk at h
  simp [World.frozen?, h]
theorem Blk.keep {U V : Nat} {cs : Array Value} {T : TypeId} {w w' : World} (h : Blk U cs T w) (m : Mod V w w') (hne : U ≠ V) : Blk U cs T w' := (m.2.2.1 U h.lt hne).trans h
theorem Blk.grown {U : Nat} {cs : Array Value} {T : TypeId} {w w' : World} (h : Blk U cs T w) (m : Grown w w') : Blk U cs T w' := (gblock m h.lt).trans h
theorem Blk.set {U : Nat} {cs : Array Value} {T : TypeId} {w : World} (h : Blk U cs T w) (o : Nat) (v : Value) : Blk U (cs.setIfInBounds o v) T (w.setCell ⟨U, o, none⟩ v) := by
  unfold Blk at *
  simp only [World.setCell, Array.getElem?_modify, h]
  rfl

/-- A row of numbers behind a slice's address. -/
def Row (w : World) (ao : Option Addr) (len : Nat) (Z : Nat → Int) : Prop :=
  len = 0 ∨ ∃ b o, ao = some ⟨b, o, none⟩ ∧ ∀ i, i < len → w.cell? ⟨b, o + i, none⟩ = some (.int .i64 (Z i))
/-- It lies in another block, if there is a number. -/
def Off (U len : Nat) (ao : Option Addr) : Prop := 0 < len → ∀ a, ao = some a → a.block ≠ U

theorem Mod.cell {U : Nat} {w w' : World} (m : Mod U w w') {b o : Nat} {v : Value} (h : w.cell? ⟨b, o, none⟩ = some v) (hb : b ≠ U) : w'.cell? ⟨b, o, none⟩ = some v :=
  (World.cell?_of_block (m.2.2.1 b (heap_gt h) hb)).trans h
theorem Row.mod {U : Nat} {w w' : World} {ao : Option Addr} {len : Nat} {Z : Nat → Int} (h : Row w ao len Z) (m : Mod U w w') (ho : Off U len ao) : Row w' ao len Z := by
  rcases h with h | ⟨b, o, rfl, hc⟩
  · exact Or.inl h
  · exact Or.inr ⟨b, o, rfl, fun i hi => m.cell (hc i hi) (ho (by omega) _ rfl)⟩
theorem Row.grown {w w' : World} {ao : Option Addr} {len : Nat} {Z : Nat → Int} (h : Row w ao len Z) (m : Grown w w') : Row w' ao len Z := by
  rcases h with h | ⟨b, o, rfl, hc⟩
  · exact Or.inl h
  · exact Or.inr ⟨b, o, rfl, fun i hi => gat m (hc i hi)⟩
theorem Row.off {w : World} {ao : Option Addr} {len U : Nat} {Z : Nat → Int} (h : Row w ao len Z) (hU : w.heap.size ≤ U) : Off U len ao := by
  rcases h with h | ⟨b, o, rfl, hc⟩
  · exact fun hl => by omega
  · intro hl a ha
    cases ha
    have := heap_gt (hc 0 hl)
    show b ≠ U
    omega
theorem Row.at {w : World} {ao : Option Addr} {len : Nat} {Z : Nat → Int} (h : Row w ao len Z) {k : Nat} (hk : k < len) : ∃ b o, ao = some ⟨b, o, none⟩ ∧ w.cell? ⟨b, o + k, none⟩ = some (.int .i64 (Z k)) := by
  rcases h with h | ⟨b, o, rfl, hc⟩
  · omega
  · exact ⟨b, o, rfl, hc k hk⟩

/-- Below the heap's old size all is as it was. -/
def Kp (W w : World) : Prop := w.os = W.os ∧ w.output = W.output ∧ (∀ k, k < W.heap.size → w.heap[k]? = W.heap[k]?) ∧ W.heap.size ≤ w.heap.size
theorem Kp.of {W w : World} (g : Grown W w) : Kp W w := ⟨g.1.1, g.1.2.1, fun _ hk => gblock g hk, g.2.2⟩
theorem Kp.refl (W : World) : Kp W W := ⟨rfl, rfl, fun _ _ => rfl, Nat.le_refl _⟩
theorem Kp.trans {a b c : World} (h : Kp a b) (k : Kp b c) : Kp a c := ⟨k.1.trans h.1, k.2.1.trans h.2.1, fun i hi => (k.2.2.1 i (Nat.lt_of_lt_of_le hi h.2.2.2)).trans (h.2.2.1 i hi), Nat.le_trans h.2.2.2 k.2.2.2⟩
theorem Kp.grown {W a b : World} (h : Kp W a) (g : Grown a b) : Kp W b := h.trans (Kp.of g)
theorem Kp.alloc {W a : World} (h : Kp W a) (c : Array Value) (t : TypeId) : Kp W (a.alloc (.cells c t)) := h.grown ((Grown.refl _).alloc _ _)
theorem Kp.mod {W a b : World} {U : Nat} (h : Kp W a) (m : Mod U a b) (hU : W.heap.size ≤ U) : Kp W b :=
  ⟨m.1.trans h.1, m.2.1.trans h.2.1, fun i hi => (m.2.2.1 i (Nat.lt_of_lt_of_le hi h.2.2.2) (by omega)).trans (h.2.2.1 i hi), Nat.le_trans h.2.2.2 m.2.2.2.2⟩
theorem Kp.by {W a b : World} {row : Option Nat} (h : Kp W a) (m : a.grownBy b row) (hr : ∀ k, row = some k → W.heap.size ≤ k) : Kp W b :=
  ⟨m.os.trans h.1, m.output.trans h.2.1, fun i hi => (m.block i (Nat.lt_of_lt_of_le hi h.2.2.2) (fun e => by have := hr i e.symm; omega)).trans (h.2.2.1 i hi), Nat.le_trans h.2.2.2 m.size⟩
theorem Kp.frame {W w : World} (h : Kp W w) (may : MemPlace → Prop) : W.keptBut w may := by
  refine ⟨h.1, h.2.1, fun i hi => ?_⟩
  rw [h.2.2.1 i hi]
  split <;> simp_all
theorem Kp.same {W w : World} (h : Kp W w) {p : MemPlace} (hp : p.block < W.heap.size) : W.sameAt w p := by
  cases p with
  | cell b o => exact World.cell?_of_block (w := W) (h.2.2.1 b hp)
  | map b => exact h.2.2.1 b hp
theorem Kp.cell {W w : World} (h : Kp W w) {b o : Nat} {v : Value} (hv : W.cell? ⟨b, o, none⟩ = some v) : w.cell? ⟨b, o, none⟩ = some v :=
  (World.cell?_of_block (h.2.2.1 b (heap_gt hv))).trans hv
theorem Row.kp {w w' : World} {ao : Option Addr} {len : Nat} {Z : Nat → Int} (h : Row w ao len Z) (m : Kp w w') : Row w' ao len Z := by
  rcases h with h | ⟨b, o, rfl, hc⟩
  · exact Or.inl h
  · exact Or.inr ⟨b, o, rfl, fun i hi => m.cell (hc i hi)⟩
theorem Blk.kp {U : Nat} {cs : Array Value} {T : TypeId} {w w' : World} (h : Blk U cs T w) (g : Kp w w') : Blk U cs T w' := (g.2.2.1 U h.lt).trans h
theorem Blk.by {U : Nat} {cs : Array Value} {T : TypeId} {w w' : World} {row : Option Nat} (h : Blk U cs T w) (g : w.grownBy w' row) (hne : some U ≠ row) : Blk U cs T w' := (g.block U h.lt hne).trans h
/-- Numbers that the call itself has gathered. -/
theorem owns_row {w : World} {base n : Nat} {v : Value} {Z : Nat → Int} (h : w.ownsRow base 3 1 v n ((List.range n).map fun i => Value.int .i64 (Z i))) : ∃ ao cap, v = .slice ao n cap ∧ Row w ao n Z ∧ ∀ U, U < base → Off U n ao := by
  rcases h.2 with ⟨rfl, rfl⟩ | ⟨g, cap, cur, rfl, hb, hg, hn, _, hsz, hxs⟩
  · exact ⟨none, 0, rfl, Or.inl rfl, fun _ _ h => absurd h (Nat.lt_irrefl _)⟩
  · refine ⟨_, cap, rfl, Or.inr ⟨g, 0, rfl, fun i hi => ?_⟩, fun U hU _ a ha => by cases ha; show g ≠ U; omega⟩
    rw [Nat.zero_add, cell_of_row w g i cur 3 (0, 0) hg]
    have e : (cur.toList.take (n * 1))[i]? = some (.int .i64 (Z i)) := by rw [hxs]; simp [hi]
    rw [List.getElem?_take, if_pos (by omega)] at e
    simpa using e
theorem Try.infoInt : (Try.prog.info? 3).map (fun i => (i.zero, i.size, i.bytes)) = some (some (.int .i64 0), 1, 8) := by kernel_rfl

theorem Row.sub {w : World} {ao : Option Addr} {len m : Nat} {Z : Nat → Int} (h : Row w ao len Z) (hm : m ≤ len) : Row w ao m Z := by
  rcases h with h | ⟨b, o, rfl, hc⟩
  · exact Or.inl (by omega)
  · exact Or.inr ⟨b, o, rfl, fun i hi => hc i (by omega)⟩
theorem slice_to (ao : Option Addr) (len cap n : Nat) (h : n ≤ cap) (w : World) : (Instr.sliceAt 22 (.slice ao len cap) none (some (.int .i64 n)) none).run Try.prog w = .ok (.slice ao n cap) w := by
  have e : Try.prog.underlying 22 = some (.slice (Try.prog.elem 22)) := by kernel_rfl
  have s1 : (sizeOf (Try.prog.elem 22)).run Try.prog w = .ok 1 w := by kernel_rfl
  rw [run_sliceAt_slice w 22 _ _ _ _ e, run_slice_h w 22 ao len cap e .i64 n (by omega) (by omega), s1]
  show Result.ok (sliced ao 0 (n : Int).toNat cap 1) w = _
  have a0 : ao.map (fun x => x.add (0 * 1)) = ao := by cases ao <;> simp [Addr.add]
  unfold sliced
  rw [a0]
  simp

theorem news_one (w : World) (v : Value) (t : TypeId) : ∀ j u, [v][j]? = some u → (w.alloc (.cells #[v] t)).cell? ((⟨w.heap.size, 0, none⟩ : Addr).add j) = some u := by
  intro j u hj
  match j, hj with
  | 0, hj => simp at hj; subst hj; simp [Addr.add]
theorem one_cell (x : Int) : ∀ u ∈ [Value.int .i64 x], u.oneCell' = true := by
  intro u hu
  simp at hu
  subst hu
  rfl

theorem cells_one (n : Nat) (Z : Nat → Int) : ∀ u ∈ (List.range n).map (fun i => Value.int .i64 (Z i)), u.oneCell' = true := by
  intro u hu
  rw [List.mem_map] at hu
  obtain ⟨i, _, rfl⟩ := hu
  rfl

end Go.Proofs.Ytpanfppnkgokdaa
