/- WideMath WideA WideBits WideB WideC RowA MdlV VecRow NearMath FixMath UnitMath FixNear VecMath MatMath WideD WideV FixA Len64 DivMath Div64 FixB FixC FixD UnitA UnitB UnitC UnitN MatA MatC MatB MatD MkA UnitD MatE MatG VecD MatF MatH, one after another, as far as MoFour wants them. -/
import Derived.Test.YtjobgjcfkomhpaaGreatProg
import Derived.Test.YtjobgjcfkomhpaaGreatRows
import Derived.WalkKit
import Derived.WalkSpells
import Derived.Laws.Externs
import Derived.Shelf.Spec.BitsCarry
import Derived.Laws.Bits64b
import Derived.Deep.RegionHeld3
import Derived.Deep.DrawnRows
import Derived.WalkSmall
import Derived.ChangeKeysEq
import Derived.Laws.CopyOwn
import Derived.Laws.MakeOwn
import Derived.Laws.OwnMore
import Derived.Deep.QuietTactic
import Derived.BigQuiet
import Derived.Deep.DeepCutAuto
import Derived.Shelf.Abstract
import Derived.Lib.Tables
import Derived.Lib.BitFns
import Derived.Deep.CutBlock
import Derived.WalkMore
import Derived.RangeFuncNested
import Derived.RangeFuncBound
import Derived.RangeFuncCalls
import Derived.RangeFuncLeaves
import Derived.RangeFuncBox
import Derived.Shelf.RegionOpen
import Derived.OwnWalkIn
import Derived.TacticsInMore
import Derived.LoopNIn
import Derived.LoopIn
import Derived.Deep.RegionLaw
import Derived.OrdersIn
import Derived.OrdersHeld
import Derived.Laws.AppendOwnNone
import Derived.Lib.SliceRun
import Derived.Deep.RegionWith
import Derived.Orders
import Derived.Lib.MinMax
import Derived.Laws.AppendOwn
import Derived.Laws.EntriesVeiled
import Derived.ProofKit
import Derived.OpenShut
import Derived.Lib.SmallJoins
import Derived.Deep.Slices
import Derived.Carry
set_option linter.unusedVariables false
set_option linter.unusedSimpArgs false
namespace Go.Proofs.Wd
def val (h l : Int) : Int := h * 18446744073709551616 + l
def hiOf (v : Int) : Int := (v / 18446744073709551616 + 9223372036854775808) % 18446744073709551616 - 9223372036854775808
def loOf (v : Int) : Int := v % 18446744073709551616
def I64 (h : Int) : Prop := -9223372036854775808 ≤ h ∧ h < 9223372036854775808
def U64 (l : Int) : Prop := 0 ≤ l ∧ l < 18446744073709551616
def wrapW (v : Int) : Int := (v + 170141183460469231731687303715884105728) % 340282366920938463463374607431768211456 - 170141183460469231731687303715884105728
def cmpI (x y : Int) : Int := if x < y then -1 else if x = y then 0 else 1
def rawq (m n : Int) : Int := if n - m % n < m % n ∨ (n - m % n = m % n ∧ m / n % 2 = 1) then m / n + 1 else m / n
def rdiv (a d : Int) : Int := if (decide (a < 0) != decide (d < 0)) = true then -(rawq (a.natAbs) (d.natAbs)) else rawq (a.natAbs) (d.natAbs)
def fitI (a : Int) : Int := if 9223372036854775807 < a then 9223372036854775807 else if a < -9223372036854775807 then -9223372036854775807 else a
def fitB (a : Int) : Bool := decide (9223372036854775807 < a ∨ a < -9223372036854775807)
def absI (n : Int) : Int := if n < 0 then -n else n
def sg (b : Bool) (m : Int) : Int := if b = true then -m else m
def mhi (m : Int) : Int := m / 18446744073709551616 % 18446744073709551616
def apartS (a b : Int) : Bool := decide (a < 0) != decide (b < 0)
theorem mhi_U64 (v : Int) : U64 (mhi v) := by unfold U64 mhi; omega
theorem val_size (m : Int) (h : 0 ≤ m ∧ m < 340282366920938463463374607431768211456) : val (mhi m) (loOf m) = m := by unfold val mhi loOf; omega
theorem hiOf_I64 (v : Int) : I64 (hiOf v) := by unfold I64 hiOf; omega
theorem loOf_U64 (v : Int) : U64 (loOf v) := by unfold U64 loOf; omega
theorem val_of (v : Int) : val (hiOf v) (loOf v) = wrapW v := by unfold val hiOf loOf wrapW; omega
theorem val_range (h l : Int) (a : I64 h) (b : U64 l) : -170141183460469231731687303715884105728 ≤ val h l ∧ val h l < 170141183460469231731687303715884105728 := by unfold I64 at a; unfold U64 at b; unfold val; omega
theorem wrapW_in (v : Int) (h : -170141183460469231731687303715884105728 ≤ v ∧ v < 170141183460469231731687303715884105728) : wrapW v = v := by unfold wrapW; omega
theorem absI_U64 (a : Int) (h : I64 a) : U64 (absI a) := by unfold I64 at h; unfold U64 absI; split <;> omega
theorem mul_lt (x y : Int) (h1 : U64 x) (h2 : U64 y) : x * y < 340282366920938463463374607431768211456 := by
 obtain ⟨a0, a1⟩ := h1; obtain ⟨b0, b1⟩ := h2
 have p1 : x * y ≤ x * 18446744073709551616 := Int.mul_le_mul_of_nonneg_left (by omega) a0
 omega
theorem sg_mul (a b : Int) : sg (apartS a b) (absI a * absI b) = a * b := by
 unfold sg apartS absI
 by_cases h1 : a < 0 <;> by_cases h2 : b < 0 <;> simp [h1, h2] <;> grind
theorem size_range (h l : Int) (a : U64 h) (b : U64 l) : 0 ≤ val h l ∧ val h l < 340282366920938463463374607431768211456 := by unfold U64 at a b; unfold val; omega
def nearQ (q r l : Int) : Int := if l < r ∨ (l = r ∧ q % 2 = 1) then q + 1 else q
theorem pow_le (i j : Nat) (h : i ≤ j) : (2 : Int) ^ i ≤ 2 ^ j := by
 obtain ⟨k, rfl⟩ := Nat.le.dest h
 rw [Int.pow_add]
 have a : (0 : Int) < 2 ^ i := Int.pow_pos (by decide)
 have b : (0 : Int) < 2 ^ k := Int.pow_pos (by decide)
 have c : (2 : Int) ^ i * 1 ≤ 2 ^ i * 2 ^ k := Int.mul_le_mul_of_nonneg_left (by omega) (by omega)
 omega
theorem pow127 (n : Int) (h0 : 0 ≤ n) (h : n ≤ 127) : (2 : Int) ^ n.toNat ≤ 170141183460469231731687303715884105728 := by
 have := pow_le n.toNat 127 (by omega)
 exact Int.le_trans this (by decide)
end Go.Proofs.Wd
namespace Go.Proofs.YtjobgjcfkomhpaaGreat
open Go.RowKit Go.Proofs.Wd
set_option maxRecDepth 10000
theorem hide {p : Prop} (h : p) : Hid p := h
theorem unhide {p : Prop} (h : Hid p) : p := h
theorem gtrans {a b c : World} (h : Grown a b) (k : Grown b c) : Grown a c :=
 ⟨World.keptBut_trans h.1 k.1, fun x => (k.2.1 x).trans (h.2.1 x), Nat.le_trans h.2.2 k.2.2⟩
theorem gcell {W w1 : World} (h : Grown W w1) : (∀ b o, b < W.heap.size → w1.cell? ⟨b, o, none⟩ = W.cell? ⟨b, o, none⟩) ∧ (∀ a, w1.frozen? a = W.frozen? a) ∧ W.heap.size ≤ w1.heap.size :=
 ⟨fun _ _ hb => h.1.cell hb (fun f => f), h.2.1, h.2.2⟩
theorem gat {W w1 : World} (h : Grown W w1) {b o : Nat} {v : Value} (hv : W.cell? ⟨b, o, none⟩ = some v) : w1.cell? ⟨b, o, none⟩ = some v := by
 rw [(gcell h).1 b o ?_]
 ·exact hv
 ·by_cases hb : b < W.heap.size
  ·exact hb
  ·rw [World.cell?] at hv
   simp [Array.getElem?_eq_none (Nat.le_of_not_lt hb)] at hv
def bor (x y : Int) : Int := if x < y then 1 else 0
theorem bor0 (x y : Int) : 0 ≤ bor x y := by unfold bor; split <;> decide
theorem bor1 (x y : Int) : bor x y ≤ 1 := by unfold bor; split <;> decide
theorem add64 (x y c : Int) (hx : 0 ≤ x) (hy : 0 ≤ y) (hc0 : 0 ≤ c) (hc : c ≤ 1) (w : World) : (callFunc 160 #[.int .u64 x, .int .u64 y, .int .u64 c]).run Tryz.prog w =
  .ok (.value (.tuple #[.int .u64 ((x + y + c) % 18446744073709551616), .int .u64 ((x + y + c) / 18446744073709551616)])) w := by
 rw [run_callFunc_extern Tryz.func160 (by kernel_rfl) (by kernel_rfl) (by kernel_rfl) (e := add64Entry) (by kernel_rfl), run_add64 x y c hx hy hc0 hc]
 rfl
theorem add64_0 (x y : Int) (hx : 0 ≤ x) (hy : 0 ≤ y) (w : World) : (callFunc 160 #[.int .u64 x, .int .u64 y, .int .u64 0]).run Tryz.prog w =
  .ok (.value (.tuple #[.int .u64 ((x + y) % 18446744073709551616), .int .u64 ((x + y) / 18446744073709551616)])) w := by
 simpa using add64 x y 0 hx hy (Int.le_refl 0) (by decide) w
theorem sub64 (x y b : Int) (hx : 0 ≤ x) (hy : 0 ≤ y) (hy' : y < 18446744073709551616) (hb0 : 0 ≤ b) (hb : b ≤ 1) (w : World) : (callFunc 189 #[.int .u64 x, .int .u64 y, .int .u64 b]).run Tryz.prog w =
  .ok (.value (.tuple #[.int .u64 ((x - y - b) % 18446744073709551616), .int .u64 (bor x (y + b))])) w := by
 obtain ⟨x, rfl⟩ := Int.eq_ofNat_of_zero_le hx
 obtain ⟨y, rfl⟩ := Int.eq_ofNat_of_zero_le hy
 obtain ⟨b, rfl⟩ := Int.eq_ofNat_of_zero_le hb0
 have e1 : (((x + 18446744073709551616 - y - b) % 18446744073709551616 : Nat) : Int) = ((x : Int) - y - b) % 18446744073709551616 := by omega
 have e2 : ((if x < y + b then 1 else 0 : Nat) : Int) = bor x (y + b) := by unfold bor; split <;> split <;> omega
 rw [← e1, ← e2, run_callFunc_extern Tryz.func189 (by kernel_rfl) (by kernel_rfl) (by kernel_rfl) (e := sub64Entry) (by kernel_rfl), run_sub64 x y b (by omega)]
 rfl
theorem sub64_0 (x y : Int) (hx : 0 ≤ x) (hy : 0 ≤ y) (hy' : y < 18446744073709551616) (w : World) : (callFunc 189 #[.int .u64 x, .int .u64 y, .int .u64 0]).run Tryz.prog w =
  .ok (.value (.tuple #[.int .u64 ((x - y) % 18446744073709551616), .int .u64 (bor x y)])) w := by
 simpa using sub64 x y 0 hx hy hy' (Int.le_refl 0) (by decide) w
theorem uw0 (x : Int) : 0 ≤ IntKind.u64.wrap x := by rw [IntKind.wrap_u64]; omega
theorem uw1 (x : Int) : IntKind.u64.wrap x < 18446744073709551616 := by rw [IntKind.wrap_u64]; omega
set_option maxHeartbeats 400000 in
theorem wideOf (n : Int) (hn : I64 n) (w : World) :
  Calls Tryz.prog 165 #[.int .i64 n] w fun e w' => e = .returned (.agg #[.int .i64 (hiOf n), .int .u64 (loOf n)]) ∧ Grown w w' := by
 go_enter Tryz.func165, Tryz.ntmps165
 go_wp2
 simp [bodyPost, results, Tryz.results165, go_sem]
 unfold I64 at hn
 exact ⟨⟨by unfold hiOf; omega, by rw [IntKind.wrap_u64]; rfl⟩, (Grown.refl _).alloc _ _⟩
set_option maxHeartbeats 400000 in
theorem wideAdd (ah al bh bl : Int) (h1 : I64 ah) (h2 : U64 al) (h3 : I64 bh) (h4 : U64 bl) (w : World) :
  Calls Tryz.prog 137 #[.agg #[.int .i64 ah, .int .u64 al], .agg #[.int .i64 bh, .int .u64 bl]] w fun e w' => e = .returned (.agg #[.int .i64 (hiOf (val ah al + val bh bl)), .int .u64 (loOf (val ah al + val bh bl))]) ∧ Grown w w' := by
 unfold I64 at h1 h3; unfold U64 at h2 h4
 have k0 : 0 ≤ (al + bl) / 18446744073709551616 := by omega
 have k1 : (al + bl) / 18446744073709551616 ≤ 1 := by omega
 go_enter Tryz.func137, Tryz.ntmps137
 go_wp2_with (first | simp only [add64_0 al bl h2.1 h4.1] | simp only [add64 _ _ _ (uw0 ah) (uw0 bh) k0 k1])
 simp [bodyPost, results, Tryz.results137, go_sem]
 exact ⟨⟨by simp only [wrap64, IntKind.wrap_u64]; unfold hiOf val; omega, by unfold loOf val; omega⟩, (((Grown.refl _).alloc _ _).alloc _ _).alloc _ _⟩
set_option maxHeartbeats 400000 in
theorem wideNeg (ah al : Int) (h1 : I64 ah) (h2 : U64 al) (w : World) :
  Calls Tryz.prog 186 #[.agg #[.int .i64 ah, .int .u64 al]] w fun e w' => e = .returned (.agg #[.int .i64 (hiOf (-val ah al)), .int .u64 (loOf (-val ah al))]) ∧ Grown w w' := by
 unfold I64 at h1; unfold U64 at h2
 have q0 := sub64_0 0 al (Int.le_refl 0) h2.1 h2.2
 have q1 := sub64 0 (IntKind.u64.wrap ah) (bor 0 al) (Int.le_refl 0) (uw0 ah) (uw1 ah) (bor0 _ _) (bor1 _ _)
 have Q0 := hide q0; have Q1 := hide q1; clear q0 q1
 go_enter Tryz.func186, Tryz.ntmps186
 go_wp2_with (first | simp only [unhide Q0] | simp only [unhide Q1])
 simp [bodyPost, results, Tryz.results186, go_sem]
 exact ⟨⟨by simp only [wrap64, IntKind.wrap_u64]; unfold hiOf val bor; split <;> omega, by unfold loOf val; omega⟩, (((Grown.refl _).alloc _ _).alloc _ _)⟩
theorem ret_int {k : IntKind} {a b : Int} (h : a = b) : Ending.returned (.int k a) = .returned (.int k b) := by rw [h]
set_option maxHeartbeats 400000 in
theorem wideCmp (ah al bh bl : Int) (h1 : I64 ah) (h2 : U64 al) (h3 : I64 bh) (h4 : U64 bl) (w : World) :
  Calls Tryz.prog 164 #[.agg #[.int .i64 ah, .int .u64 al], .agg #[.int .i64 bh, .int .u64 bl]] w fun e w' => e = .returned (.int .i64 (cmpI (val ah al) (val bh bl))) ∧ Grown w w' := by
 unfold I64 at h1 h3; unfold U64 at h2 h4
 by_cases g1 : ah < bh
 ·go_enter Tryz.func164, Tryz.ntmps164
  go_wp2
  go_ret
  exact ⟨ret_int (by unfold cmpI val; rw [if_pos (by omega)]), ((Grown.refl _).alloc _ _).alloc _ _⟩
 by_cases g2 : bh < ah
 ·go_enter Tryz.func164, Tryz.ntmps164
  go_wp2
  go_ret
  exact ⟨ret_int (by unfold cmpI val; rw [if_neg (by omega), if_neg (by omega)]), ((Grown.refl _).alloc _ _).alloc _ _⟩
 obtain rfl : ah = bh := by omega
 by_cases g3 : al < bl
 ·go_enter Tryz.func164, Tryz.ntmps164
  go_wp2
  go_ret
  exact ⟨ret_int (by unfold cmpI val; rw [if_pos (by omega)]), ((Grown.refl _).alloc _ _).alloc _ _⟩
 by_cases g4 : bl < al
 ·go_enter Tryz.func164, Tryz.ntmps164
  go_wp2
  go_ret
  exact ⟨ret_int (by unfold cmpI val; rw [if_neg (by omega), if_neg (by omega)]), ((Grown.refl _).alloc _ _).alloc _ _⟩
 obtain rfl : al = bl := by omega
 go_enter Tryz.func164, Tryz.ntmps164
 go_wp2
 go_ret
 exact ⟨ret_int (by unfold cmpI val; rw [if_neg (by omega), if_pos rfl]), ((Grown.refl _).alloc _ _).alloc _ _⟩
end Go.Proofs.YtjobgjcfkomhpaaGreat
namespace Go.Proofs.Wd
theorem du {B x q r : Int} (hB : 0 < B) (h : r + B * q = x) (h0 : 0 ≤ r) (h1 : r < B) : x / B = q ∧ x % B = r := (Int.ediv_emod_unique hB).2 ⟨h, h0, h1⟩
theorem sh1 (hi lo K K' : Int) (hK : 0 < K) (h0 : 0 ≤ lo) (h1 : lo < K * K') : (hi * (K * K') + lo) / K = hi * K' + lo / K := by
 have e1 := Int.emod_add_mul_ediv lo K
 have e2 := Int.emod_nonneg lo (by omega : K ≠ 0)
 have e3 := Int.emod_lt_of_pos lo hK
 exact (du hK (x := hi * (K * K') + lo) (q := hi * K' + lo / K) (r := lo % K) (by grind) e2 e3).1
theorem ltdiv (lo K K' : Int) (hK : 0 < K) (h1 : lo < K * K') : lo / K < K' := Int.ediv_lt_of_lt_mul hK (by rw [Int.mul_comm]; exact h1)
theorem dv0 (lo K : Int) (hK : 0 < K) (h0 : 0 ≤ lo) : 0 ≤ lo / K := Int.ediv_nonneg h0 (by omega)
theorem sh2 (hi lo K K' : Int) (hK : 0 < K) (hK' : 0 < K') (h0 : 0 ≤ lo) (h1 : lo < K * K') : (hi * K' + lo / K) / (K * K') = hi / K ∧ (hi * K' + lo / K) % (K * K') = lo / K + K' * (hi % K) := by
 have e1 := Int.emod_add_mul_ediv hi K
 have e2 := Int.emod_nonneg hi (by omega : K ≠ 0)
 have e3 := Int.emod_lt_of_pos hi hK
 have d1 := ltdiv lo K K' hK h1
 have d0 := dv0 lo K hK h0
 have m0 : 0 ≤ K' * (hi % K) := Int.mul_nonneg (by omega) e2
 have m1 : K' * (hi % K) ≤ K' * (K - 1) := Int.mul_le_mul_of_nonneg_left (by omega) (by omega)
 have m2 : K' * (K - 1) = K * K' - K' := by grind
 refine du (Int.mul_pos hK hK') ?_ (by omega) (by omega)
 grind
theorem pow2_pos (j : Nat) : (0 : Int) < 2 ^ j := Int.pow_pos (by decide)
theorem pow2_mul (i j : Nat) (h : i + j = 64) : (2 : Int) ^ i * 2 ^ j = 18446744073709551616 := by
 rw [← Int.pow_add, h]; rfl
theorem orU (x t : Int) (j : Nat) (h0 : 0 ≤ x) (h1 : x < 2 ^ j) (ht : 0 ≤ t) (hs : 2 ^ j * t + x < 18446744073709551616) :
  bits .or .u64 x (2 ^ j * t) = x + 2 ^ j * t ∧ bits .or .u64 (2 ^ j * t) x = x + 2 ^ j * t := by
 obtain ⟨x, rfl⟩ := Int.eq_ofNat_of_zero_le h0
 obtain ⟨t, rfl⟩ := Int.eq_ofNat_of_zero_le ht
 have e : (2 : Int) ^ j * (t : Int) = ((2 ^ j * t : Nat) : Int) := by simp
 have hx : x < 2 ^ j := by
  have : ((2 ^ j : Nat) : Int) = (2 : Int) ^ j := by simp
  omega
 rw [e] at hs ⊢
 have q := Nat.two_pow_add_eq_or_of_lt hx t
 constructor
 ·rw [bits_or_u64_nat x (2 ^ j * t) (by omega) (by omega), Nat.or_comm, ← q]; omega
 ·rw [bits_or_u64_nat (2 ^ j * t) x (by omega) (by omega), ← q]; omega
theorem down_small (hi lo n : Int) (h1 : U64 lo) (h2 : U64 hi) (h3 : 0 ≤ n) (h4 : n < 64) :
  bits .or .u64 (lo / 2 ^ n.toNat) (IntKind.u64.wrap (hi * 2 ^ (64 - n).toNat)) = loOf (val hi lo / 2 ^ n.toNat) ∧ hi / 2 ^ n.toNat = mhi (val hi lo / 2 ^ n.toNat) := by
 have hm := pow2_mul n.toNat (64 - n).toNat (by omega)
 have hK := pow2_pos n.toNat
 have hK' := pow2_pos (64 - n).toNat
 obtain ⟨a0, a1⟩ := h1; obtain ⟨b0, b1⟩ := h2
 rw [IntKind.wrap_u64]
 unfold loOf mhi val
 have hlo : lo < 2 ^ n.toNat * 2 ^ (64 - n).toNat := by omega
 rw [← hm, sh1 hi lo _ _ hK a0 hlo]
 obtain ⟨q1, q2⟩ := sh2 hi lo _ _ hK hK' a0 hlo
 obtain ⟨p1, p2⟩ := sh2 hi 0 _ _ hK hK' (Int.le_refl 0) (by omega)
 rw [Int.zero_ediv, Int.add_zero, Int.zero_add] at p2
 have e2 := Int.emod_nonneg hi (by omega : (2 : Int) ^ n.toNat ≠ 0)
 have z2 := Int.emod_nonneg (hi * 2 ^ (64 - n).toNat + lo / 2 ^ n.toNat) (by omega : (2 : Int) ^ n.toNat * 2 ^ (64 - n).toNat ≠ 0)
 have z3 := Int.emod_lt_of_pos (hi * 2 ^ (64 - n).toNat + lo / 2 ^ n.toNat) (by omega : (0 : Int) < 2 ^ n.toNat * 2 ^ (64 - n).toNat)
 rw [p2, q2, q1]
 rw [q2] at z2 z3
 refine ⟨(orU _ _ _ (dv0 lo _ hK a0) (ltdiv lo _ _ hK hlo) e2 (by omega)).1, ?_⟩
 rw [hm]
 have w1 : 0 ≤ hi / 2 ^ n.toNat := dv0 _ _ hK b0
 have w2 : hi / 2 ^ n.toNat ≤ hi := Int.ediv_le_self _ b0
 omega
theorem down_great (hi lo n : Int) (h1 : U64 lo) (h2 : U64 hi) (h3 : 64 ≤ n) :
  hi / 2 ^ (n - 64).toNat = loOf (val hi lo / 2 ^ n.toNat) ∧ 0 = mhi (val hi lo / 2 ^ n.toNat) := by
 obtain ⟨a0, a1⟩ := h1; obtain ⟨b0, b1⟩ := h2
 have hK := pow2_pos (n - 64).toNat
 have e : (2 : Int) ^ n.toNat = 18446744073709551616 * 2 ^ (n - 64).toNat := by
  rw [show n.toNat = 64 + (n - 64).toNat from by omega, Int.pow_add]; rfl
 rw [e, ← Int.ediv_ediv_of_nonneg (by decide)]
 have e3 : val hi lo / 18446744073709551616 = hi := by unfold val; omega
 rw [e3]
 have w1 : 0 ≤ hi / 2 ^ (n - 64).toNat := dv0 _ _ hK b0
 have w2 : hi / 2 ^ (n - 64).toNat ≤ hi := Int.ediv_le_self _ b0
 unfold loOf mhi
 omega
theorem up_small (hi lo n : Int) (h1 : U64 lo) (h2 : U64 hi) (h3 : 0 ≤ n) (h4 : n < 64) :
  IntKind.u64.wrap (lo * 2 ^ n.toNat) = loOf (val hi lo * 2 ^ n.toNat) ∧ bits .or .u64 (IntKind.u64.wrap (hi * 2 ^ n.toNat)) (lo / 2 ^ (64 - n).toNat) = mhi (val hi lo * 2 ^ n.toNat) := by
 have hm := pow2_mul n.toNat (64 - n).toNat (by omega)
 have hK := pow2_pos n.toNat
 have hK' := pow2_pos (64 - n).toNat
 obtain ⟨a0, a1⟩ := h1; obtain ⟨b0, b1⟩ := h2
 rw [IntKind.wrap_u64, IntKind.wrap_u64]
 unfold loOf mhi val
 have hlo : lo < 2 ^ (64 - n).toNat * 2 ^ n.toNat := by rw [Int.mul_comm]; omega
 obtain ⟨p1, p2⟩ := sh2 hi 0 _ _ hK' hK (Int.le_refl 0) (by rw [Int.mul_comm]; omega)
 rw [Int.zero_ediv, Int.add_zero, Int.zero_add] at p2
 rw [Int.mul_comm (2 ^ (64 - n).toNat) (2 ^ n.toNat), hm] at p2
 obtain ⟨q1, q2⟩ := sh2 hi lo _ _ hK' hK a0 hlo
 rw [Int.mul_comm (2 ^ (64 - n).toNat) (2 ^ n.toNat), hm] at q1 q2
 have e2 := Int.emod_nonneg hi (by omega : (2 : Int) ^ (64 - n).toNat ≠ 0)
 have z3 := Int.emod_lt_of_pos (hi * 2 ^ n.toNat + lo / 2 ^ (64 - n).toNat) (by omega : (0 : Int) < 18446744073709551616)
 rw [q2] at z3
 have hd : (hi * 18446744073709551616 + lo) * 2 ^ n.toNat / 18446744073709551616 = hi * 2 ^ n.toNat + lo / 2 ^ (64 - n).toNat := by
  have s1 : (hi * 18446744073709551616 + lo) * 2 ^ n.toNat = 2 ^ n.toNat * (hi * 18446744073709551616 + lo) := Int.mul_comm _ _
  rw [s1]
  have s2 : (18446744073709551616 : Int) = 2 ^ n.toNat * 2 ^ (64 - n).toNat := hm.symm
  have s3 : 2 ^ n.toNat * (hi * 18446744073709551616 + lo) / 18446744073709551616 = 2 ^ n.toNat * (hi * 18446744073709551616 + lo) / (2 ^ n.toNat * 2 ^ (64 - n).toNat) := by rw [hm]
  rw [s3, Int.mul_ediv_mul_of_pos _ _ hK]
  have s4 : hi * 18446744073709551616 + lo = hi * (2 ^ (64 - n).toNat * 2 ^ n.toNat) + lo := by rw [Int.mul_comm (2 ^ (64 - n).toNat), hm]
  rw [s4, sh1 hi lo _ _ hK' a0 hlo]
 constructor
 ·have s5 : (hi * 18446744073709551616 + lo) * 2 ^ n.toNat = lo * 2 ^ n.toNat + 18446744073709551616 * (hi * 2 ^ n.toNat) := by grind
  rw [s5, Int.add_mul_emod_self_left]
 ·rw [hd, q2, p2]
  exact (orU _ _ _ (dv0 lo _ hK' a0) (ltdiv lo _ _ hK' hlo) e2 (by omega)).2
theorem up_great (hi lo n : Int) (h1 : U64 lo) (h2 : U64 hi) (h3 : 64 ≤ n) :
  0 = loOf (val hi lo * 2 ^ n.toNat) ∧ IntKind.u64.wrap (lo * 2 ^ (n - 64).toNat) = mhi (val hi lo * 2 ^ n.toNat) := by
 have e : (2 : Int) ^ n.toNat = 18446744073709551616 * 2 ^ (n - 64).toNat := by
  rw [show n.toNat = 64 + (n - 64).toNat from by omega, Int.pow_add]; rfl
 rw [e, IntKind.wrap_u64]
 have s1 : val hi lo * (18446744073709551616 * 2 ^ (n - 64).toNat) = 18446744073709551616 * (lo * 2 ^ (n - 64).toNat + 18446744073709551616 * (hi * 2 ^ (n - 64).toNat)) := by unfold val; grind
 rw [s1]
 generalize hi * 2 ^ (n - 64).toNat = p
 generalize lo * 2 ^ (n - 64).toNat = q
 unfold loOf mhi
 omega
theorem mask32 (t : Int) (h0 : 0 ≤ t) (h1 : t < 18446744073709551616) : bits .and .u64 t 4294967295 = t % 4294967296 := by
 obtain ⟨t, rfl⟩ := Int.eq_ofNat_of_zero_le h0
 rw [show ((4294967295 : Int)) = ((4294967295 : Nat) : Int) from rfl, bits_and_u64_nat t 4294967295 (by omega) (by omega), Nat.and_two_pow_sub_one_eq_mod t 32]
 rfl
end Go.Proofs.Wd
namespace Go.Proofs.YtjobgjcfkomhpaaGreat
open Go.RowKit Go.Proofs.Wd
set_option maxRecDepth 10000
theorem mul64_letters (x y x1 x0 y1 y0 a b c d : Int) (hx : x / 4294967296 = x1) (hx' : bits .and .u64 x 4294967295 = x0) (hy : y / 4294967296 = y1) (hy' : bits .and .u64 y 4294967295 = y0)
  (ha : x1 * y1 = a) (hb : x1 * y0 = b) (hc : x0 * y1 = c) (hd : x0 * y0 = d) (bx : 0 ≤ x ∧ x < 18446744073709551616) (bw : 0 ≤ y ∧ y < 18446744073709551616)
  (ba : 0 ≤ a ∧ a ≤ 18446744065119617025) (bb : 0 ≤ b ∧ b ≤ 18446744065119617025) (bc : 0 ≤ c ∧ c ≤ 18446744065119617025) (bd : 0 ≤ d ∧ d ≤ 18446744065119617025)
  (hm : bits .and .u64 (b + d / 4294967296) 4294967295 = (b + d / 4294967296) % 4294967296)
  (hs : a + (b + d / 4294967296) / 4294967296 + ((b + d / 4294967296) % 4294967296 + c) / 4294967296 < 18446744073709551616) (w : World) :
  Calls Tryz.prog 134 #[.int .u64 x, .int .u64 y] w fun e w' => e = .returned (.tuple #[.int .u64 (a + (b + d / 4294967296) / 4294967296 + ((b + d / 4294967296) % 4294967296 + c) / 4294967296), .int .u64 (IntKind.u64.wrap (x * y))]) ∧ w' = w := by
 go_enter Tryz.func134, Tryz.ntmps134
 go_wp2
 go_ret2
 exact ⟨rfl, rfl⟩
theorem part_mul (p q : Int) (hp : 0 ≤ p ∧ p ≤ 4294967295) (hq : 0 ≤ q ∧ q ≤ 4294967295) : 0 ≤ p * q ∧ p * q ≤ 18446744065119617025 := by
 have e : p * q ≤ p * 4294967295 := Int.mul_le_mul_of_nonneg_left hq.2 hp.1
 exact ⟨Int.mul_nonneg hp.1 hq.1, by omega⟩
theorem mul64 (x y : Int) (hx : U64 x) (hy : U64 y) (w : World) :
  Calls Tryz.prog 134 #[.int .u64 x, .int .u64 y] w fun e w' => e = .returned (.tuple #[.int .u64 (x * y / 18446744073709551616), .int .u64 (x * y % 18446744073709551616)]) ∧ w' = w := by
 unfold U64 at hx hy
 have ba := part_mul (x / 4294967296) (y / 4294967296) (by omega) (by omega)
 have bb := part_mul (x / 4294967296) (y % 4294967296) (by omega) (by omega)
 have bc := part_mul (x % 4294967296) (y / 4294967296) (by omega) (by omega)
 have bd := part_mul (x % 4294967296) (y % 4294967296) (by omega) (by omega)
 have hxy : x * y = x / 4294967296 * (y / 4294967296) * 18446744073709551616 + (x / 4294967296 * (y % 4294967296) + x % 4294967296 * (y / 4294967296)) * 4294967296 + x % 4294967296 * (y % 4294967296) := by
  have e1 : x = x / 4294967296 * 4294967296 + x % 4294967296 := by omega
  have e2 : y = y / 4294967296 * 4294967296 + y % 4294967296 := by omega
  generalize x / 4294967296 = x1 at *
  generalize x % 4294967296 = x0 at *
  generalize y / 4294967296 = y1 at *
  generalize y % 4294967296 = y0 at *
  rw [e1, e2]; grind
 have q := mul64_letters x y _ _ _ _ _ _ _ _ rfl (mask32 x hx.1 hx.2) rfl (mask32 y hy.1 hy.2) rfl rfl rfl rfl hx hy ba bb bc bd (mask32 _ (by omega) (by omega)) (by omega) w
 rw [IntKind.wrap_u64] at q
 have hh : x / 4294967296 * (y / 4294967296) + (x / 4294967296 * (y % 4294967296) + x % 4294967296 * (y % 4294967296) / 4294967296) / 4294967296 + ((x / 4294967296 * (y % 4294967296) + x % 4294967296 * (y % 4294967296) / 4294967296) % 4294967296 + x % 4294967296 * (y / 4294967296)) / 4294967296 = x * y / 18446744073709551616 := by
  rw [hxy]; omega
 rw [hh] at q
 exact q
set_option maxHeartbeats 400000 in
theorem wideFar (n : Int) (hn : I64 n) (w : World) :
  Calls Tryz.prog 175 #[.int .i64 n] w fun e w' => e = .returned (.int .u64 (absI n)) ∧ Grown w w' := by
 unfold I64 at hn
 by_cases hs : n < 0
 ·go_enter Tryz.func175, Tryz.ntmps175
  go_wp2
  go_ret
  exact ⟨ret_int (by simp only [wrap64, IntKind.wrap_u64]; unfold absI; rw [if_pos hs]; omega), Grown.refl _⟩
 ·go_enter Tryz.func175, Tryz.ntmps175
  go_wp2
  go_ret
  exact ⟨ret_int (by unfold absI; rw [if_neg (by omega)]), Grown.refl _⟩
set_option maxHeartbeats 400000 in
theorem wideSigned (lo hi : Int) (b : Bool) (h1 : U64 lo) (h2 : U64 hi) (w : World) :
  Calls Tryz.prog 174 #[.agg #[.int .u64 lo, .int .u64 hi], .bool b] w fun e w' => e = .returned (.agg #[.int .i64 (hiOf (sg b (val hi lo))), .int .u64 (loOf (sg b (val hi lo)))]) ∧ Grown w w' := by
 unfold U64 at h1 h2
 cases b
 ·go_enter Tryz.func174, Tryz.ntmps174
  go_wp2
  simp [bodyPost, results, Tryz.results174, go_sem]
  exact ⟨⟨by simp only [wrap64]; unfold sg hiOf val; simp only [Bool.false_eq_true, if_false]; omega, by unfold sg loOf val; simp only [Bool.false_eq_true, if_false]; omega⟩, (((Grown.refl _).alloc _ _).alloc _ _).alloc _ _⟩
 ·go_enter Tryz.func174, Tryz.ntmps174
  go_wp2_with fail
  refine (wideNeg _ _ (by unfold I64; simp only [wrap64]; omega) (by unfold U64; omega) _).mono ?_
  rintro e w1 ⟨rfl, hg⟩
  obtain ⟨hc, hf, hz⟩ := gcell hg
  go_wp2
  simp [bodyPost, results, Tryz.results174, go_sem, hc]
  exact ⟨⟨by simp only [wrap64]; unfold sg hiOf val; simp only [if_true]; omega, by simp only [wrap64]; unfold sg loOf val; simp only [if_true]; omega⟩, ((gtrans ((((Grown.refl _).alloc _ _).alloc _ _).alloc _ _) hg).setCell (by simp) _).setCell (by simp) _⟩
set_option maxHeartbeats 400000 in
theorem wideSizeOf (ah al : Int) (h1 : I64 ah) (h2 : U64 al) (w : World) :
  Calls Tryz.prog 185 #[.agg #[.int .i64 ah, .int .u64 al]] w fun e w' => e = .returned (.agg #[.int .u64 (loOf (absI (val ah al))), .int .u64 (mhi (absI (val ah al)))]) ∧ Grown w w' := by
 unfold I64 at h1; unfold U64 at h2
 by_cases hs : ah < 0
 ·go_enter Tryz.func185, Tryz.ntmps185
  go_wp2_with fail
  refine (wideNeg _ _ (by unfold I64; omega) (by unfold U64; omega) _).mono ?_
  rintro e w1 ⟨rfl, hg⟩
  have c0 := gat hg (b := w.heap.size) (o := 0) (v := .int .i64 ah) (by simp [go_sem])
  have c1 := gat hg (b := w.heap.size) (o := 1) (v := .int .u64 al) (by simp [go_sem])
  have d0 := gat hg (b := w.heap.size + 1) (o := 0) (v := .int .u64 0) (by simp [go_sem])
  have d1 := gat hg (b := w.heap.size + 1) (o := 1) (v := .int .u64 0) (by simp [go_sem])
  obtain ⟨-, hf, -⟩ := gcell hg
  go_wp2
  simp [bodyPost, results, Tryz.results185, go_sem, c0, c1, d0, d1]
  exact ⟨⟨by unfold absI; rw [if_pos (by unfold val; omega)], by simp only [IntKind.wrap_u64]; unfold absI; rw [if_pos (by unfold val; omega)]; unfold hiOf mhi val; omega⟩, ((((gtrans ((((Grown.refl _).alloc _ _).alloc _ _)) hg).setCell (by simp) _).setCell (by simp) _).setCell (by simp) _).setCell (by simp) _⟩
 ·go_enter Tryz.func185, Tryz.ntmps185
  go_wp2
  simp [bodyPost, results, Tryz.results185, go_sem]
  exact ⟨⟨by unfold absI; rw [if_neg (by unfold val; omega)]; unfold loOf val; omega, by unfold absI; rw [if_neg (by unfold val; omega)]; unfold mhi val; omega⟩, (((Grown.refl _).alloc _ _).alloc _ _)⟩
set_option maxHeartbeats 400000 in
theorem wideLess (al ah bl bh : Int) (h1 : U64 al) (h2 : U64 ah) (h3 : U64 bl) (h4 : U64 bh) (w : World) :
  Calls Tryz.prog 180 #[.agg #[.int .u64 al, .int .u64 ah], .agg #[.int .u64 bl, .int .u64 bh]] w fun e w' => e = .returned (.bool (decide (val ah al < val bh bl))) ∧ Grown w w' := by
 unfold U64 at h1 h2 h3 h4
 by_cases hs : ah = bh
 ·subst hs
  go_enter Tryz.func180, Tryz.ntmps180
  go_wp2
  go_ret
  exact ⟨congrArg (fun b => Ending.returned (.bool b)) (by unfold val; rw [decide_eq_decide]; omega), ((Grown.refl _).alloc _ _).alloc _ _⟩
 ·go_enter Tryz.func180, Tryz.ntmps180
  go_wp2
  go_ret
  exact ⟨congrArg (fun b => Ending.returned (.bool b)) (by unfold val; rw [decide_eq_decide]; omega), ((Grown.refl _).alloc _ _).alloc _ _⟩
set_option maxHeartbeats 400000 in
theorem wideMinus (al ah bl bh : Int) (h1 : U64 al) (h2 : U64 ah) (h3 : U64 bl) (h4 : U64 bh) (w : World) :
  Calls Tryz.prog 183 #[.agg #[.int .u64 al, .int .u64 ah], .agg #[.int .u64 bl, .int .u64 bh]] w fun e w' => e = .returned (.agg #[.int .u64 (loOf (val ah al - val bh bl)), .int .u64 (mhi (val ah al - val bh bl))]) ∧ Grown w w' := by
 unfold U64 at h1 h2 h3 h4
 have q0 := sub64_0 al bl h1.1 h3.1 h3.2
 have q1 := sub64 ah bh (bor al bl) h2.1 h4.1 h4.2 (bor0 _ _) (bor1 _ _)
 have Q0 := hide q0; have Q1 := hide q1; clear q0 q1
 go_enter Tryz.func183, Tryz.ntmps183
 go_wp2_with (first | simp only [unhide Q0] | simp only [unhide Q1])
 simp [bodyPost, results, Tryz.results183, go_sem]
 exact ⟨⟨by unfold loOf val; omega, by unfold mhi val bor; split <;> omega⟩, (((Grown.refl _).alloc _ _).alloc _ _).alloc _ _⟩
set_option maxHeartbeats 400000 in
theorem wideNext (al ah : Int) (h1 : U64 al) (h2 : U64 ah) (w : World) :
  Calls Tryz.prog 181 #[.agg #[.int .u64 al, .int .u64 ah]] w fun e w' => e = .returned (.agg #[.int .u64 (loOf (val ah al + 1)), .int .u64 (mhi (val ah al + 1))]) ∧ Grown w w' := by
 unfold U64 at h1 h2
 have q0 := add64_0 al 1 h1.1 (by decide)
 have Q0 := hide q0; clear q0
 go_enter Tryz.func181, Tryz.ntmps181
 go_wp2_with (first | simp only [unhide Q0])
 simp [bodyPost, results, Tryz.results181, go_sem]
 exact ⟨⟨by unfold loOf val; omega, by simp only [IntKind.wrap_u64]; unfold mhi val; omega⟩, (((Grown.refl _).alloc _ _).alloc _ _)⟩
set_option maxHeartbeats 400000 in
theorem wideDown (lo hi n : Int) (h1 : U64 lo) (h2 : U64 hi) (h3 : 0 ≤ n) (h4 : n ≤ 127) (w : World) :
  Calls Tryz.prog 182 #[.agg #[.int .u64 lo, .int .u64 hi], .int .u64 n] w fun e w' => e = .returned (.agg #[.int .u64 (loOf (val hi lo / 2 ^ n.toNat)), .int .u64 (mhi (val hi lo / 2 ^ n.toNat))]) ∧ Grown w w' := by
 by_cases hs : n < 64
 ·have Q := hide (down_small hi lo n h1 h2 h3 hs)
  unfold U64 at h1 h2
  go_enter Tryz.func182, Tryz.ntmps182
  go_wp2
  simp [bodyPost, results, Tryz.results182, go_sem]
  exact ⟨unhide Q, ((Grown.refl _).alloc _ _).alloc _ _⟩
 ·have Q := hide (down_great hi lo n h1 h2 (by omega))
  unfold U64 at h1 h2
  go_enter Tryz.func182, Tryz.ntmps182
  go_wp2
  simp [bodyPost, results, Tryz.results182, go_sem]
  exact ⟨unhide Q, ((Grown.refl _).alloc _ _).alloc _ _⟩
set_option maxHeartbeats 400000 in
theorem wideUp (lo hi n : Int) (h1 : U64 lo) (h2 : U64 hi) (h3 : 0 ≤ n) (h4 : n ≤ 127) (w : World) :
  Calls Tryz.prog 184 #[.agg #[.int .u64 lo, .int .u64 hi], .int .u64 n] w fun e w' => e = .returned (.agg #[.int .u64 (loOf (val hi lo * 2 ^ n.toNat)), .int .u64 (mhi (val hi lo * 2 ^ n.toNat))]) ∧ Grown w w' := by
 by_cases hs : n < 64
 ·have Q := hide (up_small hi lo n h1 h2 h3 hs)
  unfold U64 at h1 h2
  go_enter Tryz.func184, Tryz.ntmps184
  go_wp2
  simp [bodyPost, results, Tryz.results184, go_sem]
  exact ⟨unhide Q, ((Grown.refl _).alloc _ _).alloc _ _⟩
 ·have Q := hide (up_great hi lo n h1 h2 (by omega))
  unfold U64 at h1 h2
  go_enter Tryz.func184, Tryz.ntmps184
  go_wp2
  simp [bodyPost, results, Tryz.results184, go_sem]
  exact ⟨unhide Q, ((Grown.refl _).alloc _ _).alloc _ _⟩
set_option maxHeartbeats 400000 in
theorem wideFactors (a b : Int) (h1 : I64 a) (h2 : I64 b) (w : World) :
  Calls Tryz.prog 163 #[.int .i64 a, .int .i64 b] w fun e w' => e = .returned (.tuple #[.int .u64 (absI a), .int .u64 (absI b), .bool (apartS a b)]) ∧ Grown w w' := by
 go_enter Tryz.func163, Tryz.ntmps163
 go_wp2_with fail
 refine (wideFar a h1 _).mono ?_
 rintro e w1 ⟨rfl, hg1⟩
 go_wp2_with fail
 refine (wideFar b h2 _).mono ?_
 rintro e w2 ⟨rfl, hg2⟩
 go_wp2
 go_ret3
 exact ⟨rfl, gtrans hg1 hg2⟩
set_option maxHeartbeats 400000 in
theorem wideProduct (x y : Int) (b : Bool) (h1 : U64 x) (h2 : U64 y) (w : World) :
  Calls Tryz.prog 162 #[.int .u64 x, .int .u64 y, .bool b] w fun e w' => e = .returned (.agg #[.int .i64 (hiOf (sg b (x * y))), .int .u64 (loOf (sg b (x * y)))]) ∧ Grown w w' := by
 have hv : val (x * y / 18446744073709551616) (x * y % 18446744073709551616) = x * y := by unfold val; omega
 have hp0 : 0 ≤ x * y := Int.mul_nonneg h1.1 h2.1
 have hp1 : x * y < 340282366920938463463374607431768211456 := mul_lt x y h1 h2
 have HV := hide hv; clear hv
 have u1 : U64 (x * y / 18446744073709551616) := by unfold U64; omega
 have u2 : U64 (x * y % 18446744073709551616) := by unfold U64; omega
 clear hp0 hp1
 go_enter Tryz.func162, Tryz.ntmps162
 go_wp2_with fail
 refine (mul64 x y h1 h2 _).mono ?_
 rintro e w1 ⟨rfl, rfl⟩
 go_wp2_with fail
 refine (wideSigned _ _ b u2 u1 _).mono ?_
 rintro e w2 ⟨rfl, hg⟩
 rw [unhide HV]
 have c0 := gat hg (b := w.heap.size) (o := 0) (v := .int .i64 0) (by simp [go_sem])
 have c1 := gat hg (b := w.heap.size) (o := 1) (v := .int .u64 0) (by simp [go_sem])
 obtain ⟨-, hf, -⟩ := gcell hg
 go_wp2
 simp [bodyPost, results, Tryz.results162, go_sem, c0, c1]
 exact ((gtrans ((Grown.refl _).alloc _ _) hg).setCell (by simp) _).setCell (by simp) _
set_option maxHeartbeats 400000 in
theorem wideMul (a b : Int) (h1 : I64 a) (h2 : I64 b) (w : World) :
  Calls Tryz.prog 141 #[.int .i64 a, .int .i64 b] w fun e w' => e = .returned (.agg #[.int .i64 (hiOf (a * b)), .int .u64 (loOf (a * b))]) ∧ Grown w w' := by
 have HV := hide (sg_mul a b)
 go_enter Tryz.func141, Tryz.ntmps141
 go_wp2_with fail
 refine (wideFactors a b h1 h2 _).mono ?_
 rintro e w1 ⟨rfl, hg1⟩
 go_wp2_with fail
 refine (wideProduct _ _ _ (absI_U64 a h1) (absI_U64 b h2) _).mono ?_
 rintro e w2 ⟨rfl, hg2⟩
 rw [unhide HV]
 have hg := gtrans hg1 hg2
 have c0 := gat hg (b := w.heap.size) (o := 0) (v := .int .i64 0) (by simp [go_sem])
 have c1 := gat hg (b := w.heap.size) (o := 1) (v := .int .u64 0) (by simp [go_sem])
 obtain ⟨-, hf, -⟩ := gcell hg
 go_wp2
 simp [bodyPost, results, Tryz.results141, go_sem, c0, c1]
 exact ((gtrans ((Grown.refl _).alloc _ _) hg).setCell (by simp) _).setCell (by simp) _
end Go.Proofs.YtjobgjcfkomhpaaGreat
namespace Go.Proofs.YtjobgjcfkomhpaaGreat
open Go.RowKit Go.Proofs.Wd
set_option maxRecDepth 10000
attribute [local go_sem ↓] Go.wp_at_zero Go.wp_at_succ
theorem heap_gt {W : World} {b o : Nat} {v : Value} (hv : W.cell? ⟨b, o, none⟩ = some v) : b < W.heap.size := by
 by_cases hb : b < W.heap.size
 ·exact hb
 ·rw [World.cell?] at hv
  simp [Array.getElem?_eq_none (Nat.le_of_not_lt hb)] at hv
theorem frz {W w1 : World} (h : Grown W w1) : ∀ b o, W.heap.size ≤ b → w1.frozen? ⟨b, o, none⟩ = false := by
 intro b o hb
 rw [h.2.1]
 simp [World.frozen?, Array.getElem?_eq_none hb]
theorem gat2 {W w1 : World} (h : Grown W w1) (b : Nat) (x y : Value) (hv : W.cell? ⟨b, 0, none⟩ = some x ∧ W.cell? ⟨b, 1, none⟩ = some y) : w1.cell? ⟨b, 0, none⟩ = some x ∧ w1.cell? ⟨b, 1, none⟩ = some y := ⟨gat h hv.1, gat h hv.2⟩
set_option maxHeartbeats 1000000 in
theorem wideShift (ah al n : Int) (h1 : I64 ah) (h2 : U64 al) (h3 : 0 ≤ n) (h4 : n ≤ 127) (w : World) :
  Calls Tryz.prog 173 #[.agg #[.int .i64 ah, .int .u64 al], .int .i64 n] w fun e w' => e = .returned (.tuple #[.agg #[.int .u64 (loOf (absI (val ah al))), .int .u64 (mhi (absI (val ah al)))], .int .u64 n, .bool (decide (ah < 0))]) ∧ Grown w w' := by
 go_enter Tryz.func173, Tryz.ntmps173
 go_wp2
 go_region_held3 (fun w' => w'.cell? ⟨w.heap.size, 0, none⟩ = some (.int .i64 ah) ∧ w'.cell? ⟨w.heap.size, 1, none⟩ = some (.int .u64 al))
  (first | (go_split_ands; exact ⟨gat hg (by assumption), gat hg (by assumption)⟩) | (simp [go_sem, *]; done))
  (first | (go_at_call 185; refine (wideSizeOf ah al h1 h2 _).mono ?_; rintro e w1 ⟨rfl, hg⟩; have d0 := gat hg (b := w.heap.size + 1) (o := 0) (v := .int .u64 0) (by simp [go_sem]); have d1 := gat hg (b := w.heap.size + 1) (o := 1) (v := .int .u64 0) (by simp [go_sem]); have hf := hg.2.1))
 go_wp2
 simp [bodyPost, results, Tryz.results173, go_sem, d0, d1]
 exact ⟨by rw [IntKind.wrap_u64]; omega, ((gtrans (Grown.drew (((Grown.refl _).alloc _ _).alloc _ _)) hg).setCell (by simp) _).setCell (by simp) _⟩
set_option maxHeartbeats 400000 in
theorem wideShifted_core (ml mh n Q P R K L : Int) (b : Bool)
  (DN : Hid (∀ w, Calls Tryz.prog 182 #[.agg #[.int .u64 ml, .int .u64 mh], .int .u64 n] w fun e w' => e = .returned (.agg #[.int .u64 (loOf Q), .int .u64 (mhi Q)]) ∧ Grown w w'))
  (U1 : Hid (∀ w, Calls Tryz.prog 184 #[.agg #[.int .u64 (loOf Q), .int .u64 (mhi Q)], .int .u64 n] w fun e w' => e = .returned (.agg #[.int .u64 (loOf P), .int .u64 (mhi P)]) ∧ Grown w w'))
  (M1 : Hid (∀ w, Calls Tryz.prog 183 #[.agg #[.int .u64 ml, .int .u64 mh], .agg #[.int .u64 (loOf P), .int .u64 (mhi P)]] w fun e w' => e = .returned (.agg #[.int .u64 (loOf R), .int .u64 (mhi R)]) ∧ Grown w w'))
  (U2 : Hid (∀ w, Calls Tryz.prog 184 #[.agg #[.int .u64 1, .int .u64 0], .int .u64 n] w fun e w' => e = .returned (.agg #[.int .u64 (loOf K), .int .u64 (mhi K)]) ∧ Grown w w'))
  (M2 : Hid (∀ w, Calls Tryz.prog 183 #[.agg #[.int .u64 (loOf K), .int .u64 (mhi K)], .agg #[.int .u64 (loOf R), .int .u64 (mhi R)]] w fun e w' => e = .returned (.agg #[.int .u64 (loOf L), .int .u64 (mhi L)]) ∧ Grown w w'))
  (w : World) :
  Calls Tryz.prog 172 #[.agg #[.int .u64 ml, .int .u64 mh], .int .u64 n, .bool b] w fun e w' => e = .returned (.tuple #[.agg #[.int .u64 (loOf Q), .int .u64 (mhi Q)], .agg #[.int .u64 (loOf R), .int .u64 (mhi R)], .agg #[.int .u64 (loOf L), .int .u64 (mhi L)], .bool b]) ∧ Grown w w' := by
 go_enter Tryz.func172, Tryz.ntmps172
 go_wp2_with fail
 refine (unhide DN _).mono ?_
 rintro e w1 ⟨rfl, hg1⟩
 obtain ⟨a0, a1⟩ := gat2 hg1 w.heap.size (.int .u64 ml) (.int .u64 mh) (by constructor <;> simp [go_sem])
 obtain ⟨b0, b1⟩ := gat2 hg1 (w.heap.size + 1) (.int .u64 0) (.int .u64 0) (by constructor <;> simp [go_sem])
 obtain ⟨c0, c1⟩ := gat2 hg1 (w.heap.size + 1 + 1) (.int .u64 0) (.int .u64 0) (by constructor <;> simp [go_sem])
 obtain ⟨d0, d1⟩ := gat2 hg1 (w.heap.size + 1 + 1 + 1) (.int .u64 0) (.int .u64 0) (by constructor <;> simp [go_sem])
 have hf := hg1.2.1
 go_wp2
 go_region_held3 (fun w' => w'.cell? ⟨w.heap.size, 0, none⟩ = some (.int .u64 ml) ∧ w'.cell? ⟨w.heap.size, 1, none⟩ = some (.int .u64 mh) ∧ w'.cell? ⟨w.heap.size + 1, 0, none⟩ = some (.int .u64 (loOf Q)) ∧ w'.cell? ⟨w.heap.size + 1, 1, none⟩ = some (.int .u64 (mhi Q)))
  (first | (go_split_ands; exact ⟨gat hg3 (by assumption), gat hg3 (by assumption), gat hg3 (by assumption), gat hg3 (by assumption)⟩) | (go_split_ands; exact ⟨gat hg2 (by assumption), gat hg2 (by assumption), gat hg2 (by assumption), gat hg2 (by assumption)⟩) | (simp [go_sem, *]; done))
  (first
   | (go_at_call 184; refine (unhide U1 _).mono ?_; rintro e w2 ⟨rfl, hg2⟩; obtain ⟨c2, c3⟩ := gat2 hg2 (w.heap.size + 1 + 1) (.int .u64 0) (.int .u64 0) (by constructor <;> simp [go_sem, *]); obtain ⟨d2, d3⟩ := gat2 hg2 (w.heap.size + 1 + 1 + 1) (.int .u64 0) (.int .u64 0) (by constructor <;> simp [go_sem, *]); have hf2 := hg2.2.1)
   | (go_at_call 183; refine (unhide M1 _).mono ?_; rintro e w3 ⟨rfl, hg3⟩; obtain ⟨c4, c5⟩ := gat2 hg3 (w.heap.size + 1 + 1) (.int .u64 0) (.int .u64 0) ⟨c2, c3⟩; obtain ⟨d4, d5⟩ := gat2 hg3 (w.heap.size + 1 + 1 + 1) (.int .u64 0) (.int .u64 0) ⟨d2, d3⟩; have hf3 := hg3.2.1))
 go_wp2_with fail
 refine (unhide U2 _).mono ?_
 rintro e w4 ⟨rfl, hg4⟩
 obtain ⟨b6, b7⟩ := gat2 hg4 (w.heap.size + 1) (.int .u64 (loOf Q)) (.int .u64 (mhi Q)) (by constructor <;> simp [go_sem, *])
 obtain ⟨c6, c7⟩ := gat2 hg4 (w.heap.size + 1 + 1) (.int .u64 (loOf R)) (.int .u64 (mhi R)) (by constructor <;> simp [go_sem, *])
 obtain ⟨d6, d7⟩ := gat2 hg4 (w.heap.size + 1 + 1 + 1) (.int .u64 0) (.int .u64 0) (by constructor <;> simp [go_sem, *])
 have hf4 := hg4.2.1
 have hz4 : w.heap.size + 1 + 1 + 1 < w4.heap.size := heap_gt d6
 have hz1 : w.heap.size + 1 < w4.heap.size := by omega
 have hz2 : w.heap.size + 1 + 1 < w4.heap.size := by omega
 have hn1 : w4.heap.size ≠ w.heap.size + 1 := by omega
 have hn2 : w4.heap.size ≠ w.heap.size + 1 + 1 := by omega
 have hn3 : w4.heap.size ≠ w.heap.size + 1 + 1 + 1 := by omega
 have hm1 : w.heap.size + 1 ≠ w4.heap.size := by omega
 have hm2 : w.heap.size + 1 + 1 ≠ w4.heap.size := by omega
 have hm3 : w.heap.size + 1 + 1 + 1 ≠ w4.heap.size := by omega
 have hgw : Grown w w4 := by
  refine gtrans ?_ hg4
  refine Grown.setCell (Grown.setCell (gtrans (gtrans ?_ hg2) hg3) (by simp; omega) _) (by simp; omega) _
  refine Grown.drew (Grown.setCell (Grown.setCell (gtrans ?_ hg1) (by simp) _) (by simp) _)
  exact (((((Grown.refl _).alloc _ _).alloc _ _).alloc _ _).alloc _ _)
 clear hg1 hg2 hg3 hg4 a0 a1 b0 b1 c0 c1 d0 d1 c2 c3 d2 d3 c4 c5 d4 d5 hf hf2 hf3
 have hfz := frz hgw
 clear hf4
 go_wp2
 go_region_held3 (fun w' => w'.cell? ⟨w.heap.size + 1, 0, none⟩ = some (.int .u64 (loOf Q)) ∧ w'.cell? ⟨w.heap.size + 1, 1, none⟩ = some (.int .u64 (mhi Q)) ∧ w'.cell? ⟨w.heap.size + 1 + 1, 0, none⟩ = some (.int .u64 (loOf R)) ∧ w'.cell? ⟨w.heap.size + 1 + 1, 1, none⟩ = some (.int .u64 (mhi R)) ∧ w'.cell? ⟨w4.heap.size, 0, none⟩ = some (.int .u64 (loOf K)) ∧ w'.cell? ⟨w4.heap.size, 1, none⟩ = some (.int .u64 (mhi K)))
  (simp [go_sem, *])
  (first
   | (go_at_call 183; refine (unhide M2 _).mono ?_; rintro e w5 ⟨rfl, hg5⟩; obtain ⟨d8, d9⟩ := gat2 hg5 (w.heap.size + 1 + 1 + 1) (.int .u64 0) (.int .u64 0) (by constructor <;> simp [go_sem, *]); obtain ⟨b8, b9⟩ := gat2 hg5 (w.heap.size + 1) (.int .u64 (loOf Q)) (.int .u64 (mhi Q)) (by constructor <;> simp [go_sem, *]); obtain ⟨c8, c9⟩ := gat2 hg5 (w.heap.size + 1 + 1) (.int .u64 (loOf R)) (.int .u64 (mhi R)) (by constructor <;> simp [go_sem, *]); obtain ⟨k8, k9⟩ := gat2 hg5 w4.heap.size (.int .u64 (loOf K)) (.int .u64 (mhi K)) (by constructor <;> simp [go_sem, *]); have hgw5 : Grown w w5 := gtrans (by exact Grown.drew (Grown.alloc hgw _ _)) hg5; have e1 := fun o => frz hgw5 (w.heap.size + 1) o (by omega); have e2 := fun o => frz hgw5 (w.heap.size + 1 + 1) o (by omega); have e3 := fun o => frz hgw5 (w.heap.size + 1 + 1 + 1) o (by omega)))
 go_wp2
 simp [bodyPost, results, Tryz.results172, go_sem, b8, b9, c8, c9, d8, d9]
 refine Grown.setCell ?_ (by dsimp only; omega) _
 refine Grown.setCell ?_ (by dsimp only; omega) _
 refine Grown.setCell ?_ (by dsimp only; omega) _
 refine Grown.setCell ?_ (by dsimp only; omega) _
 refine Grown.setCell ?_ (by dsimp only; omega) _
 refine Grown.setCell ?_ (by dsimp only; omega) _
 exact hgw5
theorem wideShifted (ml mh n : Int) (b : Bool) (h1 : U64 ml) (h2 : U64 mh) (h3 : 0 ≤ n) (h4 : n ≤ 127) (w : World) :
  Calls Tryz.prog 172 #[.agg #[.int .u64 ml, .int .u64 mh], .int .u64 n, .bool b] w fun e w' => e = .returned (.tuple #[.agg #[.int .u64 (loOf (val mh ml / 2 ^ n.toNat)), .int .u64 (mhi (val mh ml / 2 ^ n.toNat))], .agg #[.int .u64 (loOf (val mh ml % 2 ^ n.toNat)), .int .u64 (mhi (val mh ml % 2 ^ n.toNat))], .agg #[.int .u64 (loOf (2 ^ n.toNat - val mh ml % 2 ^ n.toNat)), .int .u64 (mhi (2 ^ n.toNat - val mh ml % 2 ^ n.toNat))], .bool b]) ∧ Grown w w' := by
 have hK := pow2_pos n.toNat
 have hK' := pow127 n h3 h4
 have hM := size_range mh ml h2 h1
 have e0 := Int.emod_add_mul_ediv (val mh ml) (2 ^ n.toNat)
 have e1 := Int.emod_nonneg (val mh ml) (by omega : (2 : Int) ^ n.toNat ≠ 0)
 have e2 := Int.emod_lt_of_pos (val mh ml) hK
 have e3 : 0 ≤ val mh ml / 2 ^ n.toNat := dv0 _ _ hK hM.1
 have e4 : val mh ml / 2 ^ n.toNat ≤ val mh ml := Int.ediv_le_self _ hM.1
 have eP : 0 ≤ 2 ^ n.toNat * (val mh ml / 2 ^ n.toNat) := Int.mul_nonneg (by omega) e3
 have v1 := val_size (val mh ml / 2 ^ n.toNat) (by omega)
 have v2 := val_size (2 ^ n.toNat * (val mh ml / 2 ^ n.toNat)) (by omega)
 have v3 := val_size (val mh ml % 2 ^ n.toNat) (by omega)
 have v4 := val_size (2 ^ n.toNat) (by omega)
 refine wideShifted_core ml mh n (val mh ml / 2 ^ n.toNat) (2 ^ n.toNat * (val mh ml / 2 ^ n.toNat)) (val mh ml % 2 ^ n.toNat) (2 ^ n.toNat) (2 ^ n.toNat - val mh ml % 2 ^ n.toNat) b ?_ ?_ ?_ ?_ ?_ w
 ·exact hide (fun w => wideDown ml mh n h1 h2 h3 h4 w)
 ·have q := fun w => wideUp (loOf (val mh ml / 2 ^ n.toNat)) (mhi (val mh ml / 2 ^ n.toNat)) n (loOf_U64 _) (mhi_U64 _) h3 h4 w
  rw [v1, Int.mul_comm] at q
  exact hide q
 ·have q := fun w => wideMinus ml mh (loOf (2 ^ n.toNat * (val mh ml / 2 ^ n.toNat))) (mhi (2 ^ n.toNat * (val mh ml / 2 ^ n.toNat))) h1 h2 (loOf_U64 _) (mhi_U64 _) w
  rw [v2, show val mh ml - 2 ^ n.toNat * (val mh ml / 2 ^ n.toNat) = val mh ml % 2 ^ n.toNat from by omega] at q
  exact hide q
 ·have q := fun w => wideUp 1 0 n (by unfold U64; omega) (by unfold U64; omega) h3 h4 w
  rw [show val 0 1 * 2 ^ n.toNat = 2 ^ n.toNat from by unfold val; omega] at q
  exact hide q
 ·have q := fun w => wideMinus (loOf (2 ^ n.toNat)) (mhi (2 ^ n.toNat)) (loOf (val mh ml % 2 ^ n.toNat)) (mhi (val mh ml % 2 ^ n.toNat)) (loOf_U64 _) (mhi_U64 _) (loOf_U64 _) (mhi_U64 _) w
  rw [v3, v4] at q
  exact hide q
theorem arrEq (a b c d : Int) (w : World) : (Op.equalIn 9999 167 (.agg #[.int .u64 a, .int .u64 b]) (.agg #[.int .u64 c, .int .u64 d])).run Tryz.prog w = .ok (a == c && b == d) w := by
 obtain ⟨i, hi⟩ : ∃ i, Tryz.prog.info? 125 = some i := Option.isSome_iff_exists.1 (by kernel_rfl)
 rw [show (9999 : Nat) = 9998 + 1 from rfl, run_equalIn_array w 9998 _ _ Tryz.underlying167 hi, show Tryz.prog.cellsOf 125 = 1 from by kernel_rfl, show List.range 2 = [0, 1] from rfl]
 simp only [Op.eqItems]
 simp [go_sem, Tryz.underlying125]
 by_cases h : a = c <;> by_cases h' : b = d <;> simp [h, h']
theorem arrEq_no (a b c d : Int) (h : a ≠ c ∨ b ≠ d) (w : World) : (Op.equalIn 9999 167 (.agg #[.int .u64 a, .int .u64 b]) (.agg #[.int .u64 c, .int .u64 d])).run Tryz.prog w = .ok false w := by
 rw [arrEq, show (a == c && b == d) = false from by rcases h with h | h <;> simp [h]]
theorem arrEq_yes (a b : Int) (w : World) : (Op.equalIn 9999 167 (.agg #[.int .u64 a, .int .u64 b]) (.agg #[.int .u64 a, .int .u64 b])).run Tryz.prog w = .ok true w := by
 rw [arrEq]; simp
set_option maxHeartbeats 1000000 in
theorem wideNearest (wl wh rl rh ll lh : Int) (b : Bool) (h1 : U64 wl) (h2 : U64 wh) (h3 : U64 rl) (h4 : U64 rh) (h5 : U64 ll) (h6 : U64 lh) (hw : val wh wl < 340282366920938463463374607431768211455) (w : World) :
  Calls Tryz.prog 171 #[.agg #[.int .u64 wl, .int .u64 wh], .agg #[.int .u64 rl, .int .u64 rh], .agg #[.int .u64 ll, .int .u64 lh], .bool b] w fun e w' => e = .returned (.agg #[.int .i64 (hiOf (sg b (nearQ (val wh wl) (val rh rl) (val lh ll)))), .int .u64 (loOf (sg b (nearQ (val wh wl) (val rh rl) (val lh ll))))]) ∧ Grown w w' := by
 have hand := and_one_u64 wl h1.1 (by have := h1.2; omega)
 have hpar : val wh wl % 2 = wl % 2 := by unfold val; omega
 have hx : val (mhi (val wh wl + 1)) (loOf (val wh wl + 1)) = val wh wl + 1 := val_size _ (by have := size_range wh wl h2 h1; omega)
 have HX := hide hx; have HP := hide hpar
 clear hx hpar
 by_cases g1 : val lh ll < val rh rl
 ·have HQ : Hid (nearQ (val wh wl) (val rh rl) (val lh ll) = val wh wl + 1) := by unfold nearQ; rw [if_pos (Or.inl g1)]; exact hide rfl
  have g1' : decide (val lh ll < val rh rl) = true := by simpa using g1
  clear g1
  go_enter Tryz.func171, Tryz.ntmps171
  go_wp2_with fail
  refine (wideLess ll lh rl rh h5 h6 h3 h4 _).mono ?_
  rintro e w1 ⟨rfl, hg1⟩
  rw [g1']
  obtain ⟨a0, a1⟩ := gat2 hg1 w.heap.size (.int .u64 wl) (.int .u64 wh) (by constructor <;> simp [go_sem])
  obtain ⟨b0, b1⟩ := gat2 hg1 (w.heap.size + 1) (.int .u64 rl) (.int .u64 rh) (by constructor <;> simp [go_sem])
  obtain ⟨c0, c1⟩ := gat2 hg1 (w.heap.size + 1 + 1) (.int .u64 ll) (.int .u64 lh) (by constructor <;> simp [go_sem])
  obtain ⟨d0, d1⟩ := gat2 hg1 (w.heap.size + 1 + 1 + 1) (.int .i64 0) (.int .u64 0) (by constructor <;> simp [go_sem])
  have hgw1 : Grown w w1 := gtrans ((((((Grown.refl _).alloc _ _).alloc _ _).alloc _ _).alloc _ _)) hg1
  clear hg1
  go_wp2_with fail
  refine (wideNext wl wh h1 h2 _).mono ?_
  rintro e w2 ⟨rfl, hg2⟩
  obtain ⟨a2, a3⟩ := gat2 hg2 w.heap.size (.int .u64 wl) (.int .u64 wh) ⟨a0, a1⟩
  obtain ⟨d2, d3⟩ := gat2 hg2 (w.heap.size + 1 + 1 + 1) (.int .i64 0) (.int .u64 0) ⟨d0, d1⟩
  have hgw2 : Grown w w2 := gtrans hgw1 hg2
  have f0 := fun o => frz hgw2 w.heap.size o (by omega)
  clear hg2 a0 a1 b0 b1 c0 c1 d0 d1
  go_wp2_with fail
  refine (wideSigned _ _ b (loOf_U64 _) (mhi_U64 _) _).mono ?_
  rintro e w3 ⟨rfl, hg3⟩
  obtain ⟨d4, d5⟩ := gat2 hg3 (w.heap.size + 1 + 1 + 1) (.int .i64 0) (.int .u64 0) (by constructor <;> simp [go_sem, *])
  have hgw3 : Grown w w3 := gtrans (Grown.setCell (Grown.setCell hgw2 (by dsimp only; omega) _) (by dsimp only; omega) _) hg3
  have f1 := fun o => frz hgw3 (w.heap.size + 1 + 1 + 1) o (by omega)
  rw [unhide HX]
  clear hg3 d2 d3 a2 a3 f0
  go_wp2
  simp [bodyPost, results, Tryz.results171, go_sem, d4, d5]
  rw [unhide HQ]
  exact ⟨⟨rfl, rfl⟩, Grown.setCell (Grown.setCell hgw3 (by dsimp only; omega) _) (by dsimp only; omega) _⟩
 ·by_cases g2 : rh < lh
  ·have EQ := arrEq_no ll lh rl rh (Or.inr (by omega))
   have HQ : Hid (nearQ (val wh wl) (val rh rl) (val lh ll) = val wh wl) := by unfold nearQ; rw [if_neg (by unfold U64 at *; unfold val at *; omega)]; exact hide rfl
   have g1' : decide (val lh ll < val rh rl) = false := by simp; unfold U64 at *; unfold val at *; omega
   clear g1
   go_enter Tryz.func171, Tryz.ntmps171
   go_wp2_with fail
   refine (wideLess ll lh rl rh h5 h6 h3 h4 _).mono ?_
   rintro e w1 ⟨rfl, hg1⟩
   rw [g1']
   obtain ⟨a0, a1⟩ := gat2 hg1 w.heap.size (.int .u64 wl) (.int .u64 wh) (by constructor <;> simp [go_sem])
   obtain ⟨b0, b1⟩ := gat2 hg1 (w.heap.size + 1) (.int .u64 rl) (.int .u64 rh) (by constructor <;> simp [go_sem])
   obtain ⟨c0, c1⟩ := gat2 hg1 (w.heap.size + 1 + 1) (.int .u64 ll) (.int .u64 lh) (by constructor <;> simp [go_sem])
   obtain ⟨d0, d1⟩ := gat2 hg1 (w.heap.size + 1 + 1 + 1) (.int .i64 0) (.int .u64 0) (by constructor <;> simp [go_sem])
   have hgw1 : Grown w w1 := gtrans ((((((Grown.refl _).alloc _ _).alloc _ _).alloc _ _).alloc _ _)) hg1
   clear hg1
   go_wp2_with fail
   refine (wideSigned _ _ b h1 h2 _).mono ?_
   rintro e w3 ⟨rfl, hg3⟩
   obtain ⟨d4, d5⟩ := gat2 hg3 (w.heap.size + 1 + 1 + 1) (.int .i64 0) (.int .u64 0) ⟨d0, d1⟩
   have hgw3 : Grown w w3 := gtrans hgw1 hg3
   have f1 := fun o => frz hgw3 (w.heap.size + 1 + 1 + 1) o (by omega)
   clear hg3 a0 a1 b0 b1 c0 c1 d0 d1
   go_wp2
   simp [bodyPost, results, Tryz.results171, go_sem, d4, d5]
   rw [unhide HQ]
   exact ⟨⟨rfl, rfl⟩, Grown.setCell (Grown.setCell hgw3 (by dsimp only; omega) _) (by dsimp only; omega) _⟩
  ·obtain rfl : rh = lh := by unfold val at g1; unfold U64 at *; omega
   by_cases g3 : rl < ll
   ·have EQ := arrEq_no ll rh rl rh (Or.inl (by omega))
    have HQ : Hid (nearQ (val wh wl) (val rh rl) (val rh ll) = val wh wl) := by unfold nearQ; rw [if_neg (by unfold U64 at *; unfold val at *; omega)]; exact hide rfl
    have g1' : decide (val rh ll < val rh rl) = false := by simp; unfold U64 at *; unfold val at *; omega
    clear g1
    go_enter Tryz.func171, Tryz.ntmps171
    go_wp2_with fail
    refine (wideLess ll rh rl rh h5 h6 h3 h4 _).mono ?_
    rintro e w1 ⟨rfl, hg1⟩
    rw [g1']
    obtain ⟨a0, a1⟩ := gat2 hg1 w.heap.size (.int .u64 wl) (.int .u64 wh) (by constructor <;> simp [go_sem])
    obtain ⟨b0, b1⟩ := gat2 hg1 (w.heap.size + 1) (.int .u64 rl) (.int .u64 rh) (by constructor <;> simp [go_sem])
    obtain ⟨c0, c1⟩ := gat2 hg1 (w.heap.size + 1 + 1) (.int .u64 ll) (.int .u64 rh) (by constructor <;> simp [go_sem])
    obtain ⟨d0, d1⟩ := gat2 hg1 (w.heap.size + 1 + 1 + 1) (.int .i64 0) (.int .u64 0) (by constructor <;> simp [go_sem])
    have hgw1 : Grown w w1 := gtrans ((((((Grown.refl _).alloc _ _).alloc _ _).alloc _ _).alloc _ _)) hg1
    clear hg1
    go_wp2_with fail
    refine (wideSigned _ _ b h1 h2 _).mono ?_
    rintro e w3 ⟨rfl, hg3⟩
    obtain ⟨d4, d5⟩ := gat2 hg3 (w.heap.size + 1 + 1 + 1) (.int .i64 0) (.int .u64 0) ⟨d0, d1⟩
    have hgw3 : Grown w w3 := gtrans hgw1 hg3
    have f1 := fun o => frz hgw3 (w.heap.size + 1 + 1 + 1) o (by omega)
    clear hg3 a0 a1 b0 b1 c0 c1 d0 d1
    go_wp2
    simp [bodyPost, results, Tryz.results171, go_sem, d4, d5]
    rw [unhide HQ]
    exact ⟨⟨rfl, rfl⟩, Grown.setCell (Grown.setCell hgw3 (by dsimp only; omega) _) (by dsimp only; omega) _⟩
   ·obtain rfl : rl = ll := by unfold val at g1; omega
    have g1' : decide (val rh rl < val rh rl) = false := by simp
    clear g1 g2 g3
    have EQ := arrEq_yes rl rh
    by_cases g4 : wl % 2 = 1
    ·have HQ : Hid (nearQ (val wh wl) (val rh rl) (val rh rl) = val wh wl + 1) := by unfold nearQ; rw [if_pos (Or.inr ⟨rfl, by rw [unhide HP]; exact g4⟩)]; exact hide rfl
     go_enter Tryz.func171, Tryz.ntmps171
     go_wp2_with fail
     refine (wideLess rl rh rl rh h3 h4 h3 h4 _).mono ?_
     rintro e w1 ⟨rfl, hg1⟩
     rw [g1']
     obtain ⟨a0, a1⟩ := gat2 hg1 w.heap.size (.int .u64 wl) (.int .u64 wh) (by constructor <;> simp [go_sem])
     obtain ⟨b0, b1⟩ := gat2 hg1 (w.heap.size + 1) (.int .u64 rl) (.int .u64 rh) (by constructor <;> simp [go_sem])
     obtain ⟨c0, c1⟩ := gat2 hg1 (w.heap.size + 1 + 1) (.int .u64 rl) (.int .u64 rh) (by constructor <;> simp [go_sem])
     obtain ⟨d0, d1⟩ := gat2 hg1 (w.heap.size + 1 + 1 + 1) (.int .i64 0) (.int .u64 0) (by constructor <;> simp [go_sem])
     have hgw1 : Grown w w1 := gtrans ((((((Grown.refl _).alloc _ _).alloc _ _).alloc _ _).alloc _ _)) hg1
     clear hg1
     go_wp2_with fail
     refine (wideNext wl wh h1 h2 _).mono ?_
     rintro e w2 ⟨rfl, hg2⟩
     obtain ⟨a2, a3⟩ := gat2 hg2 w.heap.size (.int .u64 wl) (.int .u64 wh) ⟨a0, a1⟩
     obtain ⟨d2, d3⟩ := gat2 hg2 (w.heap.size + 1 + 1 + 1) (.int .i64 0) (.int .u64 0) ⟨d0, d1⟩
     have hgw2 : Grown w w2 := gtrans hgw1 hg2
     have f0 := fun o => frz hgw2 w.heap.size o (by omega)
     clear hg2 a0 a1 b0 b1 c0 c1 d0 d1
     go_wp2_with fail
     refine (wideSigned _ _ b (loOf_U64 _) (mhi_U64 _) _).mono ?_
     rintro e w3 ⟨rfl, hg3⟩
     obtain ⟨d4, d5⟩ := gat2 hg3 (w.heap.size + 1 + 1 + 1) (.int .i64 0) (.int .u64 0) (by constructor <;> simp [go_sem, *])
     have hgw3 : Grown w w3 := gtrans (Grown.setCell (Grown.setCell hgw2 (by dsimp only; omega) _) (by dsimp only; omega) _) hg3
     have f1 := fun o => frz hgw3 (w.heap.size + 1 + 1 + 1) o (by omega)
     rw [unhide HX]
     clear hg3 d2 d3 a2 a3 f0
     go_wp2
     simp [bodyPost, results, Tryz.results171, go_sem, d4, d5]
     rw [unhide HQ]
     exact ⟨⟨rfl, rfl⟩, Grown.setCell (Grown.setCell hgw3 (by dsimp only; omega) _) (by dsimp only; omega) _⟩
    ·have HQ : Hid (nearQ (val wh wl) (val rh rl) (val rh rl) = val wh wl) := by unfold nearQ; rw [if_neg (by rw [unhide HP]; omega)]; exact hide rfl
     have g5 : (wl % 2 == 1) = false := by simpa using g4
     go_enter Tryz.func171, Tryz.ntmps171
     go_wp2_with fail
     refine (wideLess rl rh rl rh h3 h4 h3 h4 _).mono ?_
     rintro e w1 ⟨rfl, hg1⟩
     rw [g1']
     obtain ⟨a0, a1⟩ := gat2 hg1 w.heap.size (.int .u64 wl) (.int .u64 wh) (by constructor <;> simp [go_sem])
     obtain ⟨b0, b1⟩ := gat2 hg1 (w.heap.size + 1) (.int .u64 rl) (.int .u64 rh) (by constructor <;> simp [go_sem])
     obtain ⟨c0, c1⟩ := gat2 hg1 (w.heap.size + 1 + 1) (.int .u64 rl) (.int .u64 rh) (by constructor <;> simp [go_sem])
     obtain ⟨d0, d1⟩ := gat2 hg1 (w.heap.size + 1 + 1 + 1) (.int .i64 0) (.int .u64 0) (by constructor <;> simp [go_sem])
     have hgw1 : Grown w w1 := gtrans ((((((Grown.refl _).alloc _ _).alloc _ _).alloc _ _).alloc _ _)) hg1
     clear hg1
     go_wp2_with fail
     refine (wideSigned _ _ b h1 h2 _).mono ?_
     rintro e w3 ⟨rfl, hg3⟩
     obtain ⟨d4, d5⟩ := gat2 hg3 (w.heap.size + 1 + 1 + 1) (.int .i64 0) (.int .u64 0) ⟨d0, d1⟩
     have hgw3 : Grown w w3 := gtrans hgw1 hg3
     have f1 := fun o => frz hgw3 (w.heap.size + 1 + 1 + 1) o (by omega)
     clear hg3 a0 a1 b0 b1 c0 c1 d0 d1
     go_wp2
     simp [bodyPost, results, Tryz.results171, go_sem, d4, d5]
     rw [unhide HQ]
     exact ⟨⟨rfl, rfl⟩, Grown.setCell (Grown.setCell hgw3 (by dsimp only; omega) _) (by dsimp only; omega) _⟩
theorem sg_near (a d : Int) (b : Bool) (hd : 0 < d) (hb : b = decide (a < 0)) : sg b (nearQ (absI a / d) (absI a % d) (d - absI a % d)) = rdiv a d := by
 have e1 : ((a.natAbs : Nat) : Int) = absI a := by unfold absI; split <;> omega
 have e2 : ((d.natAbs : Nat) : Int) = d := by omega
 subst hb
 unfold rdiv rawq sg nearQ
 rw [e1, e2]
 by_cases h : a < 0
 ·simp [h, show ¬ d < 0 from by omega]
 ·simp [h, show ¬ d < 0 from by omega]
set_option maxHeartbeats 1000000 in
theorem wideRound (ah al n : Int) (h1 : I64 ah) (h2 : U64 al) (h3 : 0 ≤ n) (h4 : n ≤ 127) (w : World) :
  Calls Tryz.prog 161 #[.agg #[.int .i64 ah, .int .u64 al], .int .i64 n] w fun e w' => e = .returned (.tuple #[.agg #[.int .i64 (hiOf (rdiv (val ah al) (2 ^ n.toNat))), .int .u64 (loOf (rdiv (val ah al) (2 ^ n.toNat)))], .int .i64 0]) ∧ Grown w w' := by
 have hK := pow2_pos n.toNat
 have hR := val_range ah al h1 h2
 have hA0 : 0 ≤ absI (val ah al) := by unfold absI; split <;> omega
 have hA1 : absI (val ah al) ≤ 170141183460469231731687303715884105728 := by unfold absI; split <;> omega
 have hK' := pow127 n h3 h4
 have e1 := Int.emod_nonneg (absI (val ah al)) (by omega : (2 : Int) ^ n.toNat ≠ 0)
 have e2 := Int.emod_lt_of_pos (absI (val ah al)) hK
 have e3 : 0 ≤ absI (val ah al) / 2 ^ n.toNat := dv0 _ _ hK hA0
 have e4 : absI (val ah al) / 2 ^ n.toNat ≤ absI (val ah al) := Int.ediv_le_self _ hA0
 have v0 := val_size (absI (val ah al)) (by omega)
 have v1 := val_size (absI (val ah al) / 2 ^ n.toNat) (by omega)
 have v2 := val_size (absI (val ah al) % 2 ^ n.toNat) (by omega)
 have v3 := val_size (2 ^ n.toNat - absI (val ah al) % 2 ^ n.toNat) (by omega)
 have hq : val (mhi (absI (val ah al) / 2 ^ n.toNat)) (loOf (absI (val ah al) / 2 ^ n.toNat)) < 340282366920938463463374607431768211455 := by omega
 have hs := sg_near (val ah al) (2 ^ n.toNat) (decide (ah < 0)) hK (by rw [decide_eq_decide]; unfold U64 at h2; unfold val; omega)
 have S1 := hide (fun w => wideShifted (loOf (absI (val ah al))) (mhi (absI (val ah al))) n (decide (ah < 0)) (loOf_U64 _) (mhi_U64 _) h3 h4 w)
 have N1 := hide (fun w => wideNearest (loOf (absI (val ah al) / 2 ^ n.toNat)) (mhi (absI (val ah al) / 2 ^ n.toNat)) (loOf (absI (val ah al) % 2 ^ n.toNat)) (mhi (absI (val ah al) % 2 ^ n.toNat)) (loOf (2 ^ n.toNat - absI (val ah al) % 2 ^ n.toNat)) (mhi (2 ^ n.toNat - absI (val ah al) % 2 ^ n.toNat)) (decide (ah < 0)) (loOf_U64 _) (mhi_U64 _) (loOf_U64 _) (mhi_U64 _) (loOf_U64 _) (mhi_U64 _) hq w)
 rw [v0] at S1
 rw [v1, v2, v3, hs] at N1
 clear v0 v1 v2 v3 hs hq e1 e2 e3 e4 hK' hK hA0 hA1 hR
 go_enter Tryz.func161, Tryz.ntmps161
 go_wp2_with fail
 refine (wideShift ah al n h1 h2 h3 h4 _).mono ?_
 rintro e w1 ⟨rfl, hg1⟩
 go_wp2_with fail
 refine (unhide S1 _).mono ?_
 rintro e w2 ⟨rfl, hg2⟩
 go_wp2_with fail
 refine (unhide N1 _).mono ?_
 rintro e w3 ⟨rfl, hg3⟩
 have hg := gtrans hg1 (gtrans hg2 hg3)
 obtain ⟨d0, d1⟩ := gat2 hg (w.heap.size + 1) (.int .i64 0) (.int .u64 0) (by constructor <;> simp [go_sem])
 have hgw : Grown w w3 := gtrans (((Grown.refl _).alloc _ _).alloc _ _) hg
 have f1 := fun o => frz hgw (w.heap.size + 1) o (by omega)
 clear hg1 hg2 hg3 hg
 go_wp2
 simp [bodyPost, results, Tryz.results161, go_sem, d0, d1]
 exact Grown.setCell (Grown.setCell hgw (by dsimp only; omega) _) (by dsimp only; omega) _
end Go.Proofs.YtjobgjcfkomhpaaGreat
namespace Go.Proofs.YtjobgjcfkomhpaaGreat
open Go.RowKit Go.Proofs.Wd
set_option maxRecDepth 10000
def Mod (U : Nat) (w w' : World) : Prop :=
 w'.os = w.os ∧ w'.output = w.output ∧ (∀ k, k < w.heap.size → k ≠ U → w'.heap[k]? = w.heap[k]?) ∧ (∀ a, w'.frozen? a = w.frozen? a) ∧ w.heap.size ≤ w'.heap.size
theorem gblock {w w' : World} (h : Grown w w') {k : Nat} (hk : k < w.heap.size) : w'.heap[k]? = w.heap[k]? := by
 have h1 := h.1.2.2 k hk
 generalize w.heap[k]? = a at *
 generalize w'.heap[k]? = b at *
 rcases a with _ | (⟨c, t, fr⟩ | ⟨es, cl⟩ | _) <;> rcases b with _ | (⟨c', t', fr'⟩ | ⟨es', cl'⟩ | _) <;> simp_all
 apply Array.ext_getElem?
 exact h1.2.2.2
theorem Mod.of {U : Nat} {w w' : World} (h : Grown w w') : Mod U w w' := ⟨h.1.1, h.1.2.1, fun k hk _ => gblock h hk, h.2.1, h.2.2⟩
theorem Mod.refl (U : Nat) (w : World) : Mod U w w := ⟨rfl, rfl, fun _ _ _ => rfl, fun _ => rfl, Nat.le_refl _⟩
theorem Mod.trans {U : Nat} {a b c : World} (h : Mod U a b) (k : Mod U b c) : Mod U a c :=
 ⟨k.1.trans h.1, k.2.1.trans h.2.1, fun i hi hu => (k.2.2.1 i (Nat.lt_of_lt_of_le hi h.2.2.2.2) hu).trans (h.2.2.1 i hi hu), fun x => (k.2.2.2.1 x).trans (h.2.2.2.1 x), Nat.le_trans h.2.2.2.2 k.2.2.2.2⟩
theorem Mod.setCell {U : Nat} {a w : World} (h : Mod U a w) (o : Nat) (v : Value) : Mod U a (w.setCell ⟨U, o, none⟩ v) := by
 refine h.trans ⟨rfl, rfl, fun k hk hu => ?_, fun x => World.frozen?_setCell _ _ _ _, by simp [World.setCell]⟩
 exact Below.heap_setCell _ _ _ _ hu
def Blk (U : Nat) (cs : Array Value) (T : TypeId) (w : World) : Prop := w.heap[U]? = some (.cells cs T (0, 0))
theorem Blk.lt {U : Nat} {cs : Array Value} {T : TypeId} {w : World} (h : Blk U cs T w) : U < w.heap.size := (Array.getElem?_eq_some_iff.1 h).1
theorem Blk.cell {U : Nat} {cs : Array Value} {T : TypeId} {w : World} (h : Blk U cs T w) (o : Nat) : w.cell? ⟨U, o, none⟩ = cs[o]? := cell_of_row w U o cs T (0, 0) h
theorem Blk.free {U : Nat} {cs : Array Value} {T : TypeId} {w : World} (h : Blk U cs T w) (o : Nat) : w.frozen? ⟨U, o, none⟩ = false := by
 unfold Blk at h
 simp [World.frozen?, h]
theorem Blk.keep {U V : Nat} {cs : Array Value} {T : TypeId} {w w' : World} (h : Blk U cs T w) (m : Mod V w w') (hne : U ≠ V) : Blk U cs T w' := (m.2.2.1 U h.lt hne).trans h
theorem Blk.grown {U : Nat} {cs : Array Value} {T : TypeId} {w w' : World} (h : Blk U cs T w) (m : Grown w w') : Blk U cs T w' := (gblock m h.lt).trans h
theorem Blk.set {U : Nat} {cs : Array Value} {T : TypeId} {w : World} (h : Blk U cs T w) (o : Nat) (v : Value) : Blk U (cs.setIfInBounds o v) T (w.setCell ⟨U, o, none⟩ v) := by
 unfold Blk at *
 simp only [World.setCell, Array.getElem?_modify, h]
 rfl
def Row (w : World) (ao : Option Addr) (len : Nat) (Z : Nat → Int) : Prop :=
 len = 0 ∨ ∃ b o, ao = some ⟨b, o, none⟩ ∧ ∀ i, i < len → w.cell? ⟨b, o + i, none⟩ = some (.int .i64 (Z i))
def Off (U len : Nat) (ao : Option Addr) : Prop := 0 < len → ∀ a, ao = some a → a.block ≠ U
theorem Mod.cell {U : Nat} {w w' : World} (m : Mod U w w') {b o : Nat} {v : Value} (h : w.cell? ⟨b, o, none⟩ = some v) (hb : b ≠ U) : w'.cell? ⟨b, o, none⟩ = some v :=
 (World.cell?_of_block (m.2.2.1 b (heap_gt h) hb)).trans h
theorem Row.mod {U : Nat} {w w' : World} {ao : Option Addr} {len : Nat} {Z : Nat → Int} (h : Row w ao len Z) (m : Mod U w w') (ho : Off U len ao) : Row w' ao len Z := by
 rcases h with h | ⟨b, o, rfl, hc⟩
 ·exact Or.inl h
 ·exact Or.inr ⟨b, o, rfl, fun i hi => m.cell (hc i hi) (ho (by omega) _ rfl)⟩
theorem Row.grown {w w' : World} {ao : Option Addr} {len : Nat} {Z : Nat → Int} (h : Row w ao len Z) (m : Grown w w') : Row w' ao len Z := by
 rcases h with h | ⟨b, o, rfl, hc⟩
 ·exact Or.inl h
 ·exact Or.inr ⟨b, o, rfl, fun i hi => gat m (hc i hi)⟩
theorem Row.at {w : World} {ao : Option Addr} {len : Nat} {Z : Nat → Int} (h : Row w ao len Z) {k : Nat} (hk : k < len) : ∃ b o, ao = some ⟨b, o, none⟩ ∧ w.cell? ⟨b, o + k, none⟩ = some (.int .i64 (Z k)) := by
 rcases h with h | ⟨b, o, rfl, hc⟩
 ·omega
 ·exact ⟨b, o, rfl, hc k hk⟩
def Kp (W w : World) : Prop := w.os = W.os ∧ w.output = W.output ∧ (∀ k, k < W.heap.size → w.heap[k]? = W.heap[k]?) ∧ W.heap.size ≤ w.heap.size
theorem Kp.of {W w : World} (g : Grown W w) : Kp W w := ⟨g.1.1, g.1.2.1, fun _ hk => gblock g hk, g.2.2⟩
theorem Kp.refl (W : World) : Kp W W := ⟨rfl, rfl, fun _ _ => rfl, Nat.le_refl _⟩
theorem Kp.trans {a b c : World} (h : Kp a b) (k : Kp b c) : Kp a c := ⟨k.1.trans h.1, k.2.1.trans h.2.1, fun i hi => (k.2.2.1 i (Nat.lt_of_lt_of_le hi h.2.2.2)).trans (h.2.2.1 i hi), Nat.le_trans h.2.2.2 k.2.2.2⟩
theorem Kp.grown {W a b : World} (h : Kp W a) (g : Grown a b) : Kp W b := h.trans (Kp.of g)
theorem Kp.alloc {W a : World} (h : Kp W a) (c : Array Value) (t : TypeId) : Kp W (a.alloc (.cells c t)) := h.grown ((Grown.refl _).alloc _ _)
theorem Kp.mod {W a b : World} {U : Nat} (h : Kp W a) (m : Mod U a b) (hU : W.heap.size ≤ U) : Kp W b :=
 ⟨m.1.trans h.1, m.2.1.trans h.2.1, fun i hi => (m.2.2.1 i (Nat.lt_of_lt_of_le hi h.2.2.2) (by omega)).trans (h.2.2.1 i hi), Nat.le_trans h.2.2.2 m.2.2.2.2⟩
theorem Kp.by {W a b : World} {row : Option Nat} (h : Kp W a) (m : a.grownBy b row) (hr : ∀ k, row = some k → W.heap.size ≤ k) : Kp W b :=
 ⟨m.os.trans h.1, m.output.trans h.2.1, fun i hi => (m.block i (Nat.lt_of_lt_of_le hi h.2.2.2) (fun e => by have := hr i e.symm; omega)).trans (h.2.2.1 i hi), Nat.le_trans h.2.2.2 m.size⟩
theorem Kp.frame {W w : World} (h : Kp W w) (may : MemPlace → Prop) : W.keptBut w may := by
 refine ⟨h.1, h.2.1, fun i hi => ?_⟩
 rw [h.2.2.1 i hi]
 split <;> simp_all
theorem Kp.same {W w : World} (h : Kp W w) {p : MemPlace} (hp : p.block < W.heap.size) : W.sameAt w p := by
 cases p with
 | cell b o => exact World.cell?_of_block (w := W) (h.2.2.1 b hp)
 | map b => exact h.2.2.1 b hp
theorem Kp.cell {W w : World} (h : Kp W w) {b o : Nat} {v : Value} (hv : W.cell? ⟨b, o, none⟩ = some v) : w.cell? ⟨b, o, none⟩ = some v :=
 (World.cell?_of_block (h.2.2.1 b (heap_gt hv))).trans hv
theorem Row.kp {w w' : World} {ao : Option Addr} {len : Nat} {Z : Nat → Int} (h : Row w ao len Z) (m : Kp w w') : Row w' ao len Z := by
 rcases h with h | ⟨b, o, rfl, hc⟩
 ·exact Or.inl h
 ·exact Or.inr ⟨b, o, rfl, fun i hi => m.cell (hc i hi)⟩
theorem Blk.kp {U : Nat} {cs : Array Value} {T : TypeId} {w w' : World} (h : Blk U cs T w) (g : Kp w w') : Blk U cs T w' := (g.2.2.1 U h.lt).trans h
theorem Blk.by {U : Nat} {cs : Array Value} {T : TypeId} {w w' : World} {row : Option Nat} (h : Blk U cs T w) (g : w.grownBy w' row) (hne : some U ≠ row) : Blk U cs T w' := (g.block U h.lt hne).trans h
theorem owns_row {w : World} {base n : Nat} {v : Value} {Z : Nat → Int} (h : w.ownsRow base 3 1 v n ((List.range n).map fun i => Value.int .i64 (Z i))) : ∃ ao cap, v = .slice ao n cap ∧ Row w ao n Z ∧ ∀ U, U < base → Off U n ao := by
 rcases h.2 with ⟨rfl, rfl⟩ | ⟨g, cap, cur, rfl, hb, hg, hn, _, hsz, hxs⟩
 ·exact ⟨none, 0, rfl, Or.inl rfl, fun _ _ h => absurd h (Nat.lt_irrefl _)⟩
 ·refine ⟨_, cap, rfl, Or.inr ⟨g, 0, rfl, fun i hi => ?_⟩, fun U hU _ a ha => by cases ha; show g ≠ U; omega⟩
  rw [Nat.zero_add, cell_of_row w g i cur 3 (0, 0) hg]
  have e : (cur.toList.take (n * 1))[i]? = some (.int .i64 (Z i)) := by rw [hxs]; simp [hi]
  rw [List.getElem?_take, if_pos (by omega)] at e
  simpa using e
theorem Tryz.infoInt : (Tryz.prog.info? 3).map (fun i => (i.zero, i.size, i.bytes)) = some (some (.int .i64 0), 1, 8) := by kernel_rfl
theorem slice_to (ao : Option Addr) (len cap n : Nat) (h : n ≤ cap) (w : World) : (Instr.sliceAt 22 (.slice ao len cap) none (some (.int .i64 n)) none).run Tryz.prog w = .ok (.slice ao n cap) w := by
 have e : Tryz.prog.underlying 22 = some (.slice (Tryz.prog.elem 22)) := by kernel_rfl
 have s1 : (sizeOf (Tryz.prog.elem 22)).run Tryz.prog w = .ok 1 w := by kernel_rfl
 rw [run_sliceAt_slice w 22 _ _ _ _ e, run_slice_h w 22 ao len cap e .i64 n (by omega) (by omega), s1]
 show Result.ok (sliced ao 0 (n : Int).toNat cap 1) w = _
 have a0 : ao.map (fun x => x.add (0 * 1)) = ao := by cases ao <;> simp [Addr.add]
 unfold sliced
 rw [a0]
 simp
theorem one_cell (x : Int) : ∀ u ∈ [Value.int .i64 x], u.oneCell' = true := by
 intro u hu
 simp at hu
 subst hu
 rfl
theorem cells_one (n : Nat) (Z : Nat → Int) : ∀ u ∈ (List.range n).map (fun i => Value.int .i64 (Z i)), u.oneCell' = true := by
 intro u hu
 rw [List.mem_map] at hu
 obtain ⟨i, _, rfl⟩ := hu
 rfl
end Go.Proofs.YtjobgjcfkomhpaaGreat
namespace Go.Proofs.YtjobgjcfkomhpaaGreat
open Go.RowKit Go.Shelf Go.Proofs.Wd
set_option maxRecDepth 10000
structure LV where
 ao : Option Addr
 len : Nat
 cap : Nat
 Z : Nat → Int
def LV.val (x : LV) : Value := .slice x.ao x.len x.cap
structure RV where
 s : Int
 h : LV
 r : Int
def RV.cells (x : RV) : Array Value := #[.int .i64 x.s, .slice x.h.ao x.h.len x.h.cap, .int .i64 x.r]
def RVs (w : World) (ao : Option Addr) (n : Nat) (X : Nat → RV) : Prop := n = 0 ∨ ∃ b o, ao = some ⟨b, o, none⟩ ∧ ∀ i, i < n → ∀ j, j < 3 → w.cell? ⟨b, o + i * 3 + j, none⟩ = (X i).cells[j]?
theorem RVs.at {w : World} {ao : Option Addr} {n : Nat} {X : Nat → RV} (h : RVs w ao n X) {k : Nat} (hk : k < n) : ∃ b o, ao = some ⟨b, o, none⟩ ∧ w.cell? ⟨b, o + k * 3, none⟩ = some (.int .i64 (X k).s) ∧ w.cell? ⟨b, o + k * 3 + 1, none⟩ = some (.slice (X k).h.ao (X k).h.len (X k).h.cap) ∧ w.cell? ⟨b, o + k * 3 + 2, none⟩ = some (.int .i64 (X k).r) := by
 rcases h with h | ⟨b, o, rfl, hc⟩
 ·omega
 ·exact ⟨b, o, rfl, hc k hk 0 (by omega), hc k hk 1 (by omega), hc k hk 2 (by omega)⟩
theorem RVs.cells {w w' : World} {ao : Option Addr} {n : Nat} {X : Nat → RV} (h : RVs w ao n X) (k : ∀ b o (v : Value), (0 < n → ∃ o', ao = some ⟨b, o', none⟩) → w.cell? ⟨b, o, none⟩ = some v → w'.cell? ⟨b, o, none⟩ = some v) : RVs w' ao n X := by
 rcases h with h | ⟨b, o, rfl, hc⟩
 ·exact Or.inl h
 ·refine Or.inr ⟨b, o, rfl, fun i hi j hj => ?_⟩
  have := hc i hi j hj
  have hs : ∃ v, (X i).cells[j]? = some v := ⟨_, Array.getElem?_eq_getElem (by show j < 3; exact hj)⟩
  obtain ⟨v, hv⟩ := hs
  rw [hv] at this ⊢
  exact k b _ v (fun _ => ⟨o, rfl⟩) this
theorem RVs.kp {w w' : World} {ao : Option Addr} {n : Nat} {X : Nat → RV} (h : RVs w ao n X) (k : Kp w w') : RVs w' ao n X := h.cells fun _ _ _ _ hv => k.cell hv
theorem RVs.grown {w w' : World} {ao : Option Addr} {n : Nat} {X : Nat → RV} (h : RVs w ao n X) (k : Grown w w') : RVs w' ao n X := h.kp (Kp.of k)
structure DV where
 N : Int
 A : LV
 Q : LV
 tick : Int
 gate : Int
 rmin : Int
 ro : Option Addr
 rl : Nat
 rc : Nat
 X : Nat → RV
def DV.cells (m : DV) : Array Value := #[.int .i64 m.N, .slice m.A.ao m.A.len m.A.cap, .slice m.Q.ao m.Q.len m.Q.cap, .int .i64 m.tick, .int .i64 m.gate, .int .i64 m.rmin, .slice m.ro m.rl m.rc]
def LV.ok (x : LV) (W : World) : Prop := Row W x.ao x.len x.Z
def DV.rows (m : DV) (W : World) : Prop := m.A.ok W ∧ m.Q.ok W ∧ RVs W m.ro m.rl m.X ∧ ∀ i, i < m.rl → (m.X i).h.ok W
theorem LV.ok.kp {x : LV} {W W' : World} (h : x.ok W) (k : Kp W W') : x.ok W' := Row.kp h k
theorem DV.rows.kp {m : DV} {W W' : World} (h : m.rows W) (k : Kp W W') : m.rows W' := ⟨h.1.kp k, h.2.1.kp k, h.2.2.1.kp k, fun i hi => (h.2.2.2 i hi).kp k⟩
def farP (x : Int) : Prop := -68719476736 ≤ x ∧ x ≤ 68719476736
def lastS (X : Nat → RV) : Nat → Int
 | 0 => 1
 | i + 1 => (X i).s
def okRow (N rmin last : Int) (x : RV) : Prop := (1 ≤ x.s ∧ x.s ≤ 16 ∧ last ≤ x.s) ∧ (x.h.len : Int) = N ∧ rmin ≤ x.r ∧ ∀ j, j < x.h.len → farP (x.h.Z j)
def okMoves (n al ql : Nat) (A Q : Nat → Int) : Prop := al = n * n ∧ ql = n ∧ ∀ i, i < n → (0 ≤ Q i ∧ Q i ≤ 68719476736) ∧ ∀ k, k < n → farP (A (i * n + k)) ∧ (k ≤ i → A (i * n + k) = 0)
def okD (m : DV) : Prop := (1 ≤ m.N ∧ m.N ≤ 6) ∧ okMoves m.N.toNat m.A.len m.Q.len m.A.Z m.Q.Z ∧ (1 ≤ m.tick ∧ m.tick ≤ 4294967296) ∧ 1 ≤ m.gate ∧ 1 ≤ m.rmin ∧ m.rl ≤ 24 ∧ ∀ i, i < m.rl → okRow m.N m.rmin (lastS m.X i) (m.X i)
open Classical in
noncomputable def chkD (m : DV) : Int := if okD m then 0 else 2
end Go.Proofs.YtjobgjcfkomhpaaGreat
namespace Go.Proofs.YtjobgjcfkomhpaaGreat
open Go.RowKit Go.Proofs.Wd
set_option maxRecDepth 10000
def ints (n : Nat) (Z : Nat → Int) : Array Value := ((List.range n).map fun i => Value.int .i64 (Z i)).toArray
theorem ints_size (n : Nat) (Z : Nat → Int) : (ints n Z).size = n := by simp [ints]
theorem ints_at (n : Nat) (Z : Nat → Int) (i : Nat) (h : i < n) : (ints n Z)[i]? = some (.int .i64 (Z i)) := by simp [ints, h]
theorem ints_none (n : Nat) (Z : Nat → Int) (i : Nat) (h : ¬ i < n) : (ints n Z)[i]? = none := by simp [ints]; omega
theorem ints_congr (n : Nat) (Z Y : Nat → Int) (h : ∀ i, i < n → Z i = Y i) : ints n Z = ints n Y := by
 apply Array.ext_getElem?
 intro i
 by_cases hi : i < n
 ·rw [ints_at n Z i hi, ints_at n Y i hi, h i hi]
 ·rw [ints_none n Z i hi, ints_none n Y i hi]
theorem ints_set (n : Nat) (Z : Nat → Int) (k : Nat) (v : Int) : (ints n Z).setIfInBounds k (.int .i64 v) = ints n (fun i => if i = k then v else Z i) := by
 apply Array.ext_getElem?
 intro i
 rw [Array.getElem?_setIfInBounds]
 by_cases hi : i < n
 ·rw [ints_at n Z i hi, ints_at n _ i hi, ints_size]
  by_cases e : k = i
  ·subst e; simp [hi]
  ·simp [e, Ne.symm e]
 ·rw [ints_none n Z i hi, ints_none n _ i hi, ints_size]
  by_cases e : k = i
  ·subst e; simp [hi]
  ·simp [e]
theorem Blk.row {b n : Nat} {Z : Nat → Int} {T : TypeId} {w : World} (h : Blk b (ints n Z) T w) : Row w (some ⟨b, 0, none⟩) n Z := by
 refine Or.inr ⟨b, 0, rfl, fun i hi => ?_⟩
 rw [Nat.zero_add, Blk.cell h, ints_at n Z i hi]
theorem Blk.setI {b n : Nat} {Z : Nat → Int} {T : TypeId} {w : World} (h : Blk b (ints n Z) T w) (k : Nat) (v : Int) : Blk b (ints n (fun i => if i = k then v else Z i)) T (w.setCell ⟨b, k, none⟩ (.int .i64 v)) := by
 have := Blk.set h k (.int .i64 v)
 rwa [ints_set] at this
theorem off_blk {U b n : Nat} (h : b ≠ U) : Off U n (some ⟨b, 0, none⟩) := by
 intro _ a ha
 cases ha
 exact h
theorem Mod.setRow (g : Nat) (w : World) (cs : Array Value) : Mod g w (w.setRow g cs) := by
 refine ⟨rfl, rfl, fun k hk hu => setRow_other w g k cs hu, fun x => ?_, by simp [World.setRow]⟩
 by_cases e : x.block = g
 ·unfold World.frozen? World.setRow
  rw [e]
  simp only [Array.getElem?_modify, if_pos rfl]
  cases w.heap[g]? with
  | none => rfl
  | some o => cases o <;> rfl
 ·unfold World.frozen?
  rw [setRow_other w g x.block cs e]
theorem Blk.new (w : World) (cs : Array Value) (t : TypeId) : Blk w.heap.size cs t (w.alloc (.cells cs t)) := heap_alloc_new w _
theorem made_ints (n : Nat) : madeCells #[.int .i64 0] n = ints n (fun _ => 0) := by
 apply Array.ext_getElem?
 intro i
 by_cases h : i < n
 ·rw [ints_at n _ i h]; simp [madeCells, h, Nat.mod_one]
 ·rw [ints_none n _ i h]; simp [madeCells]; omega
theorem make_ints (n : Nat) (hn : n ≤ 1000000) (w : World) : (Instr.makeSlice 22 (.int .i64 n) (.int .i64 n)).run Tryz.prog w = .ok (.slice (some ⟨w.heap.size, 0, none⟩) n n) (w.alloc (.cells (ints n (fun _ => 0)) 3)) := by
 obtain ⟨i0, hi, hz0, hz1, hz2⟩ := info_parts Tryz.infoInt
 have := run_make (P := Tryz.prog) w 22 3 i0 (.int .i64 0) Tryz.underlying22 hi hz0 .i64 .i64 n n (by omega) (Int.le_refl _) (by rw [hz2]; omega) (by omega)
 rw [hz1, Int.toNat_natCast, Nat.mul_one] at this
 rw [this, ← made_ints]
 rfl
end Go.Proofs.YtjobgjcfkomhpaaGreat
namespace Go.Proofs.Wd
theorem rdiv_pos (X d : Int) (hd : 0 < d) : rdiv X d = if X < 0 then -(rawq (-X) d) else rawq X d := by
 unfold rdiv
 have e2 : ((d.natAbs : Nat) : Int) = d := by omega
 rw [e2]
 by_cases h : X < 0
 ·have e1 : ((X.natAbs : Nat) : Int) = -X := by omega
  rw [e1]; simp [h, show ¬ d < 0 from by omega]
 ·have e1 : ((X.natAbs : Nat) : Int) = X := by omega
  rw [e1]; simp [h, show ¬ d < 0 from by omega]
def tk (a : Int) : Int := if a = -9223372036854775808 then -9223372036854775807 else a
def nb (a : Int) : Bool := decide (a = -9223372036854775808)
def Fx (a : Int) : Prop := -9223372036854775807 ≤ a ∧ a ≤ 9223372036854775807
def cutB (r : Int) (a b : Int) : Bool := fitB r || nb a || nb b
def quoR (x y : Int) : Int := if y = 0 then (if x < 0 then -18446744073709551616 else if 0 < x then 18446744073709551616 else 0) else rdiv (x * 4294967296) y
theorem tk_Fx (a : Int) (h : I64 a) : Fx (tk a) := by unfold I64 at h; unfold Fx tk; split <;> omega
theorem Fx_I64 {a : Int} (h : Fx a) : I64 a := by unfold Fx at h; unfold I64; omega
theorem fit_Fx (r : Int) : Fx (fitI r) := by unfold Fx fitI; split <;> (try split) <;> omega
theorem mul_abs (x y M N : Int) (hx : -M ≤ x ∧ x ≤ M) (hy : -N ≤ y ∧ y ≤ N) : -(M * N) ≤ x * y ∧ x * y ≤ M * N := by
 have hM : 0 ≤ M := by omega
 have hN : 0 ≤ N := by omega
 have k : x.natAbs * y.natAbs ≤ M.natAbs * N.natAbs := Nat.mul_le_mul (by omega) (by omega)
 rw [← Int.natAbs_mul, ← Int.natAbs_mul] at k
 have := Int.mul_nonneg hM hN
 omega
theorem rawq_le (m n : Int) (hm : 0 ≤ m) (hn : 0 < n) : 0 ≤ rawq m n ∧ rawq m n ≤ m + 1 := by
 have h0 := Int.ediv_nonneg hm (Int.le_of_lt hn)
 have h1 := Int.ediv_le_self n hm
 unfold rawq; split <;> omega
theorem rdiv_abs (a d M : Int) (hd : d ≠ 0) (ha : -M ≤ a ∧ a ≤ M) : -(M + 1) ≤ rdiv a d ∧ rdiv a d ≤ M + 1 := by
 have h := rawq_le (a.natAbs) (d.natAbs) (by omega) (by omega)
 unfold rdiv; split <;> omega
theorem prod_range (x y : Int) (hx : Fx x) (hy : Fx y) : -85070591730234615847396907784232501249 ≤ x * y ∧ x * y ≤ 85070591730234615847396907784232501249 :=
 mul_abs x y 9223372036854775807 9223372036854775807 hx hy
theorem wrapW_prod (x y : Int) (hx : Fx x) (hy : Fx y) : wrapW (x * y) = x * y := by
 have := prod_range x y hx hy
 exact wrapW_in _ (by omega)
theorem quoR_range (x y : Int) (hx : Fx x) : -170141183460469231731687303715884105728 ≤ quoR x y ∧ quoR x y < 170141183460469231731687303715884105728 := by
 unfold quoR
 split
 ·split <;> (try split) <;> omega
 ·have := rdiv_abs (x * 4294967296) y 39614081257132168796771975168 (by assumption) (by unfold Fx at hx; omega)
  omega
def addN (a b : Int) : Int := fitI (tk a + tk b)
def addC (a b : Int) : Bool := cutB (tk a + tk b) a b
def mulN (a b : Int) : Int := fitI (rdiv (tk a * tk b) 4294967296)
def mulC (a b : Int) : Bool := cutB (rdiv (tk a * tk b) 4294967296) a b
def divN (a b : Int) : Int := fitI (quoR (tk a) (tk b))
def divC (a b : Int) : Bool := cutB (quoR (tk a) (tk b)) a b || decide (b = 0)
def whoN (a : Int) : Int := fitI (a * 4294967296)
def whoC (a : Int) : Bool := fitB (a * 4294967296)
theorem fitI_I64 (a : Int) : I64 (fitI a) := by unfold I64 fitI; split; omega; split <;> omega
theorem addN_I64 (a b : Int) : I64 (addN a b) := fitI_I64 _
theorem mulN_I64 (a b : Int) : I64 (mulN a b) := fitI_I64 _
def thN (f : Int → Int → Int) (s : Int) (Z : Nat → Int) : Nat → Int
 | 0 => s
 | k + 1 => f (thN f s Z k) (Z k)
def thC (f : Int → Int → Int) (g : Int → Int → Bool) (s : Int) (Z : Nat → Int) : Nat → Bool
 | 0 => false
 | k + 1 => thC f g s Z k || g (thN f s Z k) (Z k)
theorem thN_I64 (f : Int → Int → Int) (hf : ∀ a b, I64 (f a b)) (s : Int) (hs : I64 s) (Z : Nat → Int) : ∀ k, I64 (thN f s Z k)
 | 0 => hs
 | k + 1 => hf _ _
def dotN (X Y : Nat → Int) : Nat → Int
 | 0 => 0
 | k + 1 => addN (dotN X Y k) (mulN (X k) (Y k))
def dotC (X Y : Nat → Int) : Nat → Bool
 | 0 => false
 | k + 1 => dotC X Y k || mulC (X k) (Y k) || addC (dotN X Y k) (mulN (X k) (Y k))
theorem dotN_I64 (X Y : Nat → Int) : ∀ k, I64 (dotN X Y k)
 | 0 => by unfold dotN I64; omega
 | k + 1 => addN_I64 _ _
theorem rawq_near (m n : Int) (hn : 0 < n) : -n ≤ 2 * (m - rawq m n * n) ∧ 2 * (m - rawq m n * n) ≤ n := by
 have h := Int.ediv_mul_add_emod m n
 have h0 := Int.emod_nonneg m (show n ≠ 0 by omega)
 have h1 := Int.emod_lt_of_pos m hn
 unfold rawq
 generalize m / n = q at *
 generalize m % n = r at *
 split
 ·rw [Int.add_mul]; omega
 ·omega
theorem rdiv_near (a d : Int) (hd : 0 < d) : -d ≤ 2 * (a - rdiv a d * d) ∧ 2 * (a - rdiv a d * d) ≤ d := by
 rw [rdiv_pos a d hd]
 split
 ·have := rawq_near (-a) d hd
  rw [Int.neg_mul]; omega
 ·exact rawq_near a d hd
theorem rdiv_mul (v d : Int) (hd : 0 < d) : rdiv (v * d) d = v := by
 have h := rdiv_near (v * d) d hd
 generalize rdiv (v * d) d = p at *
 have e : v * d - p * d = (v - p) * d := by rw [Int.sub_mul]
 rw [e] at h
 rcases (show v - p ≤ -1 ∨ v - p = 0 ∨ 1 ≤ v - p from by omega) with k | k | k
 ·have := Int.mul_le_mul_of_nonneg_right k (show 0 ≤ d by omega); omega
 ·omega
 ·have := Int.mul_le_mul_of_nonneg_right k (show 0 ≤ d by omega); omega
def pairZ (a b : Int) : Nat → Int
 | 0 => a
 | _ => b
def s2N (a b : Int) : Int := addN (addN 0 a) b
def s2C (a b : Int) : Bool := addC 0 a || addC (addN 0 a) b
def m2N (a b : Int) : Int := mulN (mulN 4294967296 a) b
def m2C (a b : Int) : Bool := mulC 4294967296 a || mulC (mulN 4294967296 a) b
theorem s2N_th (a b : Int) : thN addN 0 (pairZ a b) 2 = s2N a b := rfl
theorem s2C_th (a b : Int) : thC addN addC 0 (pairZ a b) 2 = s2C a b := rfl
theorem m2N_th (a b : Int) : thN mulN 4294967296 (pairZ a b) 2 = m2N a b := by simp only [thN, m2N, pairZ]
theorem m2C_th (a b : Int) : thC mulN mulC 4294967296 (pairZ a b) 2 = m2C a b := by simp only [thN, thC, m2C, pairZ, Bool.false_or]
theorem s2N_I64 (a b : Int) : I64 (s2N a b) := addN_I64 _ _
theorem m2N_I64 (a b : Int) : I64 (m2N a b) := mulN_I64 _ _
theorem pairZ_I64 {a b : Int} (ha : I64 a) (hb : I64 b) : ∀ i, i < 2 → I64 (pairZ a b i)
 | 0, _ => ha
 | 1, _ => hb
theorem tk_tk (a : Int) (h : I64 a) : I64 (tk a) ∧ tk (tk a) = tk a ∧ nb (tk a) = false ∧ fitI (tk a) = tk a ∧ fitB (tk a) = false := by
 unfold I64 at *
 unfold tk nb fitI fitB
 refine ⟨?_, ?_, ?_, ?_, ?_⟩ <;> (repeat' split) <;> first | omega | (simp; done) | (simp; omega)
theorem s2N_eq (a b : Int) (ha : I64 a) (hb : I64 b) : s2N a b = fitI (tk a + tk b) := by
 have := tk_tk a ha
 unfold s2N addN
 rw [show tk 0 = 0 from rfl, Int.zero_add, this.2.2.2.1, this.2.1]
theorem s2N_comm (a b : Int) (ha : I64 a) (hb : I64 b) : s2N a b = s2N b a := by
 rw [s2N_eq a b ha hb, s2N_eq b a hb ha, Int.add_comm]
theorem mulN_comm (a b : Int) : mulN a b = mulN b a := by unfold mulN; rw [Int.mul_comm]
theorem mulC_comm (a b : Int) : mulC a b = mulC b a := by
 unfold mulC cutB
 rw [Int.mul_comm]
 cases nb a <;> cases nb b <;> simp
def orC (G : Nat → Bool) : Nat → Bool
 | 0 => false
 | k + 1 => orC G k || G k
theorem orC_congr (G H : Nat → Bool) : ∀ k, (∀ i, i < k → G i = H i) → orC G k = orC H k
 | 0, _ => rfl
 | k + 1, h => by
  show (orC G k || G k) = (orC H k || H k)
  rw [orC_congr G H k (fun i hi => h i (by omega)), h k (by omega)]
theorem orC_of (G : Nat → Bool) : ∀ k, (∀ i, i < k → G i = false) → orC G k = false
 | 0, _ => rfl
 | k + 1, h => by
  show (orC G k || G k) = false
  rw [orC_of G k (fun i hi => h i (by omega)), h k (by omega)]
  rfl
theorem place_div (i k c : Nat) (h : k < c) : (i * c + k) / c = i := by
 rw [Nat.add_comm, Nat.add_mul_div_right _ _ (by omega), Nat.div_eq_of_lt h, Nat.zero_add]
theorem place_mod (i k c : Nat) (h : k < c) : (i * c + k) % c = k := by
 rw [Nat.add_comm, Nat.add_mul_mod_self_right, Nat.mod_eq_of_lt h]
theorem place_eq (p c : Nat) : p / c * c + p % c = p := Nat.div_add_mod' p c
theorem place_lt (p r c : Nat) (h : p < r * c) : p / c < r ∧ p % c < c := by
 have hc : 0 < c := by
  rcases Nat.eq_zero_or_pos c with e | e
  ·subst e; simp at h
  ·exact e
 exact ⟨by rw [Nat.div_lt_iff_lt_mul hc]; exact h, Nat.mod_lt _ hc⟩
theorem place_in (i k r c : Nat) (hi : i < r) (hk : k < c) : i * c + k < r * c := by
 have : (i + 1) * c ≤ r * c := Nat.mul_le_mul_right c hi
 rw [Nat.add_mul, Nat.one_mul] at this
 omega
def rowZ (M : Nat → Int) (c i : Nat) : Nat → Int := fun k => M (i * c + k)
def colZ (M : Nat → Int) (c k : Nat) : Nat → Int := fun i => M (i * c + k)
def turnZ (M : Nat → Int) (r c : Nat) : Nat → Int := fun p => M (p % r * c + p / r)
def diagZ (L : Nat → Int) (n : Nat) : Nat → Int := fun p => if p / n = p % n then L (p / n) else 0
def mulZ (A B : Nat → Int) (m c : Nat) : Nat → Int := fun p => dotN (rowZ A m (p / c)) (colZ B c (p % c)) m
def mulG (A B : Nat → Int) (m c : Nat) : Nat → Bool := fun p => dotC (rowZ A m (p / c)) (colZ B c (p % c)) m
theorem dotN_congr (X Y X' Y' : Nat → Int) : ∀ k, (∀ i, i < k → X i = X' i) → (∀ i, i < k → Y i = Y' i) → dotN X Y k = dotN X' Y' k
 | 0, _, _ => rfl
 | k + 1, h, g => by
  show addN _ (mulN _ _) = addN _ (mulN _ _)
  rw [dotN_congr X Y X' Y' k (fun i hi => h i (by omega)) (fun i hi => g i (by omega)), h k (by omega), g k (by omega)]
theorem dotC_congr (X Y X' Y' : Nat → Int) : ∀ k, (∀ i, i < k → X i = X' i) → (∀ i, i < k → Y i = Y' i) → dotC X Y k = dotC X' Y' k
 | 0, _, _ => rfl
 | k + 1, h, g => by
  show (_ || _ || _) = (_ || _ || _)
  rw [dotC_congr X Y X' Y' k (fun i hi => h i (by omega)) (fun i hi => g i (by omega)), dotN_congr X Y X' Y' k (fun i hi => h i (by omega)) (fun i hi => g i (by omega)), h k (by omega), g k (by omega)]
theorem turn_row (M : Nat → Int) (r c i k : Nat) (hk : k < r) : rowZ (turnZ M r c) r i k = colZ M c i k := by
 show M ((i * r + k) % r * c + (i * r + k) / r) = M (k * c + i)
 rw [place_mod _ _ _ hk, place_div _ _ _ hk]
theorem turn_I64 (M : Nat → Int) (r c : Nat) (h : ∀ i, i < r * c → I64 (M i)) : ∀ i, i < c * r → I64 (turnZ M r c i) := fun p hp =>
 have := place_lt p c r hp
 h _ (place_in _ _ _ _ this.2 this.1)
theorem mul_rows (A B : Nat → Int) (m c i k : Nat) (hk : k < c) : dotN (rowZ A m i) (rowZ (turnZ B m c) m k) m = mulZ A B m c (i * c + k) ∧ dotC (rowZ A m i) (rowZ (turnZ B m c) m k) m = mulG A B m c (i * c + k) := by
 unfold mulZ mulG
 rw [place_div _ _ _ hk, place_mod _ _ _ hk]
 exact ⟨dotN_congr _ _ _ _ m (fun _ _ => rfl) (fun j hj => turn_row B m c k j hj), dotC_congr _ _ _ _ m (fun _ _ => rfl) (fun j hj => turn_row B m c k j hj)⟩
theorem mulZ_I64 (A B : Nat → Int) (m c p : Nat) : I64 (mulZ A B m c p) := dotN_I64 _ _ _
theorem diagZ_I64 (L : Nat → Int) (n : Nat) (h : ∀ i, i < n → I64 (L i)) : ∀ p, p < n * n → I64 (diagZ L n p) := fun p hp => by
 unfold diagZ
 split
 ·exact h _ (place_lt p n n hp).1
 ·unfold I64; omega
theorem mul_one (y : Int) (h : Fx y) : mulN 4294967296 y = y ∧ mulC 4294967296 y = false ∧ mulN y 4294967296 = y ∧ mulC y 4294967296 = false := by
 have h1 : mulN 4294967296 y = y ∧ mulC 4294967296 y = false := by
  unfold Fx at h
  have e1 : tk y = y := by unfold tk; rw [if_neg (by omega)]
  have e2 : tk 4294967296 = 4294967296 := by decide
  have e3 : rdiv (4294967296 * y) 4294967296 = y := by rw [Int.mul_comm]; exact rdiv_mul y 4294967296 (by omega)
  unfold mulN mulC cutB
  rw [e1, e2, e3]
  refine ⟨?_, ?_⟩
  ·unfold fitI; rw [if_neg (by omega), if_neg (by omega)]
  ·unfold fitB nb; simp; omega
 exact ⟨h1.1, h1.2, by rw [mulN_comm]; exact h1.1, by rw [mulC_comm]; exact h1.2⟩
theorem mul_nought (y : Int) (h : Fx y) : mulN 0 y = 0 ∧ mulC 0 y = false ∧ mulN y 0 = 0 ∧ mulC y 0 = false := by
 have h1 : mulN 0 y = 0 ∧ mulC 0 y = false := by
  unfold Fx at h
  have e2 : tk 0 = 0 := by decide
  have e3 : rdiv 0 4294967296 = 0 := by decide
  unfold mulN mulC cutB
  rw [e2, Int.zero_mul, e3]
  refine ⟨by decide, ?_⟩
  unfold nb
  simp
  exact ⟨by decide, by omega⟩
 exact ⟨h1.1, h1.2, by rw [mulN_comm]; exact h1.1, by rw [mulC_comm]; exact h1.2⟩
theorem add_nought (y : Int) (h : Fx y) : addN 0 y = y ∧ addC 0 y = false ∧ addN y 0 = y ∧ addC y 0 = false := by
 unfold Fx at h
 have e1 : tk y = y := by unfold tk; rw [if_neg (by omega)]
 have e2 : tk 0 = 0 := by decide
 have e3 : fitI y = y := by unfold fitI; rw [if_neg (by omega), if_neg (by omega)]
 have e4 : fitB y = false := by unfold fitB; simp; omega
 have e5 : nb y = false := by unfold nb; simp; omega
 unfold addN addC cutB
 rw [e1, e2, Int.zero_add, Int.add_zero, e3, e4, e5]
 exact ⟨rfl, by decide, rfl, by decide⟩
def unitZ (i : Nat) : Nat → Int := fun k => if i = k then 4294967296 else 0
theorem dot_unit (Y : Nat → Int) (i : Nat) : ∀ t, (∀ k, k < t → Fx (Y k)) → dotN (unitZ i) Y t = (if i < t then Y i else 0) ∧ dotC (unitZ i) Y t = false ∧ dotN Y (unitZ i) t = (if i < t then Y i else 0) ∧ dotC Y (unitZ i) t = false
 | 0, _ => ⟨rfl, rfl, rfl, rfl⟩
 | t + 1, h => by
  obtain ⟨h1, h2, h3, h4⟩ := dot_unit Y i t (fun k hk => h k (by omega))
  have hy := h t (by omega)
  show addN _ (mulN _ _) = _ ∧ (_ || mulC _ _ || addC _ (mulN _ _)) = false ∧ addN _ (mulN _ _) = _ ∧ (_ || mulC _ _ || addC _ (mulN _ _)) = false
  rw [h1, h2, h3, h4]
  by_cases e : i = t
  ·subst e
   have eu : unitZ i i = 4294967296 := by unfold unitZ; rw [if_pos rfl]
   rw [eu, if_neg (by omega), if_pos (by omega), (mul_one _ hy).1, (mul_one _ hy).2.1, (mul_one _ hy).2.2.1, (mul_one _ hy).2.2.2, (add_nought _ hy).1, (add_nought _ hy).2.1]
   exact ⟨rfl, rfl, rfl, rfl⟩
  ·have eu : unitZ i t = 0 := by unfold unitZ; rw [if_neg e]
   rw [eu, (mul_nought _ hy).1, (mul_nought _ hy).2.1, (mul_nought _ hy).2.2.1, (mul_nought _ hy).2.2.2]
   by_cases g : i < t
   ·rw [if_pos g, if_pos (by omega), (add_nought _ (h i (by omega))).2.2.1, (add_nought _ (h i (by omega))).2.2.2]
    exact ⟨rfl, rfl, rfl, rfl⟩
   ·rw [if_neg g, if_neg (by omega)]
    exact ⟨by decide, by decide, by decide, by decide⟩
def oneZ : Nat → Int := fun _ => 4294967296
theorem eye_row (n i k : Nat) (h : k < n) : rowZ (diagZ oneZ n) n i k = unitZ i k := by
 show (if (i * n + k) / n = (i * n + k) % n then (4294967296 : Int) else 0) = if i = k then 4294967296 else 0
 rw [place_div _ _ _ h, place_mod _ _ _ h]
theorem eye_left (A : Nat → Int) (r c p : Nat) (hA : ∀ i, i < r * c → Fx (A i)) (h : p < r * c) : mulZ (diagZ oneZ r) A r c p = A p ∧ mulG (diagZ oneZ r) A r c p = false := by
 have hp := place_lt p r c h
 have D := dot_unit (colZ A c (p % c)) (p / c) r (fun k hk => hA _ (place_in _ _ _ _ hk hp.2))
 unfold mulZ mulG
 rw [dotN_congr _ _ (unitZ (p / c)) _ r (fun k hk => eye_row r (p / c) k hk) (fun _ _ => rfl), dotC_congr _ _ (unitZ (p / c)) _ r (fun k hk => eye_row r (p / c) k hk) (fun _ _ => rfl), D.1, D.2.1, if_pos hp.1]
 refine ⟨?_, rfl⟩
 show A (p / c * c + p % c) = _
 rw [place_eq]
def sI (f : Nat → Int) : Nat → Int
 | 0 => 0
 | k + 1 => sI f k + f k
theorem sI_bound (f : Nat → Int) (B : Int) : ∀ k : Nat, (∀ i, i < k → -B ≤ f i ∧ f i ≤ B) → -(B * k) ≤ sI f k ∧ sI f k ≤ B * k
 | 0, _ => by show -(B * 0) ≤ 0 ∧ 0 ≤ B * 0; omega
 | k + 1, h => by
  have h1 := sI_bound f B k (fun i hi => h i (by omega))
  have h2 := h k (by omega)
  show -(B * ((k + 1 : Nat) : Int)) ≤ sI f k + f k ∧ sI f k + f k ≤ B * ((k + 1 : Nat) : Int)
  rw [show B * ((k + 1 : Nat) : Int) = B * k + B by rw [Int.natCast_add, Int.mul_add]; omega]
  omega
def Wh (B : Int) (n : Nat) (X : Nat → Int) (x : Nat → Int) : Prop := ∀ i, i < n → X i = x i * 4294967296 ∧ -B ≤ x i ∧ x i ≤ B
theorem whole_fx (x : Int) (h : -2147483647 ≤ x ∧ x ≤ 2147483647) : Fx (x * 4294967296) := by unfold Fx; omega
theorem fx_all (y : Int) (h : Fx y) : tk y = y ∧ fitI y = y ∧ fitB y = false ∧ nb y = false := by
 unfold Fx at h
 refine ⟨by unfold tk; rw [if_neg (by omega)], by unfold fitI; rw [if_neg (by omega), if_neg (by omega)], by unfold fitB; simp; omega, by unfold nb; simp; omega⟩
theorem whole_mul (x y : Int) (hx : -2147483647 ≤ x ∧ x ≤ 2147483647) (hy : -2147483647 ≤ y ∧ y ≤ 2147483647) (h : -2147483647 ≤ x * y ∧ x * y ≤ 2147483647) : mulN (x * 4294967296) (y * 4294967296) = x * y * 4294967296 ∧ mulC (x * 4294967296) (y * 4294967296) = false := by
 have e1 := fx_all _ (whole_fx x hx)
 have e2 := fx_all _ (whole_fx y hy)
 have e3 := fx_all _ (whole_fx (x * y) h)
 have e4 : rdiv (x * 4294967296 * (y * 4294967296)) 4294967296 = x * y * 4294967296 := by
  have := rdiv_mul (x * y * 4294967296) 4294967296 (by omega)
  rwa [show x * y * 4294967296 * 4294967296 = x * 4294967296 * (y * 4294967296) by grind] at this
 unfold mulN mulC cutB
 rw [e1.1, e2.1, e4, e3.2.1, e3.2.2.1, e1.2.2.2, e2.2.2.2]
 exact ⟨rfl, rfl⟩
theorem whole_add (x y : Int) (hx : -2147483647 ≤ x ∧ x ≤ 2147483647) (hy : -2147483647 ≤ y ∧ y ≤ 2147483647) (h : -2147483647 ≤ x + y ∧ x + y ≤ 2147483647) : addN (x * 4294967296) (y * 4294967296) = (x + y) * 4294967296 ∧ addC (x * 4294967296) (y * 4294967296) = false := by
 have e1 := fx_all _ (whole_fx x hx)
 have e2 := fx_all _ (whole_fx y hy)
 have e3 := fx_all _ (whole_fx (x + y) h)
 unfold addN addC cutB
 rw [e1.1, e2.1, ← Int.add_mul, e3.2.1, e3.2.2.1, e1.2.2.2, e2.2.2.2]
 exact ⟨rfl, rfl⟩
theorem mul_bound (x y a b : Int) (hx : -a ≤ x ∧ x ≤ a) (hy : -b ≤ y ∧ y ≤ b) : -(a * b) ≤ x * y ∧ x * y ≤ a * b := by
 have ha : 0 ≤ a := by omega
 have h1 : (a - x) * (b - y) ≥ 0 := Int.mul_nonneg (by omega) (by omega)
 have h2 : (a + x) * (b + y) ≥ 0 := Int.mul_nonneg (by omega) (by omega)
 have h3 : (a - x) * (b + y) ≥ 0 := Int.mul_nonneg (by omega) (by omega)
 have h4 : (a + x) * (b - y) ≥ 0 := Int.mul_nonneg (by omega) (by omega)
 rw [Int.sub_mul, Int.mul_sub, Int.mul_sub] at h1
 rw [Int.add_mul, Int.mul_add, Int.mul_add] at h2
 rw [Int.sub_mul, Int.mul_add, Int.mul_add] at h3
 rw [Int.add_mul, Int.mul_sub, Int.mul_sub] at h4
 omega
theorem whole_dot (X Y x y : Nat → Int) (a b : Int) (ha : 0 ≤ a ∧ a ≤ 2147483647) (hb : 0 ≤ b ∧ b ≤ 2147483647) : ∀ k : Nat, Wh a k X x → Wh b k Y y → a * b * k ≤ 2147483647 → dotN X Y k = sI (fun i => x i * y i) k * 4294967296 ∧ dotC X Y k = false
 | 0, _, _, _ => ⟨rfl, rfl⟩
 | k + 1, hX, hY, hk => by
  have hab : 0 ≤ a * b := Int.mul_nonneg ha.1 hb.1
  have hk2 : a * b * ((k + 1 : Nat) : Int) = a * b * k + a * b := by rw [Int.natCast_add, Int.mul_add]; omega
  have hk3 : 0 ≤ a * b * k := Int.mul_nonneg hab (by omega)
  obtain ⟨h1, h2⟩ := whole_dot X Y x y a b ha hb k (fun i hi => hX i (by omega)) (fun i hi => hY i (by omega)) (by omega)
  have hs := sI_bound (fun i => x i * y i) (a * b) k (fun i hi => mul_bound _ _ a b (hX i (by omega)).2 (hY i (by omega)).2)
  have hx := hX k (by omega)
  have hy := hY k (by omega)
  have hm := mul_bound _ _ a b hx.2 hy.2
  have m := whole_mul (x k) (y k) (by omega) (by omega) (by omega)
  have d := whole_add (sI (fun i => x i * y i) k) (x k * y k) (by omega) (by omega) (by omega)
  show addN _ (mulN _ _) = (sI (fun i => x i * y i) k + x k * y k) * 4294967296 ∧ (_ || mulC _ _ || addC _ (mulN _ _)) = false
  rw [h1, h2, hx.1, hy.1, m.1, m.2, d.1, d.2]
  exact ⟨rfl, rfl⟩
def mulW (x y : Nat → Int) (m c : Nat) : Nat → Int := fun p => sI (fun j => x (p / c * m + j) * y (j * c + p % c)) m
theorem whole_mat (A B a b : Nat → Int) (r m c : Nat) (p q : Int) (hp : 0 ≤ p ∧ p ≤ 2147483647) (hq : 0 ≤ q ∧ q ≤ 2147483647) (hA : Wh p (r * m) A a) (hB : Wh q (m * c) B b) (hm : p * q * m ≤ 2147483647) :
  Wh (p * q * m) (r * c) (mulZ A B m c) (mulW a b m c) ∧ ∀ i, i < r * c → mulG A B m c i = false := by
 have D : ∀ i, i < r * c → dotN (rowZ A m (i / c)) (colZ B c (i % c)) m = mulW a b m c i * 4294967296 ∧ dotC (rowZ A m (i / c)) (colZ B c (i % c)) m = false := fun i hi => by
  have hl := place_lt i r c hi
  exact whole_dot _ _ (fun j => a (i / c * m + j)) (fun j => b (j * c + i % c)) p q hp hq m (fun j hj => hA _ (place_in _ _ _ _ hl.1 hj)) (fun j hj => hB _ (place_in _ _ _ _ hj hl.2)) hm
 refine ⟨fun i hi => ⟨(D i hi).1, ?_⟩, fun i hi => (D i hi).2⟩
 have hl := place_lt i r c hi
 exact sI_bound _ (p * q) m (fun j hj => mul_bound _ _ p q (hA _ (place_in _ _ _ _ hl.1 hj)).2 (hB _ (place_in _ _ _ _ hj hl.2)).2)
end Go.Proofs.Wd
namespace Go.Proofs.YtjobgjcfkomhpaaGreat
open Go.RowKit Go.Proofs.Wd
set_option maxRecDepth 10000
attribute [local go_sem ↓] Go.wp_at_zero Go.wp_at_succ
set_option maxHeartbeats 400000 in
theorem div64_0 (lo y : Int) (h1 : U64 lo) (h2 : U64 y) (hy : 0 < y) (w : World) :
  Calls Tryz.prog 190 #[.int .u64 0, .int .u64 lo, .int .u64 y] w fun e w' => e = .returned (.tuple #[.int .u64 (lo / y), .int .u64 (lo % y)]) ∧ Grown w w' := by
 unfold U64 at h1 h2
 go_enter Tryz.func190, Tryz.ntmps190
 go_wp2
 go_region
 all_goals go_wp2
 all_goals go_ret2
 all_goals exact ⟨rfl, Grown.drew (Grown.refl _)⟩
def DivSays (h l y : Int) : Prop := ∀ w, Calls Tryz.prog 190 #[.int .u64 h, .int .u64 l, .int .u64 y] w fun e w' => e = .returned (.tuple #[.int .u64 (val h l / y), .int .u64 (val h l % y)]) ∧ Grown w w'
theorem div64_says0 (lo y : Int) (h1 : U64 lo) (h2 : U64 y) (hy : 0 < y) : DivSays 0 lo y := fun w => by
 rw [show val 0 lo = lo from by unfold val; omega]
 exact div64_0 lo y h1 h2 hy w
set_option maxHeartbeats 1000000 in
theorem wideQuotient_core (ml mh n q1 r1 q0 r0 : Int) (b : Bool) (hn : r0 ≤ n) (hr : 0 ≤ r0) (hn' : n < 18446744073709551616)
  (D1 : Hid (∀ w, Calls Tryz.prog 190 #[.int .u64 0, .int .u64 mh, .int .u64 n] w fun e w' => e = .returned (.tuple #[.int .u64 q1, .int .u64 r1]) ∧ Grown w w'))
  (D2 : Hid (∀ w, Calls Tryz.prog 190 #[.int .u64 r1, .int .u64 ml, .int .u64 n] w fun e w' => e = .returned (.tuple #[.int .u64 q0, .int .u64 r0]) ∧ Grown w w')) (w : World) :
  Calls Tryz.prog 187 #[.agg #[.int .u64 ml, .int .u64 mh], .int .u64 n, .bool b] w fun e w' => e = .returned (.tuple #[.agg #[.int .u64 q0, .int .u64 q1], .agg #[.int .u64 r0, .int .u64 0], .agg #[.int .u64 (n - r0), .int .u64 0], .bool b]) ∧ Grown w w' := by
 go_enter Tryz.func187, Tryz.ntmps187
 go_wp2_with fail
 refine (unhide D1 _).mono ?_
 rintro e w1 ⟨rfl, hg1⟩
 obtain ⟨a0, a1⟩ := gat2 hg1 w.heap.size (.int .u64 ml) (.int .u64 mh) (by constructor <;> simp [go_sem])
 obtain ⟨b0, b1⟩ := gat2 hg1 (w.heap.size + 1) (.int .u64 0) (.int .u64 0) (by constructor <;> simp [go_sem])
 obtain ⟨c0, c1⟩ := gat2 hg1 (w.heap.size + 1 + 1) (.int .u64 0) (.int .u64 0) (by constructor <;> simp [go_sem])
 obtain ⟨d0, d1⟩ := gat2 hg1 (w.heap.size + 1 + 1 + 1) (.int .u64 0) (.int .u64 0) (by constructor <;> simp [go_sem])
 have hgw1 : Grown w w1 := gtrans ((((((Grown.refl _).alloc _ _).alloc _ _).alloc _ _).alloc _ _)) hg1
 clear hg1
 go_wp2_with fail
 refine (unhide D2 _).mono ?_
 rintro e w2 ⟨rfl, hg2⟩
 obtain ⟨b2, b3⟩ := gat2 hg2 (w.heap.size + 1) (.int .u64 0) (.int .u64 0) ⟨b0, b1⟩
 obtain ⟨c2, c3⟩ := gat2 hg2 (w.heap.size + 1 + 1) (.int .u64 0) (.int .u64 0) ⟨c0, c1⟩
 obtain ⟨d2, d3⟩ := gat2 hg2 (w.heap.size + 1 + 1 + 1) (.int .u64 0) (.int .u64 0) ⟨d0, d1⟩
 have hgw2 : Grown w w2 := gtrans hgw1 hg2
 have f1 := fun o => frz hgw2 (w.heap.size + 1) o (by omega)
 have f2 := fun o => frz hgw2 (w.heap.size + 1 + 1) o (by omega)
 have f3 := fun o => frz hgw2 (w.heap.size + 1 + 1 + 1) o (by omega)
 clear hg2 a0 a1 b0 b1 c0 c1 d0 d1 hgw1
 go_wp2
 simp [bodyPost, results, Tryz.results187, go_sem, b2, b3, c2, c3, d2, d3]
 refine Grown.setCell ?_ (by dsimp only; omega) _
 refine Grown.setCell ?_ (by dsimp only; omega) _
 refine Grown.setCell ?_ (by dsimp only; omega) _
 refine Grown.setCell ?_ (by dsimp only; omega) _
 refine Grown.setCell ?_ (by dsimp only; omega) _
 refine Grown.setCell ?_ (by dsimp only; omega) _
 exact hgw2
set_option maxHeartbeats 1000000 in
theorem wideFraction (ah al d : Int) (h1 : I64 ah) (h2 : U64 al) (h3 : I64 d) (w : World) :
  Calls Tryz.prog 188 #[.agg #[.int .i64 ah, .int .u64 al], .int .i64 d] w fun e w' => e = .returned (.tuple #[.agg #[.int .u64 (loOf (absI (val ah al))), .int .u64 (mhi (absI (val ah al)))], .int .u64 (absI d), .bool (apartS ah d)]) ∧ Grown w w' := by
 go_enter Tryz.func188, Tryz.ntmps188
 go_wp2
 go_region_held3 (fun w' => w'.cell? ⟨w.heap.size, 0, none⟩ = some (.int .i64 ah) ∧ w'.cell? ⟨w.heap.size, 1, none⟩ = some (.int .u64 al))
  (simp [go_sem, *])
  (first
   | (go_at_call 185; refine (wideSizeOf ah al h1 h2 _).mono ?_; rintro e w1 ⟨rfl, hg⟩; obtain ⟨a0, a1⟩ := gat2 hg w.heap.size (.int .i64 ah) (.int .u64 al) (by constructor <;> simp [go_sem, *]); obtain ⟨d0, d1⟩ := gat2 hg (w.heap.size + 1) (.int .u64 0) (.int .u64 0) (by constructor <;> simp [go_sem, *]); have hgw1 : Grown w w1 := gtrans (by exact Grown.drew (((Grown.refl _).alloc _ _).alloc _ _)) hg)
   | (go_at_call 175; refine (wideFar d h3 _).mono ?_; rintro e w2 ⟨rfl, hg2⟩; obtain ⟨a2, a3⟩ := gat2 hg2 w.heap.size (.int .i64 ah) (.int .u64 al) (by constructor <;> simp [go_sem, *]); obtain ⟨d2, d3⟩ := gat2 hg2 (w.heap.size + 1) (.int .u64 0) (.int .u64 0) (by constructor <;> simp [go_sem, *]); have hgw2 : Grown w w2 := gtrans hgw1 hg2; have f1 := fun o => frz hgw2 (w.heap.size + 1) o (by omega)))
 go_wp2
 simp [bodyPost, results, Tryz.results188, go_sem, d2, d3]
 exact ⟨by unfold apartS; simp [bne], Grown.setCell (Grown.setCell hgw2 (by dsimp only; omega) _) (by dsimp only; omega) _⟩
theorem sg_near2 (a d : Int) (hd : d ≠ 0) : sg (apartS a d) (nearQ (absI a / absI d) (absI a % absI d) (absI d - absI a % absI d)) = rdiv a d := by
 have e1 : ((a.natAbs : Nat) : Int) = absI a := by unfold absI; split <;> omega
 have e2 : ((d.natAbs : Nat) : Int) = absI d := by unfold absI; split <;> omega
 unfold rdiv rawq sg nearQ apartS
 rw [e1, e2]
theorem quo_parts (mh ml n : Int) (h1 : U64 ml) (h2 : U64 mh) (hn : 0 < n) :
  val (mh % n) ml / n = loOf (val mh ml / n) ∧ mh / n = mhi (val mh ml / n) ∧ val (mh % n) ml % n = val mh ml % n := by
 have e1 := Int.emod_add_mul_ediv mh n
 have e2 := Int.emod_nonneg mh (by omega : n ≠ 0)
 have e3 := Int.emod_lt_of_pos mh hn
 have f1 := Int.emod_add_mul_ediv (val (mh % n) ml) n
 have f2 := Int.emod_nonneg (val (mh % n) ml) (by omega : n ≠ 0)
 have f3 := Int.emod_lt_of_pos (val (mh % n) ml) hn
 unfold U64 at h1 h2
 have g0 : 0 ≤ mh / n := dv0 _ _ hn h2.1
 have g1 : mh / n ≤ mh := Int.ediv_le_self _ h2.1
 have hx : val mh ml = (val (mh % n) ml % n) + n * ((mh / n) * 18446744073709551616 + val (mh % n) ml / n) := by
  have : val mh ml = n * (mh / n) * 18446744073709551616 + val (mh % n) ml := by unfold val; omega
  rw [this]; grind
 obtain ⟨k1, k2⟩ := du hn hx.symm f2 f3
 have l0 : 0 ≤ val (mh % n) ml / n := dv0 _ _ hn (by unfold val; omega)
 have l1 : val (mh % n) ml / n < 18446744073709551616 := ltdiv _ _ _ hn (by
  have : (mh % n + 1) * 18446744073709551616 ≤ n * 18446744073709551616 := Int.mul_le_mul_of_nonneg_right (by omega) (by decide)
  unfold val; omega)
 rw [k1, k2]
 refine ⟨?_, ?_, rfl⟩
 ·unfold loOf; omega
 ·unfold mhi; omega
theorem wideQuotient (ml mh n : Int) (b : Bool) (h1 : U64 ml) (h2 : U64 mh) (h3 : U64 n) (hn : 0 < n) (hD : DivSays (mh % n) ml n) (w : World) :
  Calls Tryz.prog 187 #[.agg #[.int .u64 ml, .int .u64 mh], .int .u64 n, .bool b] w fun e w' => e = .returned (.tuple #[.agg #[.int .u64 (loOf (val mh ml / n)), .int .u64 (mhi (val mh ml / n))], .agg #[.int .u64 (val mh ml % n), .int .u64 0], .agg #[.int .u64 (n - val mh ml % n), .int .u64 0], .bool b]) ∧ Grown w w' := by
 obtain ⟨p1, p2, p3⟩ := quo_parts mh ml n h1 h2 hn
 have f2 := Int.emod_nonneg (val (mh % n) ml) (by omega : n ≠ 0)
 have f3 := Int.emod_lt_of_pos (val (mh % n) ml) hn
 have q := wideQuotient_core ml mh n (mh / n) (mh % n) (val (mh % n) ml / n) (val (mh % n) ml % n) b (by omega) f2 h3.2
  (hide (fun w => div64_0 mh n h2 h3 hn w)) (hide hD) w
 rw [p3, p1, p2] at q
 exact q
set_option maxHeartbeats 1000000 in
theorem wideDiv (ah al d : Int) (h1 : I64 ah) (h2 : U64 al) (h3 : I64 d) (hd : d ≠ 0) (hD : DivSays (mhi (absI (val ah al)) % absI d) (loOf (absI (val ah al))) (absI d)) (w : World) :
  Calls Tryz.prog 178 #[.agg #[.int .i64 ah, .int .u64 al], .int .i64 d] w fun e w' => e = .returned (.tuple #[.agg #[.int .i64 (hiOf (rdiv (val ah al) d)), .int .u64 (loOf (rdiv (val ah al) d))], .int .i64 0]) ∧ Grown w w' := by
 have hn : 0 < absI d := by unfold absI; split <;> omega
 have hu := absI_U64 d h3
 have hR := val_range ah al h1 h2
 have hA0 : 0 ≤ absI (val ah al) := by unfold absI; split <;> omega
 have hA1 : absI (val ah al) ≤ 170141183460469231731687303715884105728 := by unfold absI; split <;> omega
 have e1 := Int.emod_nonneg (absI (val ah al)) (by omega : absI d ≠ 0)
 have e2 := Int.emod_lt_of_pos (absI (val ah al)) hn
 have e3 : 0 ≤ absI (val ah al) / absI d := dv0 _ _ hn hA0
 have e4 : absI (val ah al) / absI d ≤ absI (val ah al) := Int.ediv_le_self _ hA0
 have v0 := val_size (absI (val ah al)) (by omega)
 have v1 := val_size (absI (val ah al) / absI d) (by omega)
 have v2 : val 0 (absI (val ah al) % absI d) = absI (val ah al) % absI d := by unfold val; omega
 have v3 : val 0 (absI d - absI (val ah al) % absI d) = absI d - absI (val ah al) % absI d := by unfold val; omega
 have hq : val (mhi (absI (val ah al) / absI d)) (loOf (absI (val ah al) / absI d)) < 340282366920938463463374607431768211455 := by omega
 have hap : apartS (val ah al) d = apartS ah d := by unfold apartS; rw [show decide (val ah al < 0) = decide (ah < 0) from by rw [decide_eq_decide]; unfold U64 at h2; unfold val; omega]
 have hs := sg_near2 (val ah al) d hd
 rw [hap] at hs
 have S1 := hide (fun w => wideQuotient (loOf (absI (val ah al))) (mhi (absI (val ah al))) (absI d) (apartS ah d) (loOf_U64 _) (mhi_U64 _) hu hn hD w)
 have u1 : U64 (absI (val ah al) % absI d) := ⟨e1, by have := hu.2; omega⟩
 have u2 : U64 (absI d - absI (val ah al) % absI d) := ⟨by omega, by have := hu.2; omega⟩
 have u0 : U64 0 := by unfold U64; omega
 have N1 := hide (fun w => wideNearest (loOf (absI (val ah al) / absI d)) (mhi (absI (val ah al) / absI d)) (absI (val ah al) % absI d) 0 (absI d - absI (val ah al) % absI d) 0 (apartS ah d) (loOf_U64 _) (mhi_U64 _) u1 u0 u2 u0 hq w)
 rw [v0] at S1
 rw [v1, v2, v3, hs] at N1
 clear v0 v1 v2 v3 hs hq e1 e2 e3 e4 hn hA0 hA1 hR hap u0 u1 u2 hu hD
 go_enter Tryz.func178, Tryz.ntmps178
 go_wp2_with fail
 refine (wideFraction ah al d h1 h2 h3 _).mono ?_
 rintro e w1 ⟨rfl, hg1⟩
 go_wp2_with fail
 refine (unhide S1 _).mono ?_
 rintro e w2 ⟨rfl, hg2⟩
 go_wp2_with fail
 refine (unhide N1 _).mono ?_
 rintro e w3 ⟨rfl, hg3⟩
 have hg := gtrans hg1 (gtrans hg2 hg3)
 obtain ⟨d0, d1⟩ := gat2 hg (w.heap.size + 1) (.int .i64 0) (.int .u64 0) (by constructor <;> simp [go_sem])
 have hgw : Grown w w3 := gtrans (((Grown.refl _).alloc _ _).alloc _ _) hg
 have f1 := fun o => frz hgw (w.heap.size + 1) o (by omega)
 clear hg1 hg2 hg3 hg
 go_wp2
 simp [bodyPost, results, Tryz.results178, go_sem, d0, d1]
 exact Grown.setCell (Grown.setCell hgw (by dsimp only; omega) _) (by dsimp only; omega) _
set_option maxHeartbeats 400000 in
theorem wideDiv_bad (ah al : Int) (w : World) :
  Calls Tryz.prog 178 #[.agg #[.int .i64 ah, .int .u64 al], .int .i64 0] w fun e w' => e = .returned (.tuple #[.agg #[.int .i64 0, .int .u64 0], .int .i64 2]) ∧ Grown w w' := by
 go_enter Tryz.func178, Tryz.ntmps178
 go_wp2
 simp [bodyPost, results, Tryz.results178, go_sem]
 exact ((Grown.refl _).alloc _ _).alloc _ _
set_option maxHeartbeats 1000000 in
theorem wideFit (ah al : Int) (h1 : I64 ah) (h2 : U64 al) (w : World) :
  Calls Tryz.prog 143 #[.agg #[.int .i64 ah, .int .u64 al]] w fun e w' => e = .returned (.tuple #[.int .i64 (fitI (val ah al)), .bool (fitB (val ah al))]) ∧ Grown w w' := by
 have O1 := hide (fun w => wideOf 9223372036854775807 (by unfold I64; omega) w)
 have O2 := hide (fun w => wideOf (-9223372036854775807) (by unfold I64; omega) w)
 have C1 := hide (fun w => wideCmp ah al (hiOf 9223372036854775807) (loOf 9223372036854775807) h1 h2 (hiOf_I64 _) (loOf_U64 _) w)
 have C2 := hide (fun w => wideCmp ah al (hiOf (-9223372036854775807)) (loOf (-9223372036854775807)) h1 h2 (hiOf_I64 _) (loOf_U64 _) w)
 rw [show val (hiOf 9223372036854775807) (loOf 9223372036854775807) = 9223372036854775807 from by decide] at C1
 rw [show val (hiOf (-9223372036854775807)) (loOf (-9223372036854775807)) = -9223372036854775807 from by decide] at C2
 by_cases g1 : 9223372036854775807 < val ah al
 ·have HF := hide (show fitI (val ah al) = 9223372036854775807 from by unfold fitI; rw [if_pos g1])
  have HB := hide (show fitB (val ah al) = true from by unfold fitB; simp [g1])
  rw [show cmpI (val ah al) 9223372036854775807 = 1 from by unfold cmpI; rw [if_neg (by omega), if_neg (by omega)]] at C1
  clear g1
  go_enter Tryz.func143, Tryz.ntmps143
  go_wp2
  go_region_held3 (fun w' => w'.cell? ⟨w.heap.size, 0, none⟩ = some (.int .i64 ah) ∧ w'.cell? ⟨w.heap.size, 1, none⟩ = some (.int .u64 al))
   (simp [go_sem, *])
   (first
    | (go_at_call 165; refine (unhide O1 _).mono ?_; rintro e w1 ⟨rfl, hg1⟩; obtain ⟨a1, b1⟩ := gat2 hg1 w.heap.size (.int .i64 ah) (.int .u64 al) (by constructor <;> simp [go_sem, *]); have hgw1 : Grown w w1 := gtrans (by exact Grown.drew ((Grown.refl _).alloc _ _)) hg1)
    | (go_at_call 164; refine (unhide C1 _).mono ?_; rintro e w2 ⟨rfl, hg2⟩; obtain ⟨a2, b2⟩ := gat2 hg2 w.heap.size (.int .i64 ah) (.int .u64 al) (by constructor <;> simp [go_sem, *]); have hgw2 : Grown w w2 := gtrans hgw1 hg2))
  go_wp2
  go_ret2
  rw [unhide HF, unhide HB]
  exact ⟨rfl, hgw2⟩
 obtain ⟨c, hc, hc1⟩ : ∃ c, cmpI (val ah al) 9223372036854775807 = c ∧ c ≤ 0 := ⟨_, rfl, by unfold cmpI; split <;> (try split) <;> omega⟩
 rw [hc] at C1
 clear hc
 by_cases g2 : val ah al < -9223372036854775807
 ·have HF := hide (show fitI (val ah al) = -9223372036854775807 from by unfold fitI; rw [if_neg g1, if_pos g2])
  have HB := hide (show fitB (val ah al) = true from by unfold fitB; simp [g2])
  rw [show cmpI (val ah al) (-9223372036854775807) = -1 from by unfold cmpI; rw [if_pos (by omega)]] at C2
  clear g1 g2
  go_enter Tryz.func143, Tryz.ntmps143
  go_wp2
  go_region_held3 (fun w' => w'.cell? ⟨w.heap.size, 0, none⟩ = some (.int .i64 ah) ∧ w'.cell? ⟨w.heap.size, 1, none⟩ = some (.int .u64 al))
   (simp [go_sem, *])
   (first
    | (go_at_call 165; refine (unhide O1 _).mono ?_; rintro e w1 ⟨rfl, hg1⟩; obtain ⟨a1, b1⟩ := gat2 hg1 w.heap.size (.int .i64 ah) (.int .u64 al) (by constructor <;> simp [go_sem, *]); have hgw1 : Grown w w1 := gtrans (by exact Grown.drew ((Grown.refl _).alloc _ _)) hg1)
    | (go_at_call 164; refine (unhide C1 _).mono ?_; rintro e w2 ⟨rfl, hg2⟩; obtain ⟨a2, b2⟩ := gat2 hg2 w.heap.size (.int .i64 ah) (.int .u64 al) (by constructor <;> simp [go_sem, *]); have hgw2 : Grown w w2 := gtrans hgw1 hg2))
  go_wp2
  go_region_held3 (fun w' => w'.cell? ⟨w.heap.size, 0, none⟩ = some (.int .i64 ah) ∧ w'.cell? ⟨w.heap.size, 1, none⟩ = some (.int .u64 al))
   (simp [go_sem, *])
   (first
    | (go_at_call 165; refine (unhide O2 _).mono ?_; rintro e w3 ⟨rfl, hg3⟩; obtain ⟨a3, b3⟩ := gat2 hg3 w.heap.size (.int .i64 ah) (.int .u64 al) (by constructor <;> simp [go_sem, *]); have hgw3 : Grown w w3 := gtrans (by exact Grown.drew hgw2) hg3)
    | (go_at_call 164; refine (unhide C2 _).mono ?_; rintro e w4 ⟨rfl, hg4⟩; obtain ⟨a4, b4⟩ := gat2 hg4 w.heap.size (.int .i64 ah) (.int .u64 al) (by constructor <;> simp [go_sem, *]); have hgw4 : Grown w w4 := gtrans hgw3 hg4))
  go_wp2
  go_ret2
  rw [unhide HF, unhide HB]
  exact ⟨rfl, hgw4⟩
 ·have HF := hide (show wrap64 al = fitI (val ah al) from by simp only [wrap64]; unfold fitI; rw [if_neg g1, if_neg g2]; unfold U64 at h2; unfold I64 at h1; unfold val at *; omega)
  have HB := hide (show fitB (val ah al) = false from by unfold fitB; simp; omega)
  obtain ⟨d, hd, hd1⟩ : ∃ d, cmpI (val ah al) (-9223372036854775807) = d ∧ 0 ≤ d := ⟨_, rfl, by unfold cmpI; split <;> (try split) <;> omega⟩
  rw [hd] at C2
  clear g1 g2 hd
  go_enter Tryz.func143, Tryz.ntmps143
  go_wp2
  go_region_held3 (fun w' => w'.cell? ⟨w.heap.size, 0, none⟩ = some (.int .i64 ah) ∧ w'.cell? ⟨w.heap.size, 1, none⟩ = some (.int .u64 al))
   (simp [go_sem, *])
   (first
    | (go_at_call 165; refine (unhide O1 _).mono ?_; rintro e w1 ⟨rfl, hg1⟩; obtain ⟨a1, b1⟩ := gat2 hg1 w.heap.size (.int .i64 ah) (.int .u64 al) (by constructor <;> simp [go_sem, *]); have hgw1 : Grown w w1 := gtrans (by exact Grown.drew ((Grown.refl _).alloc _ _)) hg1)
    | (go_at_call 164; refine (unhide C1 _).mono ?_; rintro e w2 ⟨rfl, hg2⟩; obtain ⟨a2, b2⟩ := gat2 hg2 w.heap.size (.int .i64 ah) (.int .u64 al) (by constructor <;> simp [go_sem, *]); have hgw2 : Grown w w2 := gtrans hgw1 hg2))
  go_wp2
  go_region_held3 (fun w' => w'.cell? ⟨w.heap.size, 0, none⟩ = some (.int .i64 ah) ∧ w'.cell? ⟨w.heap.size, 1, none⟩ = some (.int .u64 al))
   (simp [go_sem, *])
   (first
    | (go_at_call 165; refine (unhide O2 _).mono ?_; rintro e w3 ⟨rfl, hg3⟩; obtain ⟨a3, b3⟩ := gat2 hg3 w.heap.size (.int .i64 ah) (.int .u64 al) (by constructor <;> simp [go_sem, *]); have hgw3 : Grown w w3 := gtrans (by exact Grown.drew hgw2) hg3)
    | (go_at_call 164; refine (unhide C2 _).mono ?_; rintro e w4 ⟨rfl, hg4⟩; obtain ⟨a4, b4⟩ := gat2 hg4 w.heap.size (.int .i64 ah) (.int .u64 al) (by constructor <;> simp [go_sem, *]); have hgw4 : Grown w w4 := gtrans hgw3 hg4))
  go_wp2
  go_ret2
  rw [← unhide HF, unhide HB]
  exact ⟨rfl, hgw4⟩
end Go.Proofs.YtjobgjcfkomhpaaGreat
namespace Go.Proofs.YtjobgjcfkomhpaaGreat
open Go.RowKit Go.Proofs.Wd
set_option maxRecDepth 10000
theorem hiOf_add (A B : Int) : hiOf (wrapW A + wrapW B) = hiOf (A + B) := by unfold hiOf wrapW; omega
theorem loOf_add (A B : Int) : loOf (wrapW A + wrapW B) = loOf (A + B) := by unfold loOf wrapW; omega
theorem addV (A B : Int) (w : World) :
  Calls Tryz.prog 137 #[.agg #[.int .i64 (hiOf A), .int .u64 (loOf A)], .agg #[.int .i64 (hiOf B), .int .u64 (loOf B)]] w fun e w' => e = .returned (.agg #[.int .i64 (hiOf (A + B)), .int .u64 (loOf (A + B))]) ∧ Grown w w' := by
 have q := wideAdd (hiOf A) (loOf A) (hiOf B) (loOf B) (hiOf_I64 _) (loOf_U64 _) (hiOf_I64 _) (loOf_U64 _) w
 rw [val_of, val_of, hiOf_add, loOf_add] at q
 exact q
theorem cmpV (A B : Int) (w : World) :
  Calls Tryz.prog 164 #[.agg #[.int .i64 (hiOf A), .int .u64 (loOf A)], .agg #[.int .i64 (hiOf B), .int .u64 (loOf B)]] w fun e w' => e = .returned (.int .i64 (cmpI (wrapW A) (wrapW B))) ∧ Grown w w' := by
 have q := wideCmp (hiOf A) (loOf A) (hiOf B) (loOf B) (hiOf_I64 _) (loOf_U64 _) (hiOf_I64 _) (loOf_U64 _) w
 rw [val_of, val_of] at q
 exact q
theorem fitV (A : Int) (w : World) :
  Calls Tryz.prog 143 #[.agg #[.int .i64 (hiOf A), .int .u64 (loOf A)]] w fun e w' => e = .returned (.tuple #[.int .i64 (fitI (wrapW A)), .bool (fitB (wrapW A))]) ∧ Grown w w' := by
 have q := wideFit (hiOf A) (loOf A) (hiOf_I64 _) (loOf_U64 _) w
 rw [val_of] at q
 exact q
theorem roundV (A n : Int) (h3 : 0 ≤ n) (h4 : n ≤ 127) (w : World) :
  Calls Tryz.prog 161 #[.agg #[.int .i64 (hiOf A), .int .u64 (loOf A)], .int .i64 n] w fun e w' => e = .returned (.tuple #[.agg #[.int .i64 (hiOf (rdiv (wrapW A) (2 ^ n.toNat))), .int .u64 (loOf (rdiv (wrapW A) (2 ^ n.toNat)))], .int .i64 0]) ∧ Grown w w' := by
 have q := wideRound (hiOf A) (loOf A) n (hiOf_I64 _) (loOf_U64 _) h3 h4 w
 rw [val_of] at q
 exact q
theorem with_gat2 {W w1 : World} {G : Prop} (h : Grown W w1) (b : Nat) (x y : Value) (h0 : W.cell? ⟨b, 0, none⟩ = some x) (h1 : W.cell? ⟨b, 1, none⟩ = some y) (k : w1.cell? ⟨b, 0, none⟩ = some x → w1.cell? ⟨b, 1, none⟩ = some y → G) : G := k (gat h h0) (gat h h1)
end Go.Proofs.YtjobgjcfkomhpaaGreat
namespace Go.Proofs.YtjobgjcfkomhpaaGreat
open Go.RowKit Go.Proofs.Wd
set_option maxRecDepth 10000
attribute [local go_sem ↓] Go.wp_at_zero Go.wp_at_succ
set_option maxHeartbeats 400000 in
theorem fixTake (a : Int) (h : I64 a) (w : World) :
  Calls Tryz.prog 159 #[.int .i64 a] w fun e w' => e = .returned (.tuple #[.agg #[.int .i64 (hiOf (tk a)), .int .u64 (loOf (tk a))], .bool (nb a)]) ∧ Grown w w' := by
 by_cases hs : a = -9223372036854775808
 ·rw [show tk a = -9223372036854775807 from by unfold tk; rw [if_pos hs], show nb a = true from by unfold nb; simp [hs]]
  have O := hide (fun w => wideOf (-9223372036854775807) (by unfold I64; omega) w)
  go_enter Tryz.func159, Tryz.ntmps159
  go_wp2_with fail
  refine (unhide O _).mono ?_
  rintro e w1 ⟨rfl, hg⟩
  obtain ⟨d0, d1⟩ := gat2 hg w.heap.size (.int .i64 0) (.int .u64 0) (by constructor <;> simp [go_sem])
  have hgw : Grown w w1 := gtrans ((Grown.refl _).alloc _ _) hg
  have f1 := fun o => frz hgw w.heap.size o (by omega)
  go_wp2
  simp [bodyPost, results, Tryz.results159, go_sem, d0, d1]
  exact Grown.setCell (Grown.setCell hgw (by dsimp only; omega) _) (by dsimp only; omega) _
 ·rw [show tk a = a from by unfold tk; rw [if_neg hs], show nb a = false from by unfold nb; simp [hs]]
  have O := hide (fun w => wideOf a h w)
  go_enter Tryz.func159, Tryz.ntmps159
  go_wp2_with fail
  refine (unhide O _).mono ?_
  rintro e w1 ⟨rfl, hg⟩
  obtain ⟨d0, d1⟩ := gat2 hg w.heap.size (.int .i64 0) (.int .u64 0) (by constructor <;> simp [go_sem])
  have hgw : Grown w w1 := gtrans ((Grown.refl _).alloc _ _) hg
  have f1 := fun o => frz hgw w.heap.size o (by omega)
  go_wp2
  simp [bodyPost, results, Tryz.results159, go_sem, d0, d1]
  exact Grown.setCell (Grown.setCell hgw (by dsimp only; omega) _) (by dsimp only; omega) _
set_option maxHeartbeats 400000 in
theorem fixNarrow (a : Int) (h : I64 a) (w : World) :
  Calls Tryz.prog 142 #[.agg #[.int .i64 (hiOf a), .int .u64 (loOf a)]] w fun e w' => e = .returned (.int .i64 a) ∧ Grown w w' := by
 have e1 : wrap64 (loOf a) = a := by unfold I64 at h; simp only [wrap64]; unfold loOf; omega
 go_enter Tryz.func142, Tryz.ntmps142
 go_wp2
 go_ret
 rw [e1]
 exact ⟨rfl, (Grown.refl _).alloc _ _⟩
set_option maxHeartbeats 400000 in
theorem fixShifted (A n : Int) (h3 : 0 ≤ n) (h4 : n ≤ 127) (w : World) :
  Calls Tryz.prog 140 #[.agg #[.int .i64 (hiOf A), .int .u64 (loOf A)], .int .i64 n] w fun e w' => e = .returned (.agg #[.int .i64 (hiOf (rdiv (wrapW A) (2 ^ n.toNat))), .int .u64 (loOf (rdiv (wrapW A) (2 ^ n.toNat)))]) ∧ Grown w w' := by
 have R := hide (fun w => roundV A n h3 h4 w)
 generalize rdiv (wrapW A) (2 ^ n.toNat) = Q at *
 go_enter Tryz.func140, Tryz.ntmps140
 go_wp2_with fail
 refine (unhide R _).mono ?_
 rintro e w1 ⟨rfl, hg⟩
 obtain ⟨d0, d1⟩ := gat2 hg w.heap.size (.int .i64 (hiOf A)) (.int .u64 (loOf A)) (by constructor <;> simp [go_sem])
 obtain ⟨c0, c1⟩ := gat2 hg (w.heap.size + 1) (.int .i64 0) (.int .u64 0) (by constructor <;> simp [go_sem])
 have hgw : Grown w w1 := gtrans (((Grown.refl _).alloc _ _).alloc _ _) hg
 have f0 := fun o => frz hgw w.heap.size o (by omega)
 have f1 := fun o => frz hgw (w.heap.size + 1) o (by omega)
 go_wp2
 simp [bodyPost, results, Tryz.results140, go_sem, d0, d1, c0, c1]
 exact Grown.setCell (Grown.setCell (Grown.setCell (Grown.setCell hgw (by dsimp only; omega) _) (by dsimp only; omega) _) (by dsimp only; omega) _) (by dsimp only; omega) _
set_option maxHeartbeats 1000000 in
theorem fixReckon (a b R : Int) (F : Nat) (ha : I64 a) (hb : I64 b) (hR : wrapW R = R) (eF : ∀ args w, (callFunc F args).run Tryz.prog w = .ok (.enter F args) w)
  (O : Hid (∀ w, Calls Tryz.prog F #[.agg #[.int .i64 (hiOf (tk a)), .int .u64 (loOf (tk a))], .agg #[.int .i64 (hiOf (tk b)), .int .u64 (loOf (tk b))]] w fun e w' => e = .returned (.agg #[.int .i64 (hiOf R), .int .u64 (loOf R)]) ∧ Grown w w')) (w : World) :
  Calls Tryz.prog 136 #[.int .i64 a, .int .i64 b, .func (.func F) #[] #[]] w fun e w' => e = .returned (.tuple #[.int .i64 (fitI R), .bool (cutB R a b)]) ∧ Grown w w' := by
 have T1 := hide (fun w => fixTake a ha w)
 have T2 := hide (fun w => fixTake b hb w)
 have K := hide (fun w => fitV R w)
 rw [hR] at K
 unfold cutB
 clear hR ha hb
 generalize tk a = x at *
 generalize tk b = y at *
 generalize nb a = p at *
 generalize nb b = q at *
 generalize fitI R = u at *
 generalize fitB R = v at *
 go_enter Tryz.func136, Tryz.ntmps136
 go_wp2_with fail
 refine (unhide T1 _).mono ?_
 rintro e w1 ⟨rfl, hg1⟩
 go_wp2_with fail
 refine (unhide T2 _).mono ?_
 rintro e w2 ⟨rfl, hg2⟩
 obtain ⟨a0, a1⟩ := gat2 hg2 w1.heap.size (.int .i64 (hiOf x)) (.int .u64 (loOf x)) (by constructor <;> simp [go_sem, *])
 have z1 := heap_gt a0
 have g2 : Grown w w2 := gtrans (hg1.alloc _ _) hg2
 clear hg1 hg2
 go_wp2_with fail
 refine (unhide O _).mono ?_
 rintro e w3 ⟨rfl, hg3⟩
 go_wp2_with fail
 refine (unhide K _).mono ?_
 rintro e w4 ⟨rfl, hg4⟩
 have g4 : Grown w w4 := gtrans (g2.alloc _ _) (gtrans hg3 hg4)
 clear g2 hg3 hg4 a0 a1
 cases v <;> cases p <;> cases q <;> (go_wp2; go_ret2; exact ⟨rfl, g4⟩)
end Go.Proofs.YtjobgjcfkomhpaaGreat
namespace Go.Proofs.YtjobgjcfkomhpaaGreat
open Go.RowKit Go.Proofs.Wd
open Go.Lib (run_index_len8tab)
set_option maxRecDepth 10000
def LenIs (y n : Int) : Prop := 1 ≤ n ∧ n ≤ 64 ∧ 2 ^ (n - 1).toNat ≤ y ∧ y < 2 ^ n.toNat
theorem len8_is : ∀ n : Fin 256, 0 < n.val → (1 ≤ Lib.len8 (n.val : Int) ∧ Lib.len8 (n.val : Int) ≤ 8 ∧ (2 : Int) ^ (Lib.len8 (n.val : Int) - 1).toNat ≤ n.val ∧ (n.val : Int) < 2 ^ (Lib.len8 (n.val : Int)).toNat) := by decide +kernel
theorem len8_of (b : Int) (h0 : 0 < b) (h1 : b ≤ 255) : 1 ≤ Lib.len8 b ∧ Lib.len8 b ≤ 8 ∧ 2 ^ (Lib.len8 b - 1).toNat ≤ b ∧ b < 2 ^ (Lib.len8 b).toNat := by
 have h := len8_is ⟨b.toNat, by omega⟩ (by simp; omega)
 simp only [Int.toNat_of_nonneg (Int.le_of_lt h0)] at h
 exact h
theorem len_up (y k n : Int) (hk : 0 ≤ k) (h1 : 1 ≤ n) (h2 : n + k ≤ 64) (ha : 2 ^ (n - 1).toNat ≤ y / 2 ^ k.toNat) (hb : y / 2 ^ k.toNat < 2 ^ n.toNat) : LenIs y (k + n) := by
 have hK : (0 : Int) < 2 ^ k.toNat := Int.pow_pos (by decide)
 refine ⟨by omega, by omega, ?_, ?_⟩
 ·rw [show (k + n - 1).toNat = (n - 1).toNat + k.toNat from by omega, Int.pow_add]
  exact (Int.le_ediv_iff_mul_le hK).1 ha
 ·rw [show (k + n).toNat = n.toNat + k.toNat from by omega, Int.pow_add]
  exact (Int.ediv_lt_iff_lt_mul hK).1 hb
set_option maxHeartbeats 1000000 in
set_option maxRecDepth 100000 in
theorem len64 (y : Int) (hy : 0 < y) (hy' : y < 18446744073709551616) (w : World) :
  Calls Tryz.prog 192 #[.int .u64 y] w fun e w' => ∃ n, e = .returned (.int .i64 n) ∧ LenIs y n ∧ w' = w := by
 by_cases c1 : 4294967296 ≤ y
 ·by_cases c2 : 65536 ≤ y / 4294967296
  ·by_cases c3 : 256 ≤ y / 4294967296 / 65536
   ·obtain ⟨b1, b2, b3, b4⟩ := len8_of (y / 4294967296 / 65536 / 256) (by omega) (by omega)
    have IX := fun w => run_index_len8tab w 9 .u8 (y / 4294967296 / 65536 / 256) Tryz.underlying9 (by omega) (by omega)
    have HL : Hid (LenIs y (56 + Lib.len8 (y / 4294967296 / 65536 / 256))) := by
     have q := len_up y 56 (Lib.len8 (y / 4294967296 / 65536 / 256)) (by omega) b1 (by omega) (by rw [show y / 2 ^ (56 : Int).toNat = y / 4294967296 / 65536 / 256 from by rw [show (2 : Int) ^ (56 : Int).toNat = 72057594037927936 from by decide] <;> omega]; exact b3) (by rw [show y / 2 ^ (56 : Int).toNat = y / 4294967296 / 65536 / 256 from by rw [show (2 : Int) ^ (56 : Int).toNat = 72057594037927936 from by decide] <;> omega]; exact b4)
     exact hide q
    clear b3 b4
    go_enter Tryz.func192, Tryz.ntmps192
    go_wp2
    go_ret
    exact ⟨_, rfl, unhide HL, rfl⟩
   ·obtain ⟨b1, b2, b3, b4⟩ := len8_of (y / 4294967296 / 65536) (by omega) (by omega)
    have IX := fun w => run_index_len8tab w 9 .u8 (y / 4294967296 / 65536) Tryz.underlying9 (by omega) (by omega)
    have HL : Hid (LenIs y (48 + Lib.len8 (y / 4294967296 / 65536))) := by
     have q := len_up y 48 (Lib.len8 (y / 4294967296 / 65536)) (by omega) b1 (by omega) (by rw [show y / 2 ^ (48 : Int).toNat = y / 4294967296 / 65536 from by rw [show (2 : Int) ^ (48 : Int).toNat = 281474976710656 from by decide] <;> omega]; exact b3) (by rw [show y / 2 ^ (48 : Int).toNat = y / 4294967296 / 65536 from by rw [show (2 : Int) ^ (48 : Int).toNat = 281474976710656 from by decide] <;> omega]; exact b4)
     exact hide q
    clear b3 b4
    go_enter Tryz.func192, Tryz.ntmps192
    go_wp2
    go_ret
    exact ⟨_, rfl, unhide HL, rfl⟩
  ·by_cases c3 : 256 ≤ y / 4294967296
   ·obtain ⟨b1, b2, b3, b4⟩ := len8_of (y / 4294967296 / 256) (by omega) (by omega)
    have IX := fun w => run_index_len8tab w 9 .u8 (y / 4294967296 / 256) Tryz.underlying9 (by omega) (by omega)
    have HL : Hid (LenIs y (40 + Lib.len8 (y / 4294967296 / 256))) := by
     have q := len_up y 40 (Lib.len8 (y / 4294967296 / 256)) (by omega) b1 (by omega) (by rw [show y / 2 ^ (40 : Int).toNat = y / 4294967296 / 256 from by rw [show (2 : Int) ^ (40 : Int).toNat = 1099511627776 from by decide] <;> omega]; exact b3) (by rw [show y / 2 ^ (40 : Int).toNat = y / 4294967296 / 256 from by rw [show (2 : Int) ^ (40 : Int).toNat = 1099511627776 from by decide] <;> omega]; exact b4)
     exact hide q
    clear b3 b4
    go_enter Tryz.func192, Tryz.ntmps192
    go_wp2
    go_ret
    exact ⟨_, rfl, unhide HL, rfl⟩
   ·obtain ⟨b1, b2, b3, b4⟩ := len8_of (y / 4294967296) (by omega) (by omega)
    have IX := fun w => run_index_len8tab w 9 .u8 (y / 4294967296) Tryz.underlying9 (by omega) (by omega)
    have HL : Hid (LenIs y (32 + Lib.len8 (y / 4294967296))) := by
     have q := len_up y 32 (Lib.len8 (y / 4294967296)) (by omega) b1 (by omega) (by rw [show y / 2 ^ (32 : Int).toNat = y / 4294967296 from by rw [show (2 : Int) ^ (32 : Int).toNat = 4294967296 from by decide] <;> omega]; exact b3) (by rw [show y / 2 ^ (32 : Int).toNat = y / 4294967296 from by rw [show (2 : Int) ^ (32 : Int).toNat = 4294967296 from by decide] <;> omega]; exact b4)
     exact hide q
    clear b3 b4
    go_enter Tryz.func192, Tryz.ntmps192
    go_wp2
    go_ret
    exact ⟨_, rfl, unhide HL, rfl⟩
 ·by_cases c2 : 65536 ≤ y
  ·by_cases c3 : 256 ≤ y / 65536
   ·obtain ⟨b1, b2, b3, b4⟩ := len8_of (y / 65536 / 256) (by omega) (by omega)
    have IX := fun w => run_index_len8tab w 9 .u8 (y / 65536 / 256) Tryz.underlying9 (by omega) (by omega)
    have HL : Hid (LenIs y (24 + Lib.len8 (y / 65536 / 256))) := by
     have q := len_up y 24 (Lib.len8 (y / 65536 / 256)) (by omega) b1 (by omega) (by rw [show y / 2 ^ (24 : Int).toNat = y / 65536 / 256 from by rw [show (2 : Int) ^ (24 : Int).toNat = 16777216 from by decide] <;> omega]; exact b3) (by rw [show y / 2 ^ (24 : Int).toNat = y / 65536 / 256 from by rw [show (2 : Int) ^ (24 : Int).toNat = 16777216 from by decide] <;> omega]; exact b4)
     exact hide q
    clear b3 b4
    go_enter Tryz.func192, Tryz.ntmps192
    go_wp2
    go_ret
    exact ⟨_, rfl, unhide HL, rfl⟩
   ·obtain ⟨b1, b2, b3, b4⟩ := len8_of (y / 65536) (by omega) (by omega)
    have IX := fun w => run_index_len8tab w 9 .u8 (y / 65536) Tryz.underlying9 (by omega) (by omega)
    have HL : Hid (LenIs y (16 + Lib.len8 (y / 65536))) := by
     have q := len_up y 16 (Lib.len8 (y / 65536)) (by omega) b1 (by omega) (by rw [show y / 2 ^ (16 : Int).toNat = y / 65536 from by rw [show (2 : Int) ^ (16 : Int).toNat = 65536 from by decide] <;> omega]; exact b3) (by rw [show y / 2 ^ (16 : Int).toNat = y / 65536 from by rw [show (2 : Int) ^ (16 : Int).toNat = 65536 from by decide] <;> omega]; exact b4)
     exact hide q
    clear b3 b4
    go_enter Tryz.func192, Tryz.ntmps192
    go_wp2
    go_ret
    exact ⟨_, rfl, unhide HL, rfl⟩
  ·by_cases c3 : 256 ≤ y
   ·obtain ⟨b1, b2, b3, b4⟩ := len8_of (y / 256) (by omega) (by omega)
    have IX := fun w => run_index_len8tab w 9 .u8 (y / 256) Tryz.underlying9 (by omega) (by omega)
    have HL : Hid (LenIs y (8 + Lib.len8 (y / 256))) := by
     have q := len_up y 8 (Lib.len8 (y / 256)) (by omega) b1 (by omega) (by rw [show y / 2 ^ (8 : Int).toNat = y / 256 from by rw [show (2 : Int) ^ (8 : Int).toNat = 256 from by decide] <;> omega]; exact b3) (by rw [show y / 2 ^ (8 : Int).toNat = y / 256 from by rw [show (2 : Int) ^ (8 : Int).toNat = 256 from by decide] <;> omega]; exact b4)
     exact hide q
    clear b3 b4
    go_enter Tryz.func192, Tryz.ntmps192
    go_wp2
    go_ret
    exact ⟨_, rfl, unhide HL, rfl⟩
   ·obtain ⟨b1, b2, b3, b4⟩ := len8_of (y) (by omega) (by omega)
    have IX := fun w => run_index_len8tab w 9 .u8 (y) Tryz.underlying9 (by omega) (by omega)
    have HL : Hid (LenIs y (Lib.len8 (y))) := by
     have q := len_up y 0 (Lib.len8 (y)) (by omega) b1 (by omega) (by rw [show y / 2 ^ (0 : Int).toNat = y from by rw [show (2 : Int) ^ (0 : Int).toNat = 1 from by decide] <;> omega]; exact b3) (by rw [show y / 2 ^ (0 : Int).toNat = y from by rw [show (2 : Int) ^ (0 : Int).toNat = 1 from by decide] <;> omega]; exact b4)
     rw [Int.zero_add] at q; exact hide q
    clear b3 b4
    go_enter Tryz.func192, Tryz.ntmps192
    go_wp2
    go_ret
    exact ⟨_, rfl, unhide HL, rfl⟩
set_option maxHeartbeats 400000 in
theorem lead64 (y : Int) (hy : 0 < y) (hy' : y < 18446744073709551616) (w : World) :
  Calls Tryz.prog 191 #[.int .u64 y] w fun e w' => ∃ s, e = .returned (.int .i64 s) ∧ (0 ≤ s ∧ s ≤ 63 ∧ 9223372036854775808 ≤ y * 2 ^ s.toNat ∧ y * 2 ^ s.toNat < 18446744073709551616) ∧ w' = w := by
 go_enter Tryz.func191, Tryz.ntmps191
 go_wp2_with fail
 refine (len64 y hy hy' _).mono ?_
 rintro e w1 ⟨n, rfl, hn, rfl⟩
 obtain ⟨n1, n2, n3, n4⟩ := hn
 have HN := hide (And.intro n3 n4)
 clear n3 n4
 go_wp2
 go_ret
 refine ⟨64 - n, rfl, ⟨by omega, by omega, ?_, ?_⟩, rfl⟩
 ·have p : (2 : Int) ^ (n - 1).toNat * 2 ^ (64 - n).toNat = 9223372036854775808 := by rw [← Int.pow_add, show (n - 1).toNat + (64 - n).toNat = 63 from by omega]; decide
  rw [← p]
  exact Int.mul_le_mul_of_nonneg_right (unhide HN).1 (Int.le_of_lt (Int.pow_pos (by decide)))
 ·have p : (2 : Int) ^ n.toNat * 2 ^ (64 - n).toNat = 18446744073709551616 := by rw [← Int.pow_add, show n.toNat + (64 - n).toNat = 64 from by omega]; decide
  rw [← p]
  exact Int.mul_lt_mul_of_pos_right (unhide HN).2 (Int.pow_pos (by decide))
end Go.Proofs.YtjobgjcfkomhpaaGreat
namespace Go.Proofs.Wd
theorem guess (u v y1 y0 q r : Int) (hr : r = u - q * y1) :
  (4294967296 * r + v < q * y0 ↔ u * 4294967296 + v < q * (y1 * 4294967296 + y0)) := by
 subst hr
 constructor <;> intro h <;> grind
theorem digit (U yn q : Int) (hy : 0 < yn) (h1 : U / yn ≤ q) (h2 : q * yn ≤ U) : q = U / yn := by
 have := (Int.le_ediv_iff_mul_le hy).2 h2
 omega
theorem too_great (U yn q : Int) (hy : 0 < yn) (h : U < q * yn) : U / yn ≤ q - 1 := by
 have := (Int.ediv_lt_iff_lt_mul hy).2 h
 omega
theorem digit_lt (u v yn : Int) (hy : 0 < yn) (hu : u < yn) (hv : v < 4294967296) : (u * 4294967296 + v) / yn < 4294967296 := by
 refine (Int.ediv_lt_iff_lt_mul hy).2 ?_
 have : (u + 1) * 4294967296 ≤ yn * 4294967296 := Int.mul_le_mul_of_nonneg_right (by omega) (by decide)
 rw [Int.mul_comm 4294967296 yn]
 omega
theorem first_guess (u v y1 y0 : Int) (h1 : 2147483648 ≤ y1) (h0 : 0 ≤ y0) (h0' : y0 < 4294967296) (hu0 : 0 ≤ u) (hu : u < y1 * 4294967296 + y0) (hv : 0 ≤ v) (hv' : v < 4294967296) :
  (u * 4294967296 + v) / (y1 * 4294967296 + y0) ≤ u / y1 ∧ u / y1 ≤ 4294967297 ∧ 0 ≤ u - u / y1 * y1 ∧ u - u / y1 * y1 < y1 := by
 have e1 := Int.emod_add_mul_ediv u y1
 have e2 := Int.emod_nonneg u (by omega : y1 ≠ 0)
 have e3 := Int.emod_lt_of_pos u (by omega : 0 < y1)
 have e4 : u / y1 * y1 = y1 * (u / y1) := Int.mul_comm _ _
 refine ⟨?_, ?_, by omega, by omega⟩
 ·have hlt : (u * 4294967296 + v) / (y1 * 4294967296 + y0) < u / y1 + 1 := by
   refine (Int.ediv_lt_iff_lt_mul (by omega)).2 ?_
   have hq : 0 ≤ u / y1 := Int.ediv_nonneg hu0 (by omega)
   have a : u + 1 ≤ (u / y1 + 1) * y1 := by rw [Int.add_mul]; omega
   have b : (u + 1) * 4294967296 ≤ (u / y1 + 1) * y1 * 4294967296 := Int.mul_le_mul_of_nonneg_right a (by decide)
   have c : 0 ≤ (u / y1 + 1) * y0 := Int.mul_nonneg (by omega) h0
   have d : (u / y1 + 1) * (y1 * 4294967296 + y0) = (u / y1 + 1) * y1 * 4294967296 + (u / y1 + 1) * y0 := by grind
   omega
  omega
 ·have : u / y1 < 4294967298 := by
   refine (Int.ediv_lt_iff_lt_mul (by omega)).2 ?_
   omega
  omega
theorem rest_great (u v y1 y0 q r : Int) (hr : r = u - q * y1) (h : 4294967296 ≤ r) (hq0 : 0 ≤ q) (hq : q ≤ 4294967296) (h0 : 0 ≤ y0) (h0' : y0 < 4294967296) (hv : 0 ≤ v) :
  q * (y1 * 4294967296 + y0) ≤ u * 4294967296 + v := by
 have a : q * y0 ≤ 4294967296 * y0 := Int.mul_le_mul_of_nonneg_right hq h0
 have b : q * (y1 * 4294967296 + y0) = q * y1 * 4294967296 + q * y0 := by grind
 omega
theorem knuth (M y S yn u v1 v0 : Int) (hy : 0 < y) (hS : 0 < S) (hyn : yn = y * S) (hN : M * S = (u * 4294967296 + v1) * 4294967296 + v0) (hv0 : 0 ≤ v0) (hv0' : v0 < 4294967296) :
  (u * 4294967296 + v1) / yn * 4294967296 + ((u * 4294967296 + v1) % yn * 4294967296 + v0) / yn = M / y ∧ ((u * 4294967296 + v1) % yn * 4294967296 + v0) % yn / S = M % y := by
 have hyp : 0 < yn := by rw [hyn]; exact Int.mul_pos hy hS
 generalize hU : u * 4294967296 + v1 = U at *
 have e1 := Int.emod_add_mul_ediv U yn
 have e2 := Int.emod_nonneg U (by omega : yn ≠ 0)
 have e3 := Int.emod_lt_of_pos U hyp
 generalize U / yn = Q1 at *
 generalize U % yn = R1 at *
 have f1 := Int.emod_add_mul_ediv (R1 * 4294967296 + v0) yn
 have f2 := Int.emod_nonneg (R1 * 4294967296 + v0) (by omega : yn ≠ 0)
 have f3 := Int.emod_lt_of_pos (R1 * 4294967296 + v0) hyp
 generalize (R1 * 4294967296 + v0) / yn = Q0 at *
 generalize (R1 * 4294967296 + v0) % yn = R0 at *
 have g1 := Int.emod_add_mul_ediv M y
 have g2 := Int.emod_nonneg M (by omega : y ≠ 0)
 have g3 := Int.emod_lt_of_pos M hy
 generalize M / y = q at *
 generalize M % y = r at *
 have a1 : M * S = R0 + yn * (Q1 * 4294967296 + Q0) := by rw [hN, ← e1]; grind
 have a2 : M * S = r * S + yn * q := by rw [hyn, ← g1]; grind
 have b1 := du hyp a1.symm f2 f3
 have b2 := du hyp a2.symm (Int.mul_nonneg g2 (by omega)) (by rw [hyn]; exact Int.mul_lt_mul_of_pos_right g3 hS)
 refine ⟨by omega, ?_⟩
 have c : R0 = r * S := by omega
 rw [c, Int.mul_ediv_cancel _ (by omega)]
theorem div_ready (h l y s S : Int) (hS : (2 : Int) ^ s.toNat = S) (h1 : 0 < h) (h2 : h < y) (s1 : 0 ≤ s) (s2 : s ≤ 63) (s3 : 9223372036854775808 ≤ y * S) (s4 : y * S < 18446744073709551616) (hl0 : 0 ≤ l) (hl1 : l < 18446744073709551616) :
  0 < S ∧ 0 ≤ h * S ∧ h * S < 18446744073709551616 ∧
  bits .or .u64 (h * S) (l / 2 ^ (64 - s).toNat) = h * S + l / 2 ^ (64 - s).toNat ∧ 0 ≤ h * S + l / 2 ^ (64 - s).toNat ∧ h * S + l / 2 ^ (64 - s).toNat < y * S ∧
  (h * 18446744073709551616 + l) * S = (h * S + l / 2 ^ (64 - s).toNat) * 18446744073709551616 + l * S % 18446744073709551616 := by
 have hm := pow2_mul s.toNat (64 - s).toNat (by omega)
 have hK := pow2_pos s.toNat
 have hK' := pow2_pos (64 - s).toNat
 rw [hS] at hm hK
 have hle : (h + 1) * S ≤ y * S := Int.mul_le_mul_of_nonneg_right (by omega) (by omega)
 have hle2 : (h + 1) * S = h * S + S := by rw [Int.add_mul, Int.one_mul]
 have h0 : 0 ≤ h * S := Int.mul_nonneg (by omega) (by omega)
 have hx0 : 0 ≤ l / 2 ^ (64 - s).toNat := dv0 _ _ hK' hl0
 have hx1 : l / 2 ^ (64 - s).toNat < S := ltdiv _ _ _ hK' (by rw [Int.mul_comm, hm]; exact hl1)
 refine ⟨hK, h0, by omega, ?_, by omega, by omega, ?_⟩
 ·have q := (orU (l / 2 ^ (64 - s).toNat) h s.toNat hx0 (by rw [hS]; exact hx1) (by omega) (by rw [hS, Int.mul_comm]; omega)).2
  rw [hS, Int.mul_comm S h] at q
  rw [q]; omega
 ·have e1 := Int.emod_add_mul_ediv l (2 ^ (64 - s).toNat)
  have e2 := Int.emod_nonneg l (by omega : (2 : Int) ^ (64 - s).toNat ≠ 0)
  have e3 := Int.emod_lt_of_pos l hK'
  generalize (2 : Int) ^ (64 - s).toNat = K at *
  generalize l / K = a at *
  generalize l % K = b at *
  have e4 : l * S = b * S + 18446744073709551616 * a := by rw [← e1, ← hm]; grind
  have e5 : 0 ≤ b * S := Int.mul_nonneg e2 (by omega)
  have e6 : b * S < 18446744073709551616 := by rw [← hm, Int.mul_comm S K]; exact Int.mul_lt_mul_of_pos_right e3 hK
  have e7 : l * S % 18446744073709551616 = b * S := by rw [e4, Int.add_mul_emod_self_left, Int.emod_eq_of_lt e5 e6]
  rw [e7, Int.add_mul, Int.add_mul]
  have e8 : h * 18446744073709551616 * S = h * S * 18446744073709551616 := by grind
  omega
end Go.Proofs.Wd
namespace Go.Proofs.YtjobgjcfkomhpaaGreat
open Go.RowKit Go.Proofs.Wd
set_option maxRecDepth 10000
set_option maxHeartbeats 4000000 in
set_option maxRecDepth 100000 in
theorem div64_gen (h l y : Int) (h1 : 0 < h) (h2 : h < y) (h3 : y < 18446744073709551616) (h4 : U64 l) : DivSays h l y := by
 intro w
 unfold U64 at h4
 have hyh : decide (y ≤ h) = false := by simp; omega
 go_enter Tryz.func190, Tryz.ntmps190
 go_wp2_with fail
 refine (lead64 y (by omega) h3 _).mono ?_
 rintro e w1 ⟨s, rfl, ⟨s1, s2, s3, s4⟩, rfl⟩
 obtain ⟨S, hS⟩ : ∃ S, (2 : Int) ^ s.toNat = S := ⟨_, rfl⟩
 obtain ⟨Y, hY⟩ : ∃ Y, y * S = Y := ⟨_, rfl⟩
 rw [hS, hY] at s3 s4
 have rdy := div_ready h l y s S hS h1 h2 s1 s2 (by rw [hY]; exact s3) (by rw [hY]; exact s4) h4.1 h4.2
 rw [hY] at rdy
 obtain ⟨S0, H0, H1, ru, u0, u1, hN⟩ := rdy
 obtain ⟨HS, hHS⟩ : ∃ HS, h * S = HS := ⟨_, rfl⟩
 rw [hHS] at H0 H1 ru u0 u1 hN
 obtain ⟨u, hu⟩ : ∃ u, HS + l / 2 ^ (64 - s).toNat = u := ⟨_, rfl⟩
 rw [hu] at ru u0 u1 hN
 obtain ⟨t, ht⟩ : ∃ t, IntKind.u64.wrap (l * S) = t := ⟨_, rfl⟩
 have ht' : l * S % 18446744073709551616 = t := by rw [← ht, IntKind.wrap_u64]
 rw [ht'] at hN
 have t0 : 0 ≤ t := by omega
 have t1 : t < 18446744073709551616 := by omega
 have my := mask32 Y (by omega) s4
 have mt := mask32 t t0 t1
 obtain ⟨y1, hy1⟩ : ∃ y1, Y / 4294967296 = y1 := ⟨_, rfl⟩
 obtain ⟨y0, hy0⟩ : ∃ y0, Y % 4294967296 = y0 := ⟨_, rfl⟩
 obtain ⟨v1, hv1⟩ : ∃ v1, t / 4294967296 = v1 := ⟨_, rfl⟩
 obtain ⟨v0, hv0⟩ : ∃ v0, t % 4294967296 = v0 := ⟨_, rfl⟩
 rw [hy0] at my
 rw [hv0] at mt
 have eY : Y = y1 * 4294967296 + y0 := by omega
 have bY1 : 2147483648 ≤ y1 := by omega
 have bY2 : y1 < 4294967296 := by omega
 have bY3 : 0 ≤ y0 := by omega
 have bY4 : y0 < 4294967296 := by omega
 have bv1 : 0 ≤ v1 := by omega
 have bv2 : v1 < 4294967296 := by omega
 have bv3 : 0 ≤ v0 := by omega
 have bv4 : v0 < 4294967296 := by omega
 have eN : (h * 18446744073709551616 + l) * S = (u * 4294967296 + v1) * 4294967296 + v0 := by rw [hN]; omega
 have fg := first_guess u v1 y1 y0 bY1 bY3 bY4 u0 (by omega) bv1 bv2
 rw [← eY] at fg
 obtain ⟨q, hq⟩ : ∃ q, u / y1 = q := ⟨_, rfl⟩
 rw [hq] at fg
 obtain ⟨p, hp⟩ : ∃ p, q * y1 = p := ⟨_, rfl⟩
 rw [hp] at fg
 obtain ⟨fg1, fg2, fg3, fg4⟩ := fg
 have kn := knuth (h * 18446744073709551616 + l) y S Y u v1 v0 (by omega) S0 hY.symm eN bv3 bv4
 have U0 : 0 ≤ (u * 4294967296 + v1) / Y := Int.ediv_nonneg (by omega) (by omega)
 have U1 := digit_lt u v1 Y (by omega) u1 bv2
 have HSS := hide hS
 have HY := hide eY; have HU := hide hu; have HN := hide eN; have HP := hide hp; have HQ := hide hq; have HK := hide kn; have HF := hide fg1; have HUU := hide U1; have HU0 := hide U0
 have q0 : 0 ≤ q := by omega
 have p0 : 0 ≤ p := by rw [← hp]; exact Int.mul_nonneg q0 (by omega)
 have p1 : p ≤ u := by omega
 clear eY hu eN hN kn fg1 ht' U0 U1 hy0 hv0
 obtain ⟨G, hG⟩ : ∃ G, (u * 4294967296 + v1) / Y = G := ⟨_, rfl⟩
 have HG := hide hG
 have G0 : 0 ≤ G := by rw [← hG]; exact unhide HU0
 have G1 : G < 4294967296 := by rw [← hG]; exact unhide HUU
 have G2 : G ≤ q := by rw [← hG]; exact unhide HF
 clear hG
 go_upto_block 0 with fail
 go_cut [15, 16] (fun s15 s16 wx => s15 = .int .u64 G ∧ wx = w1)
 case first =>
  clear hS hY hHS ru ht my mt hy1 hv1 hp hq
  go_wp2
  go_loop [15, 16] (fun a b => ∃ q r : Int, a = .int .u64 q ∧ b = .int .u64 r ∧ G ≤ q ∧ q ≤ 4294967297 ∧ Hid (r = u - q * y1) ∧ 0 ≤ r ∧ r < 4294967296) (fun a _ => (intOf a).toNat)
  case atStart => exact ⟨u / y1, u - p, rfl, rfl, by rw [unhide HQ]; exact G2, by rw [unhide HQ]; exact fg2, by rw [unhide HQ, unhide HP]; exact hide rfl, by omega, by omega⟩
  case round =>
   obtain ⟨q, r, rfl, rfl, i1, i2, i3, i4, i5⟩ := hrel
   by_cases c1 : 4294967296 ≤ q
   ·have i6 : G ≤ q - 1 := by omega
    have i7 : Hid (r + y1 = u - (q - 1) * y1) := by have := unhide i3; exact hide (by rw [this]; grind)
    by_cases c2 : 4294967296 ≤ r + y1
    ·have i8 : q - 1 = G := by
      have a := rest_great u v1 y1 y0 (q - 1) (r + y1) (unhide i7) c2 (by omega) (by omega) bY3 bY4 (by omega)
      rw [← unhide HY] at a
      rw [← unhide HG]; exact digit _ _ _ (by omega) (by rw [unhide HG]; exact i6) a
     have I8 := hide i8
     clear i8
     go_wp2
     go_meet
     exact ⟨by rw [unhide I8], rfl⟩
    ·go_wp2
     go_round
     case rel => exact ⟨q - 1, r + y1, rfl, rfl, i6, by omega, i7, by omega, by omega⟩
     case measure => simp [intOf]; omega
   ·have c1' : q < 4294967296 := by omega
    have q0 : 0 ≤ q := by omega
    have pq0 : 0 ≤ q * y0 := Int.mul_nonneg q0 bY3
    have pq1 : q * y0 ≤ q * 4294967296 := Int.mul_le_mul_of_nonneg_left (by omega) q0
    have gs := guess u v1 y1 y0 q r (unhide i3)
    rw [← unhide HY] at gs
    have qz : q = 0 → q * y0 = 0 := fun h => by rw [h]; simp
    by_cases c2 : 4294967296 * r + v1 < q * y0
    ·have i6 : G ≤ q - 1 := by rw [← unhide HG]; exact too_great _ _ _ (by omega) (gs.1 c2)
     have i7 : Hid (r + y1 = u - (q - 1) * y1) := by have := unhide i3; exact hide (by rw [this]; grind)
     have q1 : 1 ≤ q := by omega
     clear gs qz
     by_cases c3 : 4294967296 ≤ r + y1
     ·have i8 : q - 1 = G := by
       have a := rest_great u v1 y1 y0 (q - 1) (r + y1) (unhide i7) c3 (by omega) (by omega) bY3 bY4 (by omega)
       rw [← unhide HY] at a
       rw [← unhide HG]; exact digit _ _ _ (by omega) (by rw [unhide HG]; exact i6) a
      have I8 := hide i8
      clear i8
      go_wp2
      go_meet
      exact ⟨by rw [unhide I8], rfl⟩
     ·go_wp2
      go_round
      case rel => exact ⟨q - 1, r + y1, rfl, rfl, i6, by omega, i7, by omega, by omega⟩
      case measure => simp [intOf]; omega
    ·have i8 : q = G := by
      rw [← unhide HG]; exact digit _ _ _ (by omega) (by rw [unhide HG]; exact i1) (by have := gs.2; omega)
     have I8 := hide i8
     clear gs qz i8
     go_wp2
     go_meet
     exact ⟨by rw [unhide I8], rfl⟩
 case rest =>
 obtain ⟨rfl, rfl⟩ := hcut
 have e1 := Int.emod_add_mul_ediv (u * 4294967296 + v1) Y
 have R0 := Int.emod_nonneg (u * 4294967296 + v1) (by omega : Y ≠ 0)
 have R1 := Int.emod_lt_of_pos (u * 4294967296 + v1) (by omega : 0 < Y)
 rw [unhide HG] at e1
 obtain ⟨R, hR⟩ : ∃ R, (u * 4294967296 + v1) % Y = R := ⟨_, rfl⟩
 rw [hR] at e1 R0 R1
 have rr : IntKind.u64.wrap (IntKind.u64.wrap (IntKind.u64.wrap (u * 4294967296) + v1) - IntKind.u64.wrap (G * Y)) = R := by
  rw [Int.mul_comm Y G] at e1
  simp only [IntKind.wrap_u64]
  generalize G * Y = P at *
  omega
 have HR := hide hR
 have E1 := hide e1
 clear hR e1
 have gg := first_guess R v0 y1 y0 bY1 bY3 bY4 R0 (by rw [← unhide HY]; exact R1) bv3 bv4
 rw [← unhide HY] at gg
 obtain ⟨qq, hqq⟩ : ∃ qq, R / y1 = qq := ⟨_, rfl⟩
 rw [hqq] at gg
 obtain ⟨pp, hpp⟩ : ∃ pp, qq * y1 = pp := ⟨_, rfl⟩
 rw [hpp] at gg
 obtain ⟨gg1, gg2, gg3, gg4⟩ := gg
 obtain ⟨G2, hG2⟩ : ∃ G2, (R * 4294967296 + v0) / Y = G2 := ⟨_, rfl⟩
 have HG2 := hide hG2
 have G20 : 0 ≤ G2 := by rw [← hG2]; exact Int.ediv_nonneg (by omega) (by omega)
 have G21 : G2 < 4294967296 := by rw [← hG2]; exact digit_lt R v0 Y (by omega) R1 bv4
 have G22 : G2 ≤ qq := by rw [← hG2]; exact gg1
 have qq0 : 0 ≤ qq := by omega
 have pp0 : 0 ≤ pp := by rw [← hpp]; exact Int.mul_nonneg qq0 (by omega)
 have pp1 : pp ≤ R := by omega
 have HQ2 := hide hqq; have HP2 := hide hpp
 clear gg1 hG2 hS hY hHS ru ht my mt hy1 hv1 hp hq
 go_upto_block 2 with fail
 go_cut [18, 16] (fun s18 s16 wx => s18 = .int .u64 G2 ∧ wx = wc)
 case first =>
  clear rr hqq hpp
  go_wp2
  go_loop [18, 16] (fun a b => ∃ q r : Int, a = .int .u64 q ∧ b = .int .u64 r ∧ G2 ≤ q ∧ q ≤ 4294967297 ∧ Hid (r = R - q * y1) ∧ 0 ≤ r ∧ r < 4294967296) (fun a _ => (intOf a).toNat)
  case atStart => exact ⟨R / y1, R - pp, rfl, rfl, by rw [unhide HQ2]; exact G22, by rw [unhide HQ2]; exact gg2, by rw [unhide HQ2, unhide HP2]; exact hide rfl, by omega, by omega⟩
  case round =>
   obtain ⟨q, r, rfl, rfl, i1, i2, i3, i4, i5⟩ := hrel
   by_cases c1 : 4294967296 ≤ q
   ·have i6 : G2 ≤ q - 1 := by omega
    have i7 : Hid (r + y1 = R - (q - 1) * y1) := by have := unhide i3; exact hide (by rw [this]; grind)
    by_cases c2 : 4294967296 ≤ r + y1
    ·have i8 : q - 1 = G2 := by
      have a := rest_great R v0 y1 y0 (q - 1) (r + y1) (unhide i7) c2 (by omega) (by omega) bY3 bY4 (by omega)
      rw [← unhide HY] at a
      rw [← unhide HG2]; exact digit _ _ _ (by omega) (by rw [unhide HG2]; exact i6) a
     have I8 := hide i8
     clear i8
     go_wp2
     go_meet
     exact ⟨by rw [unhide I8], rfl⟩
    ·go_wp2
     go_round
     case rel => exact ⟨q - 1, r + y1, rfl, rfl, i6, by omega, i7, by omega, by omega⟩
     case measure => simp [intOf]; omega
   ·have c1' : q < 4294967296 := by omega
    have q0 : 0 ≤ q := by omega
    have pq0 : 0 ≤ q * y0 := Int.mul_nonneg q0 bY3
    have pq1 : q * y0 ≤ q * 4294967296 := Int.mul_le_mul_of_nonneg_left (by omega) q0
    have gs := guess R v0 y1 y0 q r (unhide i3)
    rw [← unhide HY] at gs
    have qz : q = 0 → q * y0 = 0 := fun h => by rw [h]; simp
    by_cases c2 : 4294967296 * r + v0 < q * y0
    ·have i6 : G2 ≤ q - 1 := by rw [← unhide HG2]; exact too_great _ _ _ (by omega) (gs.1 c2)
     have i7 : Hid (r + y1 = R - (q - 1) * y1) := by have := unhide i3; exact hide (by rw [this]; grind)
     have q1 : 1 ≤ q := by omega
     clear gs qz
     by_cases c3 : 4294967296 ≤ r + y1
     ·have i8 : q - 1 = G2 := by
       have a := rest_great R v0 y1 y0 (q - 1) (r + y1) (unhide i7) c3 (by omega) (by omega) bY3 bY4 (by omega)
       rw [← unhide HY] at a
       rw [← unhide HG2]; exact digit _ _ _ (by omega) (by rw [unhide HG2]; exact i6) a
      have I8 := hide i8
      clear i8
      go_wp2
      go_meet
      exact ⟨by rw [unhide I8], rfl⟩
     ·go_wp2
      go_round
      case rel => exact ⟨q - 1, r + y1, rfl, rfl, i6, by omega, i7, by omega, by omega⟩
      case measure => simp [intOf]; omega
    ·have i8 : q = G2 := by
      rw [← unhide HG2]; exact digit _ _ _ (by omega) (by rw [unhide HG2]; exact i1) (by have := gs.2; omega)
     have I8 := hide i8
     clear gs qz i8
     go_wp2
     go_meet
     exact ⟨by rw [unhide I8], rfl⟩
 case rest =>
 obtain ⟨rfl, rfl⟩ := hcut
 have kn := unhide HK
 rw [unhide HG, unhide HR, unhide HG2] at kn
 have e2 := Int.emod_add_mul_ediv (R * 4294967296 + v0) Y
 have R2a := Int.emod_nonneg (R * 4294967296 + v0) (by omega : Y ≠ 0)
 have R2b := Int.emod_lt_of_pos (R * 4294967296 + v0) (by omega : 0 < Y)
 rw [unhide HG2] at e2
 obtain ⟨RR, hRR⟩ : ∃ RR, (R * 4294967296 + v0) % Y = RR := ⟨_, rfl⟩
 rw [hRR] at e2 R2a R2b kn
 have fin : IntKind.u64.wrap (IntKind.u64.wrap (IntKind.u64.wrap (R * 4294967296) + v0) - IntKind.u64.wrap (G2 * Y)) / 2 ^ s.toNat = val h l % y := by
  have rr2 : IntKind.u64.wrap (IntKind.u64.wrap (IntKind.u64.wrap (R * 4294967296) + v0) - IntKind.u64.wrap (G2 * Y)) = RR := by
   rw [Int.mul_comm Y G2] at e2
   simp only [IntKind.wrap_u64]
   generalize G2 * Y = P at *
   omega
  rw [rr2, unhide HSS]; exact kn.2
 have FIN := hide fin; have FQ := hide (show G * 4294967296 + G2 = val h l / y from kn.1)
 clear fin kn e2 hRR rr hqq hpp
 go_wp2
 go_ret2
 exact ⟨by rw [← unhide FIN, ← unhide FQ]; rfl, Grown.refl _⟩
theorem div64_all (h l y : Int) (h1 : 0 ≤ h) (h2 : h < y) (h3 : U64 y) (h4 : U64 l) : DivSays h l y := by
 by_cases e : h = 0
 ·subst e; exact div64_says0 l y h4 h3 h2
 ·exact div64_gen h l y (by omega) h2 h3.2 h4
end Go.Proofs.YtjobgjcfkomhpaaGreat
namespace Go.Proofs.YtjobgjcfkomhpaaGreat
open Go.RowKit Go.Proofs.Wd
set_option maxRecDepth 10000
attribute [local go_sem ↓] Go.wp_at_zero Go.wp_at_succ
set_option maxRecDepth 10000 in
set_option maxHeartbeats 2000000 in
theorem fixMul1 (A B : Int) (hA : Fx A) (hB : Fx B) (w : World) :
  Calls Tryz.prog 139 #[.agg #[.int .i64 (hiOf A), .int .u64 (loOf A)], .agg #[.int .i64 (hiOf B), .int .u64 (loOf B)]] w fun e w' => e = .returned (.agg #[.int .i64 (hiOf (rdiv (A * B) 4294967296)), .int .u64 (loOf (rdiv (A * B) 4294967296))]) ∧ Grown w w' := by
 have N1 := hide (fun w => fixNarrow A (Fx_I64 hA) w)
 have N2 := hide (fun w => fixNarrow B (Fx_I64 hB) w)
 have M1 := hide (fun w => wideMul A B (Fx_I64 hA) (Fx_I64 hB) w)
 have S1 := hide (fun w => fixShifted (A * B) 32 (by omega) (by omega) w)
 rw [wrapW_prod A B hA hB, show (2 : Int) ^ (32 : Int).toNat = 4294967296 from by decide] at S1
 clear hA hB
 generalize A * B = C at *
 generalize rdiv C 4294967296 = D at *
 go_enter Tryz.func139, Tryz.ntmps139
 go_wp2
 go_region_held3 (fun w' => (w'.cell? ⟨w.heap.size, 0, none⟩ = some (.int .i64 (hiOf A)) ∧ w'.cell? ⟨w.heap.size, 1, none⟩ = some (.int .u64 (loOf A))) ∧ (w'.cell? ⟨w.heap.size + 1, 0, none⟩ = some (.int .i64 (hiOf B)) ∧ w'.cell? ⟨w.heap.size + 1, 1, none⟩ = some (.int .u64 (loOf B))))
  (simp [go_sem, *])
  (first
   | (go_at_call 142; refine (unhide N1 _).mono ?_; rintro e w1 ⟨rfl, hg1⟩; obtain ⟨a0, a1⟩ := gat2 hg1 w.heap.size (.int .i64 (hiOf A)) (.int .u64 (loOf A)) (by constructor <;> simp [go_sem, *]); obtain ⟨b0, b1⟩ := gat2 hg1 (w.heap.size + 1) (.int .i64 (hiOf B)) (.int .u64 (loOf B)) (by constructor <;> simp [go_sem, *]); obtain ⟨c0, c1⟩ := gat2 hg1 (w.heap.size + 1 + 1) (.int .i64 0) (.int .u64 0) (by constructor <;> simp [go_sem, *]); have k1 : Grown w w1 := gtrans (by exact Grown.drew ((((Grown.refl _).alloc _ _).alloc _ _).alloc _ _)) hg1)
   | (go_at_call 142; refine (unhide N2 _).mono ?_; rintro e w2 ⟨rfl, hg2⟩; obtain ⟨a20, a21⟩ := gat2 hg2 w.heap.size (.int .i64 (hiOf A)) (.int .u64 (loOf A)) (by constructor <;> simp [go_sem, *]); obtain ⟨b20, b21⟩ := gat2 hg2 (w.heap.size + 1) (.int .i64 (hiOf B)) (.int .u64 (loOf B)) (by constructor <;> simp [go_sem, *]); obtain ⟨c20, c21⟩ := gat2 hg2 (w.heap.size + 1 + 1) (.int .i64 0) (.int .u64 0) (by constructor <;> simp [go_sem, *]); have k2 : Grown w w2 := gtrans k1 hg2)
   | (go_at_call 141; refine (unhide M1 _).mono ?_; rintro e w3 ⟨rfl, hg3⟩; obtain ⟨a30, a31⟩ := gat2 hg3 w.heap.size (.int .i64 (hiOf A)) (.int .u64 (loOf A)) (by constructor <;> simp [go_sem, *]); obtain ⟨b30, b31⟩ := gat2 hg3 (w.heap.size + 1) (.int .i64 (hiOf B)) (.int .u64 (loOf B)) (by constructor <;> simp [go_sem, *]); obtain ⟨c30, c31⟩ := gat2 hg3 (w.heap.size + 1 + 1) (.int .i64 0) (.int .u64 0) (by constructor <;> simp [go_sem, *]); have k3 : Grown w w3 := gtrans k2 hg3)
   | (go_at_call 140; refine (unhide S1 _).mono ?_; rintro e w4 ⟨rfl, hg4⟩; obtain ⟨a40, a41⟩ := gat2 hg4 w.heap.size (.int .i64 (hiOf A)) (.int .u64 (loOf A)) (by constructor <;> simp [go_sem, *]); obtain ⟨b40, b41⟩ := gat2 hg4 (w.heap.size + 1) (.int .i64 (hiOf B)) (.int .u64 (loOf B)) (by constructor <;> simp [go_sem, *]); obtain ⟨c40, c41⟩ := gat2 hg4 (w.heap.size + 1 + 1) (.int .i64 0) (.int .u64 0) (by constructor <;> simp [go_sem, *]); have k4 : Grown w w4 := gtrans k3 hg4; have f4 := fun o => frz k4 (w.heap.size + 1 + 1) o (by omega)))
 go_wp2
 simp [bodyPost, results, Tryz.results139, go_sem, *]
 exact Grown.setCell (Grown.setCell k4 (by dsimp only; omega) _) (by dsimp only; omega) _
set_option maxHeartbeats 1000000 in
theorem fixFar (A : Int) (b : Nat) (hA : wrapW A = A) (w : World) (h0 : w.cell? ⟨b, 0, none⟩ = some (.int .i64 (hiOf A))) (h1 : w.cell? ⟨b, 1, none⟩ = some (.int .u64 (loOf A))) :
  Calls Tryz.prog 177 #[.pointer (some ⟨b, 0, none⟩)] w fun e w' => e = .returned (.agg #[.int .i64 (hiOf (quoR A 0)), .int .u64 (loOf (quoR A 0))]) ∧ Grown w w' := by
 have z := heap_gt h0
 have C1 := hide (fun w => cmpV A 0 w)
 rw [hA, show wrapW 0 = 0 from by decide, show hiOf 0 = 0 from by decide, show loOf 0 = 0 from by decide] at C1
 rcases (show A < 0 ∨ A = 0 ∨ 0 < A from by omega) with hs | hs | hs
 ·rw [show cmpI A 0 = -1 from by unfold cmpI; rw [if_pos hs]] at C1
  rw [show quoR A 0 = -18446744073709551616 from by unfold quoR; rw [if_pos rfl, if_pos hs], show hiOf (-18446744073709551616) = -1 from by decide, show loOf (-18446744073709551616) = 0 from by decide]
  clear hs hA
  go_enter Tryz.func177, Tryz.ntmps177
  go_wp2_with fail
  refine (unhide C1 _).mono ?_
  rintro e w1 ⟨rfl, hg⟩
  obtain ⟨d0, d1⟩ := gat2 hg w.heap.size (.int .i64 0) (.int .u64 0) (by constructor <;> simp [go_sem])
  have k : Grown w w1 := gtrans ((Grown.refl _).alloc _ _) hg
  have f := fun o => frz k w.heap.size o (by omega)
  go_wp2
  simp [bodyPost, results, Tryz.results177, go_sem, d0, d1]
  exact Grown.setCell (Grown.setCell k (by dsimp only; omega) _) (by dsimp only; omega) _
 ·subst hs
  rw [show cmpI 0 0 = 0 from by decide] at C1
  rw [show quoR 0 0 = 0 from by decide, show hiOf 0 = 0 from by decide, show loOf 0 = 0 from by decide]
  rw [show hiOf 0 = 0 from by decide] at h0
  rw [show loOf 0 = 0 from by decide] at h1
  clear hA
  go_enter Tryz.func177, Tryz.ntmps177
  go_wp2_with fail
  refine (unhide C1 _).mono ?_
  rintro e w1 ⟨rfl, hg⟩
  obtain ⟨d0, d1⟩ := gat2 hg w.heap.size (.int .i64 0) (.int .u64 0) (by constructor <;> simp [go_sem])
  have k : Grown w w1 := gtrans ((Grown.refl _).alloc _ _) hg
  have f := fun o => frz k w.heap.size o (by omega)
  go_wp2
  simp [bodyPost, results, Tryz.results177, go_sem, d0, d1]
  exact Grown.setCell (Grown.setCell k (by dsimp only; omega) _) (by dsimp only; omega) _
 ·rw [show cmpI A 0 = 1 from by unfold cmpI; rw [if_neg (by omega), if_neg (by omega)]] at C1
  rw [show quoR A 0 = 18446744073709551616 from by unfold quoR; rw [if_pos rfl, if_neg (by omega), if_pos hs], show hiOf (18446744073709551616) = 1 from by decide, show loOf (18446744073709551616) = 0 from by decide]
  clear hs hA
  go_enter Tryz.func177, Tryz.ntmps177
  go_wp2_with fail
  refine (unhide C1 _).mono ?_
  rintro e w1 ⟨rfl, hg⟩
  obtain ⟨d0, d1⟩ := gat2 hg w.heap.size (.int .i64 0) (.int .u64 0) (by constructor <;> simp [go_sem])
  have k : Grown w w1 := gtrans ((Grown.refl _).alloc _ _) hg
  have f := fun o => frz k w.heap.size o (by omega)
  go_wp2
  simp [bodyPost, results, Tryz.results177, go_sem, d0, d1]
  exact Grown.setCell (Grown.setCell k (by dsimp only; omega) _) (by dsimp only; omega) _
end Go.Proofs.YtjobgjcfkomhpaaGreat
namespace Go.Proofs.YtjobgjcfkomhpaaGreat
open Go.RowKit Go.Proofs.Wd
set_option maxRecDepth 10000
attribute [local go_sem ↓] Go.wp_at_zero Go.wp_at_succ
set_option maxHeartbeats 4000000 in
theorem fixOver_core (A B P Q er V : Int) (hE : (er = 0 ∧ Q = V) ∨ er = 2)
  (N1 : Hid (∀ w, Calls Tryz.prog 142 #[.agg #[.int .i64 (hiOf A), .int .u64 (loOf A)]] w fun e w' => e = .returned (.int .i64 A) ∧ Grown w w'))
  (N2 : Hid (∀ w, Calls Tryz.prog 142 #[.agg #[.int .i64 (hiOf B), .int .u64 (loOf B)]] w fun e w' => e = .returned (.int .i64 B) ∧ Grown w w'))
  (M1 : Hid (∀ w, Calls Tryz.prog 141 #[.int .i64 A, .int .i64 4294967296] w fun e w' => e = .returned (.agg #[.int .i64 (hiOf P), .int .u64 (loOf P)]) ∧ Grown w w'))
  (D1 : Hid (∀ w, Calls Tryz.prog 178 #[.agg #[.int .i64 (hiOf P), .int .u64 (loOf P)], .int .i64 B] w fun e w' => e = .returned (.tuple #[.agg #[.int .i64 (hiOf Q), .int .u64 (loOf Q)], .int .i64 er]) ∧ Grown w w'))
  (F1 : er = 2 → Hid (∀ (b : Nat) (w : World), w.cell? ⟨b, 0, none⟩ = some (.int .i64 (hiOf A)) → w.cell? ⟨b, 1, none⟩ = some (.int .u64 (loOf A)) → Calls Tryz.prog 177 #[.pointer (some ⟨b, 0, none⟩)] w fun e w' => e = .returned (.agg #[.int .i64 (hiOf V), .int .u64 (loOf V)]) ∧ Grown w w')) (w : World) :
  Calls Tryz.prog 168 #[.agg #[.int .i64 (hiOf A), .int .u64 (loOf A)], .agg #[.int .i64 (hiOf B), .int .u64 (loOf B)]] w fun e w' => e = .returned (.agg #[.int .i64 (hiOf V), .int .u64 (loOf V)]) ∧ Grown w w' := by
 have HE := hide hE
 have F2 := hide F1
 clear hE F1
 have hmf : ∀ (fn : Fn) (first cap : Array Value) (w : World), (Instr.makeFunc fn first cap).run Tryz.prog w = .ok (.func fn first cap) w := fun _ _ _ _ => rfl
 go_enter Tryz.func168, Tryz.ntmps168
 go_upto_region 2 with fail
 go_cut [6, 7] (fun s6 s7 wx => s7 = .int .i64 er ∧ ∃ g, s6 = .pointer (some ⟨g, 0, none⟩) ∧ (wx.cell? ⟨g, 0, none⟩ = some (.int .i64 (hiOf Q)) ∧ wx.cell? ⟨g, 1, none⟩ = some (.int .u64 (loOf Q))) ∧ (wx.cell? ⟨w.heap.size, 0, none⟩ = some (.int .i64 (hiOf A)) ∧ wx.cell? ⟨w.heap.size, 1, none⟩ = some (.int .u64 (loOf A))) ∧ (wx.cell? ⟨w.heap.size + 1 + 1, 0, none⟩ = some (.int .i64 0) ∧ wx.cell? ⟨w.heap.size + 1 + 1, 1, none⟩ = some (.int .u64 0)) ∧ Grown w wx)
 case first =>
  go_region_held3 (fun w' => (w'.cell? ⟨w.heap.size, 0, none⟩ = some (.int .i64 (hiOf A)) ∧ w'.cell? ⟨w.heap.size, 1, none⟩ = some (.int .u64 (loOf A))) ∧ (w'.cell? ⟨w.heap.size + 1, 0, none⟩ = some (.int .i64 (hiOf B)) ∧ w'.cell? ⟨w.heap.size + 1, 1, none⟩ = some (.int .u64 (loOf B))))
   (simp [go_sem, *])
   (first
    | (go_at_call 142; refine (unhide N1 _).mono ?_; rintro e w1 ⟨rfl, hg1⟩; obtain ⟨a10, a11⟩ := gat2 hg1 w.heap.size (.int .i64 (hiOf A)) (.int .u64 (loOf A)) (by constructor <;> simp [go_sem, *]); obtain ⟨b10, b11⟩ := gat2 hg1 (w.heap.size + 1) (.int .i64 (hiOf B)) (.int .u64 (loOf B)) (by constructor <;> simp [go_sem, *]); obtain ⟨c10, c11⟩ := gat2 hg1 (w.heap.size + 1 + 1) (.int .i64 0) (.int .u64 0) (by constructor <;> simp [go_sem, *]); have k1 : Grown w w1 := gtrans (by first | exact Grown.drew ((((Grown.refl _).alloc _ _).alloc _ _).alloc _ _) | exact Grown.alloc (Grown.drew ((((Grown.refl _).alloc _ _).alloc _ _).alloc _ _)) _ _ | exact Grown.drew (((((Grown.refl _).alloc _ _).alloc _ _).alloc _ _).alloc _ _)) hg1; have l1 := heap_gt c10; have n10 : w.heap.size < w1.heap.size := (by omega); have m10 : w1.heap.size ≠ w.heap.size := (by omega); have p10 : w.heap.size ≠ w1.heap.size := (by omega); have n11 : w.heap.size + 1 < w1.heap.size := (by omega); have m11 : w1.heap.size ≠ w.heap.size + 1 := (by omega); have p11 : w.heap.size + 1 ≠ w1.heap.size := (by omega); have n12 : w.heap.size + 1 + 1 < w1.heap.size := (by omega); have m12 : w1.heap.size ≠ w.heap.size + 1 + 1 := (by omega); have p12 : w.heap.size + 1 + 1 ≠ w1.heap.size := (by omega); (try (refine with_gat2 hg1 (w.heap.size + 1 + 1 + 1) (.int .i64 0) (.int .u64 0) ?_ ?_ ?_; (focus (first | assumption | (simp [go_sem]; done))); (focus (first | assumption | (simp [go_sem]; done))); intro y100 y101)))
    | (go_at_call 141; refine (unhide M1 _).mono ?_; rintro e w2 ⟨rfl, hg2⟩; obtain ⟨a20, a21⟩ := gat2 hg2 w.heap.size (.int .i64 (hiOf A)) (.int .u64 (loOf A)) (by constructor <;> simp [go_sem, *]); obtain ⟨b20, b21⟩ := gat2 hg2 (w.heap.size + 1) (.int .i64 (hiOf B)) (.int .u64 (loOf B)) (by constructor <;> simp [go_sem, *]); obtain ⟨c20, c21⟩ := gat2 hg2 (w.heap.size + 1 + 1) (.int .i64 0) (.int .u64 0) (by constructor <;> simp [go_sem, *]); have k2 : Grown w w2 := gtrans (by first | exact k1 | exact Grown.alloc k1 _ _) hg2; have l2 := heap_gt c20; have n20 : w.heap.size < w2.heap.size := (by omega); have m20 : w2.heap.size ≠ w.heap.size := (by omega); have p20 : w.heap.size ≠ w2.heap.size := (by omega); have n21 : w.heap.size + 1 < w2.heap.size := (by omega); have m21 : w2.heap.size ≠ w.heap.size + 1 := (by omega); have p21 : w.heap.size + 1 ≠ w2.heap.size := (by omega); have n22 : w.heap.size + 1 + 1 < w2.heap.size := (by omega); have m22 : w2.heap.size ≠ w.heap.size + 1 + 1 := (by omega); have p22 : w.heap.size + 1 + 1 ≠ w2.heap.size := (by omega); (try (refine with_gat2 hg2 (w.heap.size + 1 + 1 + 1) (.int .i64 0) (.int .u64 0) ?_ ?_ ?_; (focus (first | assumption | (simp [go_sem]; done))); (focus (first | assumption | (simp [go_sem]; done))); intro y200 y201)); (try (refine with_gat2 hg2 w1.heap.size (.int .i64 0) (.int .u64 0) ?_ ?_ ?_; (focus (first | assumption | (simp [go_sem]; done))); (focus (first | assumption | (simp [go_sem]; done))); intro y210 y211)))
    | (go_at_call 142; refine (unhide N2 _).mono ?_; rintro e w3 ⟨rfl, hg3⟩; obtain ⟨a30, a31⟩ := gat2 hg3 w.heap.size (.int .i64 (hiOf A)) (.int .u64 (loOf A)) (by constructor <;> simp [go_sem, *]); obtain ⟨b30, b31⟩ := gat2 hg3 (w.heap.size + 1) (.int .i64 (hiOf B)) (.int .u64 (loOf B)) (by constructor <;> simp [go_sem, *]); obtain ⟨c30, c31⟩ := gat2 hg3 (w.heap.size + 1 + 1) (.int .i64 0) (.int .u64 0) (by constructor <;> simp [go_sem, *]); have k3 : Grown w w3 := gtrans (by first | exact k2 | exact Grown.alloc k2 _ _) hg3; have l3 := heap_gt c30; have n30 : w.heap.size < w3.heap.size := (by omega); have m30 : w3.heap.size ≠ w.heap.size := (by omega); have p30 : w.heap.size ≠ w3.heap.size := (by omega); have n31 : w.heap.size + 1 < w3.heap.size := (by omega); have m31 : w3.heap.size ≠ w.heap.size + 1 := (by omega); have p31 : w.heap.size + 1 ≠ w3.heap.size := (by omega); have n32 : w.heap.size + 1 + 1 < w3.heap.size := (by omega); have m32 : w3.heap.size ≠ w.heap.size + 1 + 1 := (by omega); have p32 : w.heap.size + 1 + 1 ≠ w3.heap.size := (by omega); (try (refine with_gat2 hg3 (w.heap.size + 1 + 1 + 1) (.int .i64 0) (.int .u64 0) ?_ ?_ ?_; (focus (first | assumption | (simp [go_sem]; done))); (focus (first | assumption | (simp [go_sem]; done))); intro y300 y301)); (try (refine with_gat2 hg3 w1.heap.size (.int .i64 0) (.int .u64 0) ?_ ?_ ?_; (focus (first | assumption | (simp [go_sem]; done))); (focus (first | assumption | (simp [go_sem]; done))); intro y310 y311)); (try (refine with_gat2 hg3 w2.heap.size (.int .i64 0) (.int .u64 0) ?_ ?_ ?_; (focus (first | assumption | (simp [go_sem]; done))); (focus (first | assumption | (simp [go_sem]; done))); intro y320 y321)))
    | (go_at_call 178; refine (unhide D1 _).mono ?_; rintro e w4 ⟨rfl, hg4⟩; obtain ⟨a40, a41⟩ := gat2 hg4 w.heap.size (.int .i64 (hiOf A)) (.int .u64 (loOf A)) (by constructor <;> simp [go_sem, *]); obtain ⟨b40, b41⟩ := gat2 hg4 (w.heap.size + 1) (.int .i64 (hiOf B)) (.int .u64 (loOf B)) (by constructor <;> simp [go_sem, *]); obtain ⟨c40, c41⟩ := gat2 hg4 (w.heap.size + 1 + 1) (.int .i64 0) (.int .u64 0) (by constructor <;> simp [go_sem, *]); have k4 : Grown w w4 := gtrans (by first | exact k3 | exact Grown.alloc k3 _ _) hg4; have l4 := heap_gt c40; have n40 : w.heap.size < w4.heap.size := (by omega); have m40 : w4.heap.size ≠ w.heap.size := (by omega); have p40 : w.heap.size ≠ w4.heap.size := (by omega); have n41 : w.heap.size + 1 < w4.heap.size := (by omega); have m41 : w4.heap.size ≠ w.heap.size + 1 := (by omega); have p41 : w.heap.size + 1 ≠ w4.heap.size := (by omega); have n42 : w.heap.size + 1 + 1 < w4.heap.size := (by omega); have m42 : w4.heap.size ≠ w.heap.size + 1 + 1 := (by omega); have p42 : w.heap.size + 1 + 1 ≠ w4.heap.size := (by omega); (try (refine with_gat2 hg4 (w.heap.size + 1 + 1 + 1) (.int .i64 0) (.int .u64 0) ?_ ?_ ?_; (focus (first | assumption | (simp [go_sem]; done))); (focus (first | assumption | (simp [go_sem]; done))); intro y400 y401)); (try (refine with_gat2 hg4 w1.heap.size (.int .i64 0) (.int .u64 0) ?_ ?_ ?_; (focus (first | assumption | (simp [go_sem]; done))); (focus (first | assumption | (simp [go_sem]; done))); intro y410 y411)); (try (refine with_gat2 hg4 w2.heap.size (.int .i64 0) (.int .u64 0) ?_ ?_ ?_; (focus (first | assumption | (simp [go_sem]; done))); (focus (first | assumption | (simp [go_sem]; done))); intro y420 y421)); (try (refine with_gat2 hg4 w3.heap.size (.int .i64 0) (.int .u64 0) ?_ ?_ ?_; (focus (first | assumption | (simp [go_sem]; done))); (focus (first | assumption | (simp [go_sem]; done))); intro y430 y431)); have zz0 := fun o => frz k4 (w.heap.size + 1 + 1 + 1) o (by omega); have zz1 := fun o => frz k4 w1.heap.size o k1.2.2; have zz2 := fun o => frz k4 w2.heap.size o k2.2.2; have zz3 := fun o => frz k4 w3.heap.size o k3.2.2))
  all_goals go_wp2_with fail
  all_goals go_meet
  all_goals refine ⟨rfl, _, rfl, ⟨?_, ?_⟩, ⟨?_, ?_⟩, ⟨?_, ?_⟩, ?_⟩
  all_goals first | (simp [go_sem, *]; done) | exact Grown.alloc k4 _ _ | exact Grown.setCell (Grown.setCell k4 (by dsimp only; omega) _) (by dsimp only; omega) _ | exact Grown.setCell (Grown.setCell k4 k1.2.2 _) k1.2.2 _ | exact Grown.setCell (Grown.setCell k4 k2.2.2 _) k2.2.2 _ | exact Grown.setCell (Grown.setCell k4 k3.2.2 _) k3.2.2 _
 case rest =>
 obtain ⟨rfl, g, rfl, ⟨g0, g1⟩, ⟨a0, a1⟩, ⟨c0, c1⟩, k⟩ := hcut
 have f := fun o => frz k (w.heap.size + 1 + 1) o (by omega)
 rcases unhide HE with ⟨rfl, rfl⟩ | rfl
 ·go_wp2
  simp [bodyPost, results, Tryz.results168, go_sem, *]
  exact Grown.setCell (Grown.setCell k (by dsimp only; omega) _) (by dsimp only; omega) _
 ·have F3 := hide (unhide F2 rfl)
  clear F2 f
  go_wp2_with fail
  refine (unhide (unhide F3) _ _ a0 a1).mono ?_
  rintro e w1 ⟨rfl, hg⟩
  obtain ⟨d0, d1⟩ := gat2 hg _ _ _ ⟨c0, c1⟩
  have k1 : Grown w w1 := gtrans k hg
  have f := fun o => frz k1 (w.heap.size + 1 + 1) o (by omega)
  clear g0 g1 a0 a1 c0 c1 k hg
  go_wp2
  simp [bodyPost, results, Tryz.results168, go_sem, *]
  exact Grown.setCell (Grown.setCell k1 (by dsimp only; omega) _) (by dsimp only; omega) _
theorem fixOver (A B : Int) (hA : Fx A) (hB : Fx B) (w : World) :
  Calls Tryz.prog 168 #[.agg #[.int .i64 (hiOf A), .int .u64 (loOf A)], .agg #[.int .i64 (hiOf B), .int .u64 (loOf B)]] w fun e w' => e = .returned (.agg #[.int .i64 (hiOf (quoR A B)), .int .u64 (loOf (quoR A B))]) ∧ Grown w w' := by
 have hp : wrapW (A * 4294967296) = A * 4294967296 := wrapW_in _ (by unfold Fx at hA; omega)
 have M1 := hide (fun w => wideMul A 4294967296 (Fx_I64 hA) (by unfold I64; omega) w)
 by_cases hz : B = 0
 ·subst hz
  refine fixOver_core A 0 (A * 4294967296) 0 2 (quoR A 0) (Or.inr rfl) (hide fun w => fixNarrow A (Fx_I64 hA) w) (hide fun w => fixNarrow 0 (Fx_I64 hB) w) M1 (hide fun w => ?_) (fun _ => hide fun b w h0 h1 => fixFar A b (wrapW_in _ (by unfold Fx at hA; omega)) w h0 h1) w
  exact wideDiv_bad _ _ w
 ·have D := fun w => wideDiv (hiOf (A * 4294967296)) (loOf (A * 4294967296)) B (hiOf_I64 _) (loOf_U64 _) (Fx_I64 hB) hz (by
   have hn : 0 < absI B := by unfold absI; split <;> omega
   exact div64_all _ _ _ (Int.emod_nonneg _ (by omega)) (Int.emod_lt_of_pos _ hn) (absI_U64 B (Fx_I64 hB)) (loOf_U64 _)) w
  rw [val_of, hp] at D
  exact fixOver_core A B (A * 4294967296) (rdiv (A * 4294967296) B) 0 (quoR A B) (Or.inl ⟨rfl, by unfold quoR; rw [if_neg hz]⟩) (hide fun w => fixNarrow A (Fx_I64 hA) w) (hide fun w => fixNarrow B (Fx_I64 hB) w) M1 (hide D) (fun h => by omega) w
end Go.Proofs.YtjobgjcfkomhpaaGreat
namespace Go.Proofs.YtjobgjcfkomhpaaGreat
open Go.RowKit Go.Proofs.Wd
set_option maxRecDepth 10000
attribute [local go_sem ↓] Go.wp_at_zero Go.wp_at_succ
theorem in_wide (v : Int) (h : -39614081257132168796771975168 ≤ v ∧ v ≤ 39614081257132168796771975168) : wrapW v = v := wrapW_in _ (by omega)
set_option maxHeartbeats 400000 in
theorem fixAdd (a b : Int) (ha : I64 a) (hb : I64 b) (w : World) :
  Calls Tryz.prog 109 #[.int .i64 a, .int .i64 b] w fun e w' => e = .returned (.tuple #[.int .i64 (fitI (tk a + tk b)), .bool (cutB (tk a + tk b) a b)]) ∧ Grown w w' := by
 have h1 := tk_Fx a ha; have h2 := tk_Fx b hb
 have R := hide (fun w => fixReckon a b (tk a + tk b) 137 ha hb (in_wide _ (by unfold Fx at h1 h2; omega)) (enters_of Tryz.func137 (by kernel_rfl) rfl) (hide fun w => addV (tk a) (tk b) w) w)
 clear h1 h2 ha hb
 generalize fitI (tk a + tk b) = u at *
 generalize cutB (tk a + tk b) a b = v at *
 go_enter Tryz.func109, Tryz.ntmps109
 go_wp2_with fail
 refine (unhide R _).mono ?_
 rintro e w1 ⟨rfl, hg⟩
 go_wp2
 go_ret2
 exact ⟨rfl, hg⟩
set_option maxHeartbeats 400000 in
theorem fixMul (a b : Int) (ha : I64 a) (hb : I64 b) (w : World) :
  Calls Tryz.prog 112 #[.int .i64 a, .int .i64 b] w fun e w' => e = .returned (.tuple #[.int .i64 (fitI (rdiv (tk a * tk b) 4294967296)), .bool (cutB (rdiv (tk a * tk b) 4294967296) a b)]) ∧ Grown w w' := by
 have h1 := tk_Fx a ha; have h2 := tk_Fx b hb
 have h0 := prod_range _ _ h1 h2
 have h3 := rdiv_abs (tk a * tk b) 4294967296 85070591730234615847396907784232501249 (by omega) h0
 have R := hide (fun w => fixReckon a b (rdiv (tk a * tk b) 4294967296) 139 ha hb (wrapW_in _ (by omega)) (enters_of Tryz.func139 (by kernel_rfl) rfl) (hide fun w => fixMul1 (tk a) (tk b) h1 h2 w) w)
 clear h0 h1 h2 h3 ha hb
 generalize fitI (rdiv (tk a * tk b) 4294967296) = u at *
 generalize cutB (rdiv (tk a * tk b) 4294967296) a b = v at *
 go_enter Tryz.func112, Tryz.ntmps112
 go_wp2_with fail
 refine (unhide R _).mono ?_
 rintro e w1 ⟨rfl, hg⟩
 go_wp2
 go_ret2
 exact ⟨rfl, hg⟩
set_option maxHeartbeats 400000 in
theorem fixDiv (a b : Int) (ha : I64 a) (hb : I64 b) (w : World) :
  Calls Tryz.prog 156 #[.int .i64 a, .int .i64 b] w fun e w' => e = .returned (.tuple #[.int .i64 (fitI (quoR (tk a) (tk b))), .bool (cutB (quoR (tk a) (tk b)) a b || decide (b = 0))]) ∧ Grown w w' := by
 have h1 := tk_Fx a ha; have h2 := tk_Fx b hb
 have h3 := quoR_range (tk a) (tk b) h1
 have O := hide (fun w => fixOver (tk a) (tk b) h1 h2 w)
 obtain ⟨q, hq⟩ : ∃ q, quoR (tk a) (tk b) = q := ⟨_, rfl⟩
 rw [hq] at h3 O ⊢
 have R := hide (fun w => fixReckon a b q 168 ha hb (wrapW_in _ h3) (enters_of Tryz.func168 (by kernel_rfl) rfl) O w)
 clear h1 h2 h3 ha hb O hq
 obtain ⟨u, hu⟩ : ∃ u, fitI q = u := ⟨_, rfl⟩
 obtain ⟨v, hv⟩ : ∃ v, cutB q a b = v := ⟨_, rfl⟩
 rw [hu, hv] at R ⊢
 clear hu hv
 by_cases hz : b = 0
 ·subst hz
  go_enter Tryz.func156, Tryz.ntmps156
  go_wp2_with fail
  refine (unhide R _).mono ?_
  rintro e w1 ⟨rfl, hg⟩
  cases v <;> (go_wp2; go_ret2; exact ⟨rfl, hg⟩)
 ·go_enter Tryz.func156, Tryz.ntmps156
  go_wp2_with fail
  refine (unhide R _).mono ?_
  rintro e w1 ⟨rfl, hg⟩
  cases v <;> (go_wp2; go_ret2; exact ⟨by simp [hz], hg⟩)
set_option maxHeartbeats 400000 in
theorem fixWhole (n : Int) (hn : I64 n) (w : World) :
  Calls Tryz.prog 113 #[.int .i64 n] w fun e w' => e = .returned (.tuple #[.int .i64 (fitI (n * 4294967296)), .bool (fitB (n * 4294967296))]) ∧ Grown w w' := by
 have M := hide (fun w => wideMul n 4294967296 hn (by unfold I64; omega) w)
 have K := hide (fun w => fitV (n * 4294967296) w)
 rw [in_wide (n * 4294967296) (by unfold I64 at hn; omega)] at K
 go_enter Tryz.func113, Tryz.ntmps113
 go_wp2_with fail
 refine (unhide M _).mono ?_
 rintro e w1 ⟨rfl, hg1⟩
 go_wp2_with fail
 refine (unhide K _).mono ?_
 rintro e w2 ⟨rfl, hg2⟩
 go_wp2
 go_ret2
 exact ⟨rfl, gtrans hg1 hg2⟩
end Go.Proofs.YtjobgjcfkomhpaaGreat
namespace Go.Proofs.YtjobgjcfkomhpaaGreat
open Go.RowKit Go.Proofs.Wd
set_option maxRecDepth 10000
def UC (U : Nat) (c : Bool) (n : Int) (w : World) : Prop := Blk U #[.bool c, .bool true, .int .i64 n] 46 w
theorem UC.c0 {U : Nat} {c : Bool} {n : Int} {w : World} (h : UC U c n w) : w.cell? ⟨U, 0, none⟩ = some (.bool c) := Blk.cell h 0
theorem UC.c1 {U : Nat} {c : Bool} {n : Int} {w : World} (h : UC U c n w) : w.cell? ⟨U, 1, none⟩ = some (.bool true) := Blk.cell h 1
theorem UC.c2 {U : Nat} {c : Bool} {n : Int} {w : World} (h : UC U c n w) : w.cell? ⟨U, 2, none⟩ = some (.int .i64 n) := Blk.cell h 2
theorem UC.set0 {U : Nat} {c : Bool} {n : Int} {w : World} (h : UC U c n w) (d : Bool) : UC U d n (w.setCell ⟨U, 0, none⟩ (.bool d)) := Blk.set h 0 _
theorem UC.set2 {U : Nat} {c : Bool} {n : Int} {w : World} (h : UC U c n w) (m : Int) : UC U c m (w.setCell ⟨U, 2, none⟩ (.int .i64 m)) := Blk.set h 2 _
set_option maxHeartbeats 400000 in
theorem unitNew (w : World) : Calls Tryz.prog 8 #[] w fun e w' => e = .returned (.pointer (some ⟨w.heap.size, 0, none⟩)) ∧ UC w.heap.size false 0 w' ∧ Grown w w' := by
 go_enter Tryz.func8, Tryz.ntmps8
 go_wp2
 go_ret
 exact ⟨rfl, heap_alloc_new w _, (Grown.refl _).alloc _ _⟩
set_option maxHeartbeats 400000 in
theorem unitCut (U : Nat) (c : Bool) (n : Int) (w : World) (h : UC U c n w) : Calls Tryz.prog 20 #[.pointer (some ⟨U, 0, none⟩)] w fun e w' => e = .returned (.bool c) ∧ w' = w := by
 have h0 := h.c0
 go_enter Tryz.func20, Tryz.ntmps20
 go_wp2
 go_ret
 exact ⟨rfl, rfl⟩
set_option maxHeartbeats 400000 in
theorem unitSet (U : Nat) (c d : Bool) (n : Int) (w : World) (h : UC U c n w) : Calls Tryz.prog 138 #[.pointer (some ⟨U, 0, none⟩), .bool d] w fun e w' => e = .returned (.tuple #[]) ∧ UC U (c || d) n w' ∧ Mod U w w' := by
 have h0 := h.c0
 have hf := h.free 0
 have H := hide h
 clear h
 cases d
 ·go_enter Tryz.func138, Tryz.ntmps138
  go_wp2
  exact bodyPost_end (v := .tuple #[]) (by simp [results, Tryz.results138, go_sem]) rfl ⟨rfl, by rw [Bool.or_false]; exact unhide H, Mod.refl _ _⟩
 ·go_enter Tryz.func138, Tryz.ntmps138
  go_wp2
  exact bodyPost_end (v := .tuple #[]) (by simp [results, Tryz.results138, go_sem]) rfl ⟨rfl, by rw [Bool.or_true]; exact (unhide H).set0 _, (Mod.refl _ _).setCell _ _⟩
set_option maxHeartbeats 400000 in
theorem unitIs (U : Nat) (c : Bool) (n : Int) (w : World) (h : UC U c n w) : Calls Tryz.prog 110 #[.pointer (some ⟨U, 0, none⟩)] w fun e w' => e = .returned (.bool false) ∧ w' = w := by
 have h1 := h.c1
 clear h
 go_enter Tryz.func110, Tryz.ntmps110
 go_wp2
 go_ret
 exact ⟨rfl, rfl⟩
set_option maxHeartbeats 400000 in
theorem unitNote (U : Nat) (c d : Bool) (n x : Int) (hn : 0 ≤ n ∧ n < 4611686018427387904) (w : World) (h : UC U c n w) : Calls Tryz.prog 111 #[.pointer (some ⟨U, 0, none⟩), .int .i64 x, .bool d] w fun e w' => e = .returned (.int .i64 x) ∧ UC U (c || d) (n + 1) w' ∧ Mod U w w' := by
 have H := hide h
 clear h
 obtain ⟨n0, n1⟩ := hn
 go_enter Tryz.func111, Tryz.ntmps111
 go_wp2_with fail
 refine (unitIs U c n w (unhide H)).mono ?_
 rintro e w1 ⟨rfl, rfl⟩
 go_wp2_with fail
 refine (unitSet U c d n w1 (unhide H)).mono ?_
 rintro e w2 ⟨rfl, h2, m2⟩
 have k2 := h2.c2
 have f2 := h2.free 2
 have H2 := hide h2
 have M2 := hide m2
 clear h2 m2
 go_wp2
 go_ret
 exact ⟨rfl, (unhide H2).set2 _, (unhide M2).setCell _ _⟩
set_option maxHeartbeats 1000000 in
theorem unitThrough (U : Nat) (c : Bool) (n s : Int) (f : Int → Int → Int) (g : Int → Int → Bool) (F : Nat) (eF : ∀ args w, (callFunc F args).run Tryz.prog w = .ok (.enter F args) w)
  (C : Hid (∀ a b w, I64 a → I64 b → Calls Tryz.prog F #[.int .i64 a, .int .i64 b] w fun e w' => e = .returned (.tuple #[.int .i64 (f a b), .bool (g a b)]) ∧ Grown w w'))
  (hf : Hid (∀ a b, I64 (f a b))) (hs : Hid (I64 s)) (ao : Option Addr) (len cap : Nat) (Z : Nat → Int) (hn : 0 ≤ n ∧ n < 2305843009213693952) (hl : len ≤ 1000000) (hZ : Hid (∀ i, i < len → I64 (Z i))) (w : World) (h : UC U c n w) (hr : Row w ao len Z) (ho : Off U len ao) :
  Calls Tryz.prog 108 #[.pointer (some ⟨U, 0, none⟩), .int .i64 s, .func (.func F) #[] #[], .slice ao len cap] w fun e w' =>
   e = .returned (.int .i64 (thN f s Z len)) ∧ UC U (c || thC f g s Z len) (n + len) w' ∧ Mod U w w' := by
 have H := hide h
 have HR := hide hr
 have HO := hide ho
 clear h hr ho
 obtain ⟨n0, n1⟩ := hn
 go_enter Tryz.func108, Tryz.ntmps108
 go_wp2_with fail
 refine (unitIs U c n w (unhide H)).mono ?_
 rintro e w1 ⟨rfl, rfl⟩
 go_wp2_with fail
 go_loopw [1, 15] (fun t i wr => ∃ k : Nat, k ≤ len ∧ i = .int .i64 k ∧ t = .int .i64 (thN f s Z k) ∧ Hid (UC U (c || thC f g s Z k) (n + k) wr ∧ Mod U w1 wr)) (fun _ i _ => len - (intOf i).toNat)
 case atStart => exact ⟨0, Nat.zero_le _, rfl, rfl, by show UC _ (c || false) (n + 0) _ ∧ _; rw [Bool.or_false, Int.add_zero]; exact ⟨unhide H, Mod.refl _ _⟩⟩
 case round =>
  obtain ⟨k, hk, rfl, rfl, HU⟩ := hrel
  by_cases hlt : k < len
  ·obtain ⟨b, o, rfl, hc⟩ := ((unhide HR).mod (unhide HU).2 (unhide HO)).at hlt
   go_wp2_with fail
   refine (unhide C _ _ _ (thN_I64 f (unhide hf) s (unhide hs) Z k) (unhide hZ k hlt)).mono ?_
   rintro e w2 ⟨rfl, h2⟩
   go_wp2_with fail
   refine (unitNote U _ _ _ _ ⟨by omega, by omega⟩ _ (Blk.grown (unhide HU).1 h2)).mono ?_
   rintro e w3 ⟨rfl, h3, m3⟩
   have R : Hid (UC U (c || thC f g s Z (k + 1)) (n + ((k + 1 : Nat) : Int)) w3 ∧ Mod U w1 w3) := by
    refine ⟨?_, (unhide HU).2.trans ((Mod.of h2).trans m3)⟩
    show UC U (c || (thC f g s Z k || g (thN f s Z k) (Z k))) _ _
    rw [← Bool.or_assoc, show n + ((k + 1 : Nat) : Int) = n + k + 1 by omega]
    exact h3
   clear h3 m3 h2 hc
   go_wp2
   go_roundw
   case rel => exact ⟨k + 1, by omega, by go_num, rfl, R⟩
   case measure => simp [intOf]; omega
  ·obtain rfl : k = len := by omega
   go_wp2
   go_ret
   exact ⟨rfl, (unhide HU).1, (unhide HU).2⟩
end Go.Proofs.YtjobgjcfkomhpaaGreat
namespace Go.Proofs.YtjobgjcfkomhpaaGreat
open Go.RowKit Go.Proofs.Wd
set_option maxRecDepth 10000
attribute [local go_sem ↓] Go.wp_at_zero Go.wp_at_succ
set_option maxHeartbeats 1000000 in
theorem unitAdd (U : Nat) (c : Bool) (n : Int) (ao : Option Addr) (len cap : Nat) (Z : Nat → Int) (hn : 0 ≤ n ∧ n < 2305843009213693952) (hl : len ≤ 1000000) (hZ : ∀ i, i < len → I64 (Z i)) (w : World) (h : UC U c n w) (hr : Row w ao len Z) (ho : Off U len ao) :
  Calls Tryz.prog 71 #[.pointer (some ⟨U, 0, none⟩), .slice ao len cap] w fun e w' =>
   e = .returned (.int .i64 (thN addN 0 Z len)) ∧ UC U (c || thC addN addC 0 Z len) (n + len) w' ∧ Mod U w w' := by
 have T := hide (unitThrough U c n 0 addN addC 109 (enters_of Tryz.func109 (by kernel_rfl) rfl) (fun a b w ha hb => fixAdd a b ha hb w) addN_I64 (by unfold Hid I64; omega) ao len cap Z hn hl hZ w h hr ho)
 clear hn hl hZ h hr ho
 go_enter Tryz.func71, Tryz.ntmps71
 go_wp2_with fail
 refine (unhide T).mono ?_
 rintro e w1 ⟨rfl, h1⟩
 have H1 := hide h1
 clear h1
 go_wp2
 go_ret
 exact ⟨rfl, unhide H1⟩
set_option maxHeartbeats 1000000 in
theorem unitMul (U : Nat) (c : Bool) (n : Int) (ao : Option Addr) (len cap : Nat) (Z : Nat → Int) (hn : 0 ≤ n ∧ n < 2305843009213693952) (hl : len ≤ 1000000) (hZ : ∀ i, i < len → I64 (Z i)) (w : World) (h : UC U c n w) (hr : Row w ao len Z) (ho : Off U len ao) :
  Calls Tryz.prog 73 #[.pointer (some ⟨U, 0, none⟩), .slice ao len cap] w fun e w' =>
   e = .returned (.int .i64 (thN mulN 4294967296 Z len)) ∧ UC U (c || thC mulN mulC 4294967296 Z len) (n + len) w' ∧ Mod U w w' := by
 have T := hide (unitThrough U c n 4294967296 mulN mulC 112 (enters_of Tryz.func112 (by kernel_rfl) rfl) (fun a b w ha hb => fixMul a b ha hb w) mulN_I64 (by unfold Hid I64; omega) ao len cap Z hn hl hZ w h hr ho)
 clear hn hl hZ h hr ho
 go_enter Tryz.func73, Tryz.ntmps73
 go_wp2_with fail
 refine (unhide T).mono ?_
 rintro e w1 ⟨rfl, h1⟩
 have H1 := hide h1
 clear h1
 go_wp2
 go_ret
 exact ⟨rfl, unhide H1⟩
set_option maxHeartbeats 1000000 in
theorem unitDiv (U : Nat) (c : Bool) (n a b : Int) (ha : I64 a) (hb : I64 b) (hn : 0 ≤ n ∧ n < 2305843009213693952) (w : World) (h : UC U c n w) :
  Calls Tryz.prog 125 #[.pointer (some ⟨U, 0, none⟩), .int .i64 a, .int .i64 b] w fun e w' =>
   e = .returned (.int .i64 (divN a b)) ∧ UC U (c || divC a b) (n + 1) w' ∧ Mod U w w' := by
 have X : Hid (Calls Tryz.prog 156 #[.int .i64 a, .int .i64 b] w fun e w' => e = .returned (.tuple #[.int .i64 (divN a b), .bool (divC a b)]) ∧ Grown w w') := fixDiv a b ha hb w
 generalize divN a b = r at *
 generalize divC a b = d at *
 have H := hide h
 have HN := hide hn
 clear h hn ha hb
 go_enter Tryz.func125, Tryz.ntmps125
 go_wp2_with fail
 refine (unhide X).mono ?_
 rintro e w1 ⟨rfl, h1⟩
 go_wp2_with fail
 refine (unitNote U c _ n _ ⟨(unhide HN).1, by have := (unhide HN).2; omega⟩ w1 (Blk.grown (unhide H) h1)).mono ?_
 rintro e w2 ⟨rfl, h2, m2⟩
 have H2 : Hid (UC U (c || d) (n + 1) w2 ∧ Mod U w w2) := ⟨h2, (Mod.of h1).trans m2⟩
 clear h1 h2 m2
 go_wp2
 go_ret
 exact ⟨rfl, unhide H2⟩
set_option maxHeartbeats 1000000 in
theorem unitWhole (U : Nat) (c : Bool) (n a : Int) (ha : I64 a) (hn : 0 ≤ n ∧ n < 2305843009213693952) (w : World) (h : UC U c n w) :
  Calls Tryz.prog 74 #[.pointer (some ⟨U, 0, none⟩), .int .i64 a] w fun e w' =>
   e = .returned (.int .i64 (whoN a)) ∧ UC U (c || whoC a) (n + 1) w' ∧ Mod U w w' := by
 have X : Hid (Calls Tryz.prog 113 #[.int .i64 a] w fun e w' => e = .returned (.tuple #[.int .i64 (whoN a), .bool (whoC a)]) ∧ Grown w w') := fixWhole a ha w
 generalize whoN a = r at *
 generalize whoC a = d at *
 have H := hide h
 have HN := hide hn
 clear h hn ha
 go_enter Tryz.func74, Tryz.ntmps74
 go_wp2_with fail
 refine (unhide X).mono ?_
 rintro e w1 ⟨rfl, h1⟩
 go_wp2_with fail
 refine (unitNote U c _ n _ ⟨(unhide HN).1, by have := (unhide HN).2; omega⟩ w1 (Blk.grown (unhide H) h1)).mono ?_
 rintro e w2 ⟨rfl, h2, m2⟩
 have H2 : Hid (UC U (c || d) (n + 1) w2 ∧ Mod U w w2) := ⟨h2, (Mod.of h1).trans m2⟩
 clear h1 h2 m2
 go_wp2
 go_ret
 exact ⟨rfl, unhide H2⟩
set_option maxHeartbeats 2000000 in
theorem unitDot_ok (U : Nat) (c : Bool) (n : Int) (ao bo : Option Addr) (len c1 c2 : Nat) (X Y : Nat → Int) (hn : 0 ≤ n ∧ n < 2305843009213693952) (hl : len ≤ 1000000) (hX : Hid (∀ i, i < len → I64 (X i))) (hY : Hid (∀ i, i < len → I64 (Y i))) (w : World) (h : UC U c n w)
  (hr : Row w ao len X) (ho : Off U len ao) (ht : Row w bo len Y) (hp : Off U len bo) :
  Calls Tryz.prog 72 #[.pointer (some ⟨U, 0, none⟩), .slice ao len c1, .slice bo len c2] w fun e w' =>
   e = .returned (.tuple #[.int .i64 (dotN X Y len), .int .i64 0]) ∧ UC U (c || dotC X Y len) (n + 2 * len) w' ∧ Mod U w w' := by
 have H := hide h
 have HR := hide hr
 have HO := hide ho
 have HT := hide ht
 have HP := hide hp
 clear h hr ho ht hp
 obtain ⟨n0, n1⟩ := hn
 go_enter Tryz.func72, Tryz.ntmps72
 go_wp2_with fail
 refine (unitIs U c n w (unhide H)).mono ?_
 rintro e w1 ⟨rfl, rfl⟩
 go_wp2_with fail
 go_loopw [8, 21] (fun t i wr => ∃ k : Nat, k ≤ len ∧ i = .int .i64 k ∧ t = .int .i64 (dotN X Y k) ∧ Hid (UC U (c || dotC X Y k) (n + 2 * k) wr ∧ Mod U w1 wr)) (fun _ i _ => len - (intOf i).toNat)
 case atStart => exact ⟨0, Nat.zero_le _, rfl, rfl, by show UC _ (c || false) (n + 0) _ ∧ _; rw [Bool.or_false, Int.add_zero]; exact ⟨unhide H, Mod.refl _ _⟩⟩
 case round =>
  obtain ⟨k, hk, rfl, rfl, HU⟩ := hrel
  by_cases hlt : k < len
  ·obtain ⟨b1, o1, rfl, hc1⟩ := ((unhide HR).mod (unhide HU).2 (unhide HO)).at hlt
   obtain ⟨b2, o2, rfl, hc2⟩ := ((unhide HT).mod (unhide HU).2 (unhide HP)).at hlt
   have M1 := hide (fun w => fixMul (X k) (Y k) (unhide hX k hlt) (unhide hY k hlt) w)
   have A1 := hide (fun w => fixAdd (dotN X Y k) (mulN (X k) (Y k)) (dotN_I64 X Y k) (mulN_I64 _ _) w)
   have bu1 : b1 ≠ U := unhide HO (by omega) _ rfl
   have bu2 : b2 ≠ U := unhide HP (by omega) _ rfl
   have BU := hide (And.intro bu1 bu2)
   clear bu1 bu2
   have i0 : (0 : Int) ≤ (k : Int) := by omega
   have i1 : (k : Int) < (len : Int) := by omega
   have E1 : Hid (dotN X Y (k + 1) = addN (dotN X Y k) (mulN (X k) (Y k))) := rfl
   have E2 : Hid (dotC X Y (k + 1) = (dotC X Y k || mulC (X k) (Y k) || addC (dotN X Y k) (mulN (X k) (Y k)))) := rfl
   change Hid (∀ w, Calls Tryz.prog 112 #[.int .i64 (X k), .int .i64 (Y k)] w fun e w' => e = .returned (.tuple #[.int .i64 (mulN (X k) (Y k)), .bool (mulC (X k) (Y k))]) ∧ Grown w w') at M1
   change Hid (∀ w, Calls Tryz.prog 109 #[.int .i64 (dotN X Y k), .int .i64 (mulN (X k) (Y k))] w fun e w' => e = .returned (.tuple #[.int .i64 (addN (dotN X Y k) (mulN (X k) (Y k))), .bool (addC (dotN X Y k) (mulN (X k) (Y k)))]) ∧ Grown w w') at A1
   generalize mulN (X k) (Y k) = p at *
   generalize mulC (X k) (Y k) = pc at *
   generalize X k = x at *
   generalize Y k = y at *
   generalize dotN X Y k = s at *
   generalize addN s p = q at *
   generalize addC s p = qc at *
   generalize dotC X Y k = dk at *
   go_wp2
   go_region_held3 (fun w' => w'.cell? ⟨b1, o1 + k, none⟩ = some (.int .i64 x) ∧ w'.cell? ⟨b2, o2 + k, none⟩ = some (.int .i64 y))
    (simp [go_sem, *])
    (first
     | (go_at_call 112; refine (unhide M1 _).mono ?_; rintro e w2 ⟨rfl, h2⟩; have c21 := gat h2 hc1; have c22 := gat h2 hc2; have u2 : Hid (UC U (c || dk) (n + 2 * k) w2 ∧ Mod U w1 w2) := ⟨Blk.grown (unhide HU).1 h2, (unhide HU).2.trans (Mod.of h2)⟩; clear h2)
     | (go_at_call 109; refine (unhide A1 _).mono ?_; rintro e w4 ⟨rfl, h4⟩; have c41 := gat h4 c31; have c42 := gat h4 c32; have u4 : Hid (UC U (c || dk || pc) (n + 2 * k + 1) w4 ∧ Mod U w1 w4) := ⟨Blk.grown (unhide u3).1 h4, (unhide u3).2.trans (Mod.of h4)⟩; clear h4)
     | (go_at_call_of 111 p; refine (unitNote U _ _ _ _ ⟨(by omega), (by omega)⟩ _ (unhide u2).1).mono ?_; rintro e w3 ⟨rfl, h3, m3⟩; have c31 := m3.cell c21 (unhide BU).1; have c32 := m3.cell c22 (unhide BU).2; have u3 : Hid (UC U (c || dk || pc) (n + 2 * k + 1) w3 ∧ Mod U w1 w3) := ⟨h3, (unhide u2).2.trans m3⟩; clear h3 m3)
     | (go_at_call_of 111 q; refine (unitNote U _ _ _ _ ⟨(by omega), (by omega)⟩ _ (unhide u4).1).mono ?_; rintro e w5 ⟨rfl, h5, m5⟩; have c51 := m5.cell c41 (unhide BU).1; have c52 := m5.cell c42 (unhide BU).2; have u5 : Hid (UC U (c || dk || pc || qc) (n + 2 * k + 1 + 1) w5 ∧ Mod U w1 w5) := ⟨h5, (unhide u4).2.trans m5⟩; clear h5 m5))
   have R : Hid (UC U (c || dotC X Y (k + 1)) (n + 2 * ((k + 1 : Nat) : Int)) w5 ∧ Mod U w1 w5) := by
    refine ⟨?_, (unhide u5).2⟩
    rw [unhide E2, ← Bool.or_assoc, ← Bool.or_assoc, show n + 2 * ((k + 1 : Nat) : Int) = n + 2 * k + 1 + 1 by omega]
    exact (unhide u5).1
   go_wp2
   go_roundw
   case rel => exact ⟨k + 1, by omega, by go_num, by rw [unhide E1], R⟩
   case measure => simp [intOf]; omega
  ·obtain rfl : k = len := by omega
   go_wp2
   go_ret2
   exact ⟨rfl, (unhide HU).1, (unhide HU).2⟩
end Go.Proofs.YtjobgjcfkomhpaaGreat
namespace Go.Proofs.YtjobgjcfkomhpaaGreat
open Go.RowKit Go.Proofs.Wd
set_option maxRecDepth 10000
def NB (U : Nat) (c : Bool) (w : World) : Prop := Blk U #[.bool c, .bool false, .int .i64 0] 46 w
def NU (p : Option Addr) (w : World) : Prop := p = none ∨ ∃ U c, p = some ⟨U, 0, none⟩ ∧ NB U c w
theorem NU.grown {p : Option Addr} {w w' : World} (h : NU p w) (g : Grown w w') : NU p w' := by
 rcases h with h | ⟨U, c, h, k⟩
 ·exact Or.inl h
 ·exact Or.inr ⟨U, c, h, Blk.grown k g⟩
set_option maxHeartbeats 400000 in
theorem noneIs (p : Option Addr) (w : World) (h : NU p w) : Calls Tryz.prog 110 #[.pointer p] w fun e w' => e = .returned (.bool true) ∧ w' = w := by
 rcases h with rfl | ⟨U, c, rfl, h⟩
 ·go_enter Tryz.func110, Tryz.ntmps110
  go_wp2
  go_ret
  exact ⟨rfl, rfl⟩
 ·have h1 : w.cell? ⟨U, 1, none⟩ = some (.bool false) := Blk.cell h 1
  clear h
  go_enter Tryz.func110, Tryz.ntmps110
  go_wp2
  go_ret
  exact ⟨rfl, rfl⟩
set_option maxHeartbeats 400000 in
theorem noneDot (p : Option Addr) (ao bo : Option Addr) (l1 c1 l2 c2 : Nat) (w : World) (h : NU p w) : Calls Tryz.prog 72 #[.pointer p, .slice ao l1 c1, .slice bo l2 c2] w fun e w' => e = .returned (.tuple #[.int .i64 0, .int .i64 1]) ∧ w' = w := by
 have H := hide h
 clear h
 go_enter Tryz.func72, Tryz.ntmps72
 go_wp2_with fail
 refine (noneIs p w (unhide H)).mono ?_
 rintro e w1 ⟨rfl, rfl⟩
 go_wp2
 go_ret2
 exact ⟨rfl, rfl⟩
def okM (r c : Int) (len : Nat) : Prop := (1 ≤ r ∧ r ≤ 12) ∧ (1 ≤ c ∧ c ≤ 12) ∧ (len : Int) = r * c
open Classical in
noncomputable def chk (r c : Int) (len : Nat) : Int := if okM r c len then 0 else 3
theorem chk_ok {r c : Int} {len : Nat} (h : okM r c len) : chk r c len = 0 := if_pos h
theorem chk_bad {r c : Int} {len : Nat} (h : ¬ okM r c len) : chk r c len = 3 := if_neg h
theorem mul12 (r c : Int) (hr : 1 ≤ r ∧ r ≤ 12) (hc : 1 ≤ c ∧ c ≤ 12) : 1 ≤ r * c ∧ r * c ≤ 144 := by
 have h1 : 1 * 1 ≤ r * c := Int.mul_le_mul hr.1 hc.1 (by omega) (by omega)
 have h2 : r * c ≤ 12 * 12 := Int.mul_le_mul hr.2 hc.2 (by omega) (by omega)
 omega
theorem mul12n (r c : Nat) (hr : 1 ≤ r ∧ r ≤ 12) (hc : 1 ≤ c ∧ c ≤ 12) : 1 ≤ r * c ∧ r * c ≤ 144 := by
 have := mul12 r c (by omega) (by omega)
 rw [← Int.natCast_mul] at this
 omega
set_option maxHeartbeats 400000 in
theorem matFits (x : Int) (w : World) : Calls Tryz.prog 60 #[.int .i64 x] w fun e w' => e = .returned (.bool (decide (1 ≤ x ∧ x ≤ 12))) ∧ w' = w := by
 by_cases h1 : 1 ≤ x
 ·by_cases h2 : x ≤ 12
  ·go_enter Tryz.func60, Tryz.ntmps60
   go_wp2
   go_ret
   exact ⟨by simp [h1, h2], rfl⟩
  ·go_enter Tryz.func60, Tryz.ntmps60
   go_wp2
   go_ret
   exact ⟨by simp [h1, h2], rfl⟩
 ·go_enter Tryz.func60, Tryz.ntmps60
  go_wp2
  go_ret
  exact ⟨by simp; omega, rfl⟩
set_option maxHeartbeats 1000000 in
theorem matCheck (r c : Int) (ao : Option Addr) (len cap : Nat) (w : World) : Calls Tryz.prog 63 #[.agg #[.int .i64 r, .int .i64 c, .slice ao len cap]] w fun e w' => e = .returned (.int .i64 (chk r c len)) ∧ Grown w w' := by
 have F1 := hide (fun w => matFits r w)
 have F2 := hide (fun w => matFits c w)
 by_cases h1 : 1 ≤ r ∧ r ≤ 12
 ·rw [decide_eq_true h1] at F1
  by_cases h2 : 1 ≤ c ∧ c ≤ 12
  ·rw [decide_eq_true h2] at F2
   have hw : wrap64 (r * c) = r * c := by
    have := mul12 r c h1 h2
    unfold wrap64
    omega
   by_cases h3 : (len : Int) = r * c
   ·have E := hide (chk_ok (r := r) (c := c) (len := len) ⟨h1, h2, h3⟩)
    have b3 : ((len : Int) != r * c) = false := by simpa using h3
    have H3 := hide h3
    clear h1 h2 h3
    go_enter Tryz.func63, Tryz.ntmps63
    go_wp2_with fail
    refine (unhide F1 _).mono ?_
    rintro e w1 ⟨rfl, rfl⟩
    go_wp2_with fail
    refine (unhide F2 _).mono ?_
    rintro e w1 ⟨rfl, rfl⟩
    go_wp2
    go_ret
    exact ⟨by rw [unhide E]; rfl, (Grown.refl _).alloc _ _⟩
   ·have E := hide (chk_bad (r := r) (c := c) (len := len) (fun h => h3 h.2.2))
    have b3 : ((len : Int) != r * c) = true := by simpa using h3
    have H3 := hide h3
    clear h1 h2 h3
    go_enter Tryz.func63, Tryz.ntmps63
    go_wp2_with fail
    refine (unhide F1 _).mono ?_
    rintro e w1 ⟨rfl, rfl⟩
    go_wp2_with fail
    refine (unhide F2 _).mono ?_
    rintro e w1 ⟨rfl, rfl⟩
    go_wp2
    go_ret
    exact ⟨by rw [unhide E]; rfl, (Grown.refl _).alloc _ _⟩
  ·rw [decide_eq_false h2] at F2
   have E := hide (chk_bad (r := r) (c := c) (len := len) (fun h => h2 h.2.1))
   clear h1 h2
   go_enter Tryz.func63, Tryz.ntmps63
   go_wp2_with fail
   refine (unhide F1 _).mono ?_
   rintro e w1 ⟨rfl, rfl⟩
   go_wp2_with fail
   refine (unhide F2 _).mono ?_
   rintro e w1 ⟨rfl, rfl⟩
   go_wp2
   go_ret
   exact ⟨by rw [unhide E]; rfl, (Grown.refl _).alloc _ _⟩
 ·rw [decide_eq_false h1] at F1
  have E := hide (chk_bad (r := r) (c := c) (len := len) (fun h => h1 h.1))
  clear h1
  go_enter Tryz.func63, Tryz.ntmps63
  go_wp2_with fail
  refine (unhide F1 _).mono ?_
  rintro e w1 ⟨rfl, rfl⟩
  go_wp2
  go_ret
  exact ⟨by rw [unhide E]; rfl, (Grown.refl _).alloc _ _⟩
theorem wrapP (a b p : Nat) (h : a * b = p) (hp : p ≤ 1000000) : wrap64 ((a : Int) * (b : Int)) = (p : Int) := by
 rw [← Int.natCast_mul, h]
 unfold wrap64
 omega
theorem wrapS (x : Int) (h : 0 ≤ x ∧ x ≤ 1000000) : wrap64 x = x := by
 unfold wrap64
 omega
theorem wrapQ (a b p : Nat) (h : (a + 1) * b = p) (hp : p ≤ 1000000) : wrap64 (((a : Int) + 1) * (b : Int)) = (p : Int) := by
 have h := wrapP (a + 1) b p h hp
 rwa [Int.natCast_add] at h
theorem wrapA (a b p : Nat) (h : a + b = p) (hp : p ≤ 1000000) : wrap64 ((a : Int) + (b : Int)) = (p : Int) := by
 rw [← Int.natCast_add, h]
 exact wrapS _ (by omega)
theorem place_le (i r c : Nat) (h : i < r) : i * c + c ≤ r * c := by
 have : (i + 1) * c ≤ r * c := Nat.mul_le_mul_right c h
 rwa [Nat.add_mul, Nat.one_mul] at this
theorem slice_part (b o len cap l h : Nat) (hl : l < h) (hh : h ≤ cap) (w : World) : (Instr.sliceAt 22 (.slice (some ⟨b, o, none⟩) len cap) (some (.int .i64 l)) (some (.int .i64 h)) (some (.int .i64 h))).run Tryz.prog w = .ok (.slice (some ⟨b, o + l, none⟩) (h - l) (h - l)) w := by
 have e : Tryz.prog.underlying 22 = some (.slice (Tryz.prog.elem 22)) := by kernel_rfl
 have s1 : (sizeOf (Tryz.prog.elem 22)).run Tryz.prog w = .ok 1 w := by kernel_rfl
 rw [run_sliceAt_slice w 22 _ _ _ _ e, run_slice_lhm w 22 _ len cap e .i64 .i64 .i64 l h h (by omega) (by omega) (by omega) (by omega), s1]
 show Result.ok (sliced _ (l : Int).toNat (h : Int).toNat (h : Int).toNat 1) w = _
 unfold sliced
 rw [Int.toNat_natCast, Int.toNat_natCast, if_neg (by omega)]
 show Result.ok (Value.slice (some ((⟨b, o, none⟩ : Addr).add (l * 1))) _ _) w = _
 rw [Go.WideShapes.add_plain, Nat.mul_one]
set_option maxHeartbeats 1000000 in
theorem matPart (r c i b o cap : Nat) (hr : 1 ≤ r ∧ r ≤ 12) (hc : 1 ≤ c ∧ c ≤ 12) (hi : i < r) (hcap : r * c ≤ cap) (w : World) :
  Calls Tryz.prog 69 #[.agg #[.int .i64 r, .int .i64 c, .slice (some ⟨b, o, none⟩) (r * c) cap], .int .i64 i] w fun e w' =>
   e = .returned (.slice (some ⟨b, o + i * c, none⟩) c c) ∧ w' = w.alloc (.cells #[.int .i64 r, .int .i64 c, .slice (some ⟨b, o, none⟩) (r * c) cap] 38) := by
 have h1 := mul12n r c hr hc
 have h2 := place_le i r c hi
 obtain ⟨p, hp⟩ : ∃ p, i * c = p := ⟨_, rfl⟩
 obtain ⟨q, hq⟩ : ∃ q, (i + 1) * c = q := ⟨_, rfl⟩
 obtain ⟨len, hlen⟩ : ∃ len, r * c = len := ⟨_, rfl⟩
 have hq2 : q = p + c := by rw [← hq, Nat.add_mul, Nat.one_mul, hp]
 rw [hlen] at h1 h2 hcap
 rw [hp] at h2
 rw [hlen, hp]
 have pb : p ≤ 1000000 := by omega
 have qb : q ≤ 1000000 := by omega
 have ib : 0 ≤ (i : Int) + 1 ∧ (i : Int) + 1 ≤ 1000000 := by omega
 have pq : p < q := by omega
 have qc : q ≤ cap := by omega
 have dq : q - p = c := by omega
 clear h1 h2 hlen hq2 hr hc hi hcap
 have w1 : wrap64 ((i : Int) * (c : Int)) = (p : Int) := wrapP i c p hp pb
 have w2 : wrap64 ((i : Int) + 1) = (i : Int) + 1 := wrapS _ ib
 have w3 : wrap64 (((i : Int) + 1) * (c : Int)) = (q : Int) := wrapQ i c q hq qb
 have S := fun w => slice_part b o len cap p q pq qc w
 rw [dq] at S
 clear hp hq pb qb ib pq qc dq
 go_enter Tryz.func69, Tryz.ntmps69
 go_wp2
 go_ret
 exact ⟨rfl, rfl⟩
set_option maxHeartbeats 1000000 in
theorem matAt (r c i k b o cap : Nat) (Z : Nat → Int) (hr : 1 ≤ r ∧ r ≤ 12) (hc : 1 ≤ c ∧ c ≤ 12) (hi : i < r) (hk : k < c) (w : World) (hz : w.cell? ⟨b, o + (i * c + k), none⟩ = some (.int .i64 (Z (i * c + k)))) :
  Calls Tryz.prog 93 #[.agg #[.int .i64 r, .int .i64 c, .slice (some ⟨b, o, none⟩) (r * c) cap], .int .i64 i, .int .i64 k] w fun e w' =>
   e = .returned (.int .i64 (Z (i * c + k))) ∧ w' = w.alloc (.cells #[.int .i64 r, .int .i64 c, .slice (some ⟨b, o, none⟩) (r * c) cap] 38) := by
 have h1 := mul12n r c hr hc
 have h2 := place_in i k r c hi hk
 obtain ⟨p, hp⟩ : ∃ p, i * c = p := ⟨_, rfl⟩
 obtain ⟨len, hlen⟩ : ∃ len, r * c = len := ⟨_, rfl⟩
 rw [hlen] at h1 h2
 rw [hp] at h2 hz
 rw [hlen, hp]
 obtain ⟨q, hq⟩ : ∃ q, p + k = q := ⟨_, rfl⟩
 rw [hq] at hz h2
 rw [hq]
 have pb : p ≤ 1000000 := by omega
 have qb : q ≤ 1000000 := by omega
 have i0 : (0 : Int) ≤ (q : Int) := by omega
 have i1 : (q : Int) < (len : Int) := by omega
 clear h1 h2 hlen hr hc hi hk
 have w1 : wrap64 ((i : Int) * (c : Int)) = (p : Int) := wrapP i c p hp pb
 have w2 : wrap64 ((p : Int) + (k : Int)) = (q : Int) := wrapA p k q hq qb
 clear hp hq pb qb
 obtain ⟨z, hzz⟩ : ∃ z, Z q = z := ⟨_, rfl⟩
 rw [hzz] at hz
 rw [hzz]
 have hb := heap_gt hz
 have hb2 : b ≠ w.heap.size := Nat.ne_of_lt hb
 have hz2 : (w.alloc (.cells #[.int .i64 r, .int .i64 c, .slice (some ⟨b, o, none⟩) len cap] 38)).cell? ⟨b, o + q, none⟩ = some (.int .i64 z) := gat ((Grown.refl _).alloc _ _) hz
 clear hzz
 go_enter Tryz.func93, Tryz.ntmps93
 go_wp2
 go_ret
 exact ⟨rfl, rfl⟩
set_option maxHeartbeats 400000 in
theorem matRows (r c : Int) (s : Value) (hs : s.oneCell' = true) (w : World) :
  Calls Tryz.prog 106 #[.agg #[.int .i64 r, .int .i64 c, s]] w fun e w' => e = .returned (.func (.func 135) #[] #[.pointer (some ⟨w.heap.size, 0, none⟩)]) ∧ w' = w.alloc (.cells #[.int .i64 r, .int .i64 c, s] 38) := by
 go_enter Tryz.func106, Tryz.ntmps106
 go_wp2
 go_ret
 exact ⟨rfl, rfl⟩
set_option maxHeartbeats 1000000 in
theorem matDot (U : Nat) (c : Bool) (n : Int) (ao bo : Option Addr) (len c1 c2 : Nat) (X Y : Nat → Int) (hn : 0 ≤ n ∧ n < 2305843009213693952) (hl : len ≤ 1000000) (hX : ∀ i, i < len → I64 (X i)) (hY : ∀ i, i < len → I64 (Y i)) (w : World) (h : UC U c n w)
  (hr : Row w ao len X) (ho : Off U len ao) (ht : Row w bo len Y) (hp : Off U len bo) :
  Calls Tryz.prog 68 #[.pointer (some ⟨U, 0, none⟩), .slice ao len c1, .slice bo len c2] w fun e w' => e = .returned (.int .i64 (dotN X Y len)) ∧ UC U (c || dotC X Y len) (n + 2 * len) w' ∧ Mod U w w' := by
 have D := hide (unitDot_ok U c n ao bo len c1 c2 X Y hn hl hX hY w h hr ho ht hp)
 clear h hr ho ht hp hX hY hn
 generalize dotN X Y len = d at *
 go_enter Tryz.func68, Tryz.ntmps68
 go_wp2_with fail
 refine (unhide D).mono ?_
 rintro e w1 ⟨rfl, h1⟩
 have H1 := hide h1
 clear h1 D
 go_wp2
 go_ret
 exact ⟨rfl, unhide H1⟩
end Go.Proofs.YtjobgjcfkomhpaaGreat
namespace Go.Proofs.YtjobgjcfkomhpaaGreat
open Go.RowKit Go.Shelf Go.Proofs.Wd
set_option maxRecDepth 10000
def encR {r : Nat} (b o c : Nat) (x : Fin r) : Array Value := #[.int .i64 (x.1 : Int), .slice (some ⟨b, o + x.1 * c, none⟩) c c]
def KpR (Bs : Nat) (W W' : World) : Prop := W'.heap[Bs]? = W.heap[Bs]?
def allR (r : Nat) : List (Fin r) := List.finRange r
theorem allR_len (r : Nat) : (allR r).length = r := by simp [allR]
theorem allR_at (r k : Nat) (h : k < r) : (allR r)[k]? = some ⟨k, h⟩ := by
 unfold allR
 rw [List.getElem?_eq_getElem (by simpa using h)]
 simp
theorem allR_take (r k : Nat) (h : k < r) : (allR r).take k ++ [⟨k, h⟩] = (allR r).take (k + 1) := by
 rw [List.take_add_one, allR_at r k h]
 rfl
theorem grown_alloc (w : World) (o : Obj) : w.grownBy (w.alloc o) none := World.grownBy_alloc w o none
section
attribute [local go_sem] Oper.semAt_some
set_option maxRecDepth 100000 in
set_option maxHeartbeats 2000000 in
theorem rows1_in (n l Bs B : Nat) (hn : 1 ≤ n) (r c b o cap : Nat) (hr : 1 ≤ r ∧ r ≤ 12) (hc : 1 ≤ c ∧ c ≤ 12) (hcap : r * c ≤ cap) (J Jx : List (Fin r) → World → Prop) (hJ : AbidesFrom B J)
  (hY : ∀ pre x W, J pre W → pre.length < r → YieldAt Fence.wide (n - 1) Tryz.prog l (encR b o c x) W fun e W' => (e = .returned (.bool true) ∧ J (pre ++ [x]) W' ∧ KpR Bs W W') ∨ (e = .returned (.bool false) ∧ Jx (pre ++ [x]) W'))
  (W : World) (hBs : Blk Bs #[.int .i64 r, .int .i64 c, .slice (some ⟨b, o, none⟩) (r * c) cap] 38 W) (h0 : J [] W) :
  CallsIn Fence.wide n Tryz.prog 135 #[.func (.yield l) #[] #[], .pointer (some ⟨Bs, 0, none⟩)] W fun e W' => (∃ v, e = .returned v) ∧
   ((∃ ys : List (Fin r), ys = allR r ∧ J ys W') ∨ (∃ pre : List (Fin r), pre <+: allR r ∧ Jx pre W')) := by
 refine callsIn_of_wp Tryz.func135 rfl trivial ?_ rfl
 simp only [Tryz.ntmps135, List.size_toArray, List.length_cons, List.length_nil, Nat.reduceAdd, Nat.reduceSub, Array.replicate_succ, Array.replicate_zero, List.push_toArray, List.append_toArray, List.nil_append, List.cons_append]
 have d0 : W.cell? ⟨Bs, 0, none⟩ = some (.int .i64 r) := Blk.cell hBs 0
 have HJ := hide hJ
 have HY := hide hY
 have H0 := hide (And.intro h0 hBs)
 have PT := hide (fun i hi w => matPart r c i b o cap hr hc hi hcap w)
 clear hJ hY h0 hBs hcap
 gi_wp2
 gi_loopw [6] (fun i wr => ∃ k : Nat, k ≤ r ∧ i = .int .i64 k ∧ Hid (J ((allR r).take k) wr ∧ Blk Bs #[.int .i64 r, .int .i64 c, .slice (some ⟨b, o, none⟩) (r * c) cap] 38 wr)) (fun i _ => r - (intOf i).toNat)
 case atStart => exact ⟨0, Nat.zero_le _, rfl, unhide H0⟩
 case round =>
  obtain ⟨k, hk, rfl, HI⟩ := hrel
  by_cases hlt : k < r
  ·have bs := (unhide HI).2
   have e0 : wr.cell? ⟨Bs, 0, none⟩ = some (.int .i64 r) := Blk.cell bs 0
   have e1 : wr.cell? ⟨Bs, 1, none⟩ = some (.int .i64 c) := Blk.cell bs 1
   have e2 : wr.cell? ⟨Bs, 2, none⟩ = some (.slice (some ⟨b, o, none⟩) (r * c) cap) := Blk.cell bs 2
   have P1 := hide (unhide PT k hlt)
   obtain ⟨len, hlen⟩ : ∃ len, r * c = len := ⟨_, rfl⟩
   rw [hlen] at e2
   rw [hlen] at P1
   have HL := hide hlen
   have LT := hide hlt
   clear bs hlen
   gi_wp2_with (refine ⟨trivial, ?_⟩; gi_at_call 69; refine (callsIn_wide.2 (unhide P1 _)).mono ?_; rintro e w2 ⟨rfl, rfl⟩; have hJ2 : J ((allR r).take k) (wr.alloc (.cells #[.int .i64 r, .int .i64 c, .slice (some ⟨b, o, none⟩) len cap] 38)) := (unhide HJ _ _ _ none (unhide HI).1 (grown_alloc _ _) (fun r e => by cases e)); obtain ⟨fn, tmps, assign, body, hy, hR⟩ := unhide HY ((allR r).take k) ⟨k, unhide LT⟩ _ hJ2 (by rw [List.length_take, allR_len]; omega); dsimp only [encR] at hy)
   refine hR.mono ?_
   rintro e W3 (⟨rfl, hJ3, hk3⟩ | ⟨rfl, hJx3⟩)
   ·have R3 : Hid (J ((allR r).take (k + 1)) W3 ∧ Blk Bs #[.int .i64 r, .int .i64 c, .slice (some ⟨b, o, none⟩) (r * c) cap] 38 W3) := by
     rw [allR_take r k hlt] at hJ3
     exact ⟨hJ3, hk3.trans (Blk.grown (unhide HI).2 ((Grown.refl _).alloc _ _))⟩
    clear hJ3 hk3 hR hy hJ2 e0 e1 e2
    gi_wp2
    go_roundw
    case rel => exact ⟨k + 1, by omega, by go_num, R3⟩
    case measure => simp [intOf]; omega
   ·have R3 : Hid (Jx ((allR r).take (k + 1)) W3) := by
     rw [allR_take r k hlt] at hJx3
     exact hJx3
    clear hJx3 hR hy hJ2 e0 e1 e2
    gi_wp2
    refine bodyPost_ret (results_none rfl _ _ _) rfl ?_
    exact ⟨⟨_, rfl⟩, .inr ⟨(allR r).take (k + 1), List.take_prefix _ _, unhide R3⟩⟩
  ·obtain rfl : k = r := by omega
   have HF : Hid (J (allR k) wr) := by
    have := (unhide HI).1
    rwa [List.take_of_length_le (by rw [allR_len]; omega)] at this
   clear HI
   gi_wp2
   go_end0
   exact ⟨⟨_, rfl⟩, .inl ⟨allR k, rfl, unhide HF⟩⟩
end
theorem rows_stops (n : Nat) (hn : 1 ≤ n) (Bs r c b o cap : Nat) (hr : 1 ≤ r ∧ r ≤ 12) (hc : 1 ≤ c ∧ c ≤ 12) (hcap : r * c ≤ cap) (w : World) (hB : Blk Bs #[.int .i64 r, .int .i64 c, .slice (some ⟨b, o, none⟩) (r * c) cap] 38 w) :
  SeqStopsK Fence.wide n Tryz.prog 135 #[.pointer (some ⟨Bs, 0, none⟩)] (encR (r := r) b o c) (KpR Bs) (fun ys => ys = allR r) (fun pre => pre <+: allR r) r w := fun l J Jx W hW hJ _ hY h0 =>
 rows1_in n l Bs W.heap.size hn r c b o cap hr hc hcap J Jx hJ hY W ((hW.block Bs (Blk.lt hB)).trans hB) h0
theorem kpR_t {Bs : Nat} {A B C : World} (h : KpR Bs A B) (k : KpR Bs B C) : KpR Bs A C := k.trans h
theorem kpR_b {Bs n : Nat} (hB : Bs < n) (W : World) (l : Nat) (o o' : Obj) (hl : n ≤ l) (_ : W.heap[l]? = some o) (_ : o.isCells = false) (_ : o.isWalk = false) : KpR Bs W (W.putObj l o') :=
 World.putObj_heap_other (by omega)
end Go.Proofs.YtjobgjcfkomhpaaGreat
namespace Go.Proofs.YtjobgjcfkomhpaaGreat
open Go.RowKit Go.Shelf Go.Proofs.Wd
set_option maxRecDepth 10000
def SB (n : Nat) (a b : World) : Prop := b.os = a.os ∧ b.output = a.output ∧ (∀ k, k < n → b.heap[k]? = a.heap[k]?) ∧ a.heap.size ≤ b.heap.size
def SF (n : Nat) (a b : World) : Prop := (∀ k, n ≤ k → k < a.heap.size → b.heap[k]? = a.heap[k]?) ∧ a.heap.size ≤ b.heap.size
theorem SB.by {n : Nat} {a b : World} {row : Option Nat} (g : a.grownBy b row) (hn : n ≤ a.heap.size) (hr : ∀ k, row = some k → n ≤ k) : SB n a b :=
 ⟨g.os, g.output, fun k hk => g.block k (by omega) (fun e => by have := hr k e.symm; omega), g.size⟩
theorem SB.set {n : Nat} (a : World) (b o : Nat) (v : Value) (h : n ≤ b) : SB n a (a.setCell ⟨b, o, none⟩ v) :=
 ⟨rfl, rfl, fun k hk => Below.heap_setCell _ _ _ _ (by show k ≠ b; omega), by simp [World.setCell]⟩
theorem SF.blk {n U : Nat} {cs : Array Value} {T : TypeId} {a b : World} (h : SF n a b) (hb : Blk U cs T a) (hn : n ≤ U) : Blk U cs T b := (h.1 U hn (Blk.lt hb)).trans hb
theorem SF.keeps {n B : Nat} {a b : World} (h : SF n a b) (hB : n ≤ B) : KeepsFrom B a b :=
 ⟨h.2, fun k o hk e _ => (h.1 k (by omega) (Array.getElem?_eq_some_iff.1 e).1).trans e⟩
def vis (c : Nat) {r : Nat} (pre : List (Fin r)) : List Nat := pre.flatMap fun x => (List.range c).map fun k => x.1 * c + k
theorem vis_snoc (c : Nat) {r : Nat} (pre : List (Fin r)) (x : Fin r) : vis c (pre ++ [x]) = vis c pre ++ (List.range c).map fun k => x.1 * c + k := by simp [vis]
theorem vis_len (c : Nat) {r : Nat} : ∀ pre : List (Fin r), (vis c pre).length = pre.length * c
 | [] => by simp [vis]
 | x :: pre => by
  have := vis_len c pre
  unfold vis at *
  rw [List.flatMap_cons, List.length_append, this, List.length_map, List.length_range, List.length_cons, Nat.add_mul, Nat.one_mul, Nat.add_comm]
theorem vis_take (r c : Nat) : ∀ k, k ≤ r → vis c ((allR r).take k) = List.range (k * c)
 | 0, _ => by simp [vis]
 | k + 1, h => by
  rw [← allR_take r k (by omega), vis_snoc, vis_take r c k (by omega), Nat.add_mul, Nat.one_mul, List.range_add]
theorem vis_all (r c : Nat) : vis c (allR r) = List.range (r * c) := by
 have := vis_take r c r (Nat.le_refl _)
 rwa [List.take_of_length_le (by rw [allR_len]; omega)] at this
def soFar (Z : Nat → Int) (ps : List Nat) : Nat → Int := fun p => if p ∈ ps then Z p else 0
theorem soFar_snoc (n : Nat) (Z : Nat → Int) (ps : List Nat) (k : Nat) : ints n (fun i => if i = k then Z k else soFar Z ps i) = ints n (soFar Z (ps ++ [k])) := by
 refine ints_congr _ _ _ fun i hi => ?_
 unfold soFar
 by_cases e : i = k
 ·subst e; simp
 ·simp [e]
theorem soFar_all (n : Nat) (Z : Nat → Int) : ints n (soFar Z (List.range n)) = ints n Z := by
 refine ints_congr _ _ _ fun i hi => ?_
 unfold soFar
 rw [if_pos (List.mem_range.2 hi)]
theorem range_snoc (f : Nat → Nat) (ps : List Nat) (k : Nat) : (ps ++ (List.range k).map f) ++ [f k] = ps ++ (List.range (k + 1)).map f := by
 rw [List.range_succ, List.map_append, List.append_assoc]
 rfl
def MdS (w : World) (r c len : Nat) (Z : Nat → Int) (Fv : Value) (J : List Nat → World → Prop) (ps : List Nat) (W : World) : Prop :=
 Blk w.heap.size #[Fv] 54 W ∧ Blk (w.heap.size + 1) #[.int .i64 0, .int .i64 0, .slice none 0 0] 38 W ∧ Blk (w.heap.size + 1 + 1) (ints len (soFar Z ps)) 3 W ∧
  Blk (w.heap.size + 1 + 1 + 1) #[.int .i64 r, .int .i64 c, .slice (some ⟨w.heap.size + 1 + 1, 0, none⟩) len len] 38 W ∧ Blk (w.heap.size + 1 + 1 + 1 + 1) #[.int .i64 r, .int .i64 c, .slice (some ⟨w.heap.size + 1 + 1, 0, none⟩) len len] 38 W ∧ J ps W ∧ w.heap.size + 5 ≤ W.heap.size
theorem blk_own {U : Nat} {cs : Array Value} {T : TypeId} {W W' : World} {row : Option Nat} (h : Blk U cs T W) (hg : W.grownBy W' row) (hr : ∀ r, row = some r → ∃ o : Obj, W.heap[r]? = some o ∧ o.isCells = false) : Blk U cs T W' :=
 Blk.by h hg (fun e => by
  obtain ⟨o, ho, hc⟩ := hr U e.symm
  rw [show W.heap[U]? = _ from h] at ho
  cases ho
  cases hc)
theorem mdS_own (w : World) (r c len : Nat) (Z : Nat → Int) (Fv : Value) (J : List Nat → World → Prop) (hJ : ∀ ps a b, J ps a → SB w.heap.size a b → J ps b) (B : Nat) (hB : w.heap.size ≤ B) : OwnFrom B (fun pre : List (Fin r) => MdS w r c len Z Fv J (vis c pre)) := by
 rintro pre W W' row ⟨h1, h2, h3, h4, h5, h6, h7⟩ hg hr
 have hr' : ∀ r, row = some r → ∃ o : Obj, W.heap[r]? = some o ∧ o.isCells = false := fun r e => (hr r e).2
 exact ⟨blk_own h1 hg hr', blk_own h2 hg hr', blk_own h3 hg hr', blk_own h4 hg hr', blk_own h5 hg hr', hJ _ _ _ h6 (SB.by hg (by omega) (fun k e => Nat.le_trans hB (hr k e).1)), Nat.le_trans h7 hg.size⟩
theorem MdS.put {w : World} {r c len : Nat} {Z : Nat → Int} {Fv : Value} {J : List Nat → World → Prop} {ps : List Nat} {p : Nat} {W W1 : World} (hJ : ∀ ps a b, J ps a → SB w.heap.size a b → J ps b) (h : MdS w r c len Z Fv J ps W) (s : SF w.heap.size W W1) (j : J (ps ++ [p]) W1) :
  MdS w r c len Z Fv J (ps ++ [p]) (W1.setCell ⟨w.heap.size + 1 + 1, p, none⟩ (.int .i64 (Z p))) ∧ Blk (w.heap.size + 1 + 1) (ints len (soFar Z ps)) 3 W1 ∧ (∀ B, w.heap.size ≤ B → KeepsFrom B W (W1.setCell ⟨w.heap.size + 1 + 1, p, none⟩ (.int .i64 (Z p)))) ∧ KpR (w.heap.size + 1 + 1 + 1 + 1) W (W1.setCell ⟨w.heap.size + 1 + 1, p, none⟩ (.int .i64 (Z p))) := by
 obtain ⟨h1, h2, h3, h4, h5, h6, h7⟩ := h
 have m : Mod (w.heap.size + 1 + 1) W1 (W1.setCell ⟨w.heap.size + 1 + 1, p, none⟩ (.int .i64 (Z p))) := (Mod.refl _ _).setCell _ _
 have b3 := s.blk h3 (by omega)
 refine ⟨⟨Blk.keep (s.blk h1 (by omega)) m (by omega), Blk.keep (s.blk h2 (by omega)) m (by omega), ?_, Blk.keep (s.blk h4 (by omega)) m (by omega), Blk.keep (s.blk h5 (by omega)) m (by omega), hJ _ _ _ j (SB.set _ _ _ _ (by omega)), Nat.le_trans (Nat.le_trans h7 s.2) m.2.2.2.2⟩, b3, fun B hB => (s.keeps hB).trans ((KeepsOthers.setCell _ _ _).from _), ?_⟩
 ·have := Blk.setI b3 p (Z p)
  rwa [soFar_snoc] at this
 ·exact (m.2.2.1 _ (by have := Blk.lt (s.blk h5 (by omega)); omega) (by omega)).trans (s.1 _ (by omega) (by omega))
def encR0 {r : Nat} (b c : Nat) (x : Fin r) : Array Value := #[.int .i64 (x.1 : Int), .slice (some ⟨b, x.1 * c, none⟩) c c]
theorem rows_stops0 (n : Nat) (hn : 1 ≤ n) (Bs r c b len cap : Nat) (hr : 1 ≤ r ∧ r ≤ 12) (hc : 1 ≤ c ∧ c ≤ 12) (hlen : r * c = len) (hcap : len ≤ cap) (w : World) (hB : Blk Bs #[.int .i64 r, .int .i64 c, .slice (some ⟨b, 0, none⟩) len cap] 38 w) :
  SeqStopsK Fence.wide n Tryz.prog 135 #[.pointer (some ⟨Bs, 0, none⟩)] (encR0 (r := r) b c) (KpR Bs) (fun ys => ys = allR r) (fun pre => pre <+: allR r) r w := by
 subst hlen
 have e : encR0 (r := r) b c = encR b 0 c := by
  funext x
  simp [encR0, encR]
 rw [e]
 exact rows_stops n hn Bs r c b 0 cap hr hc hcap w hB
def MadeP (r c : Nat) (Z : Nat → Int) (X : World → Prop) (w : World) (e : Ending) (w' : World) : Prop :=
 ∃ L, w.heap.size ≤ L ∧ e = .returned (.agg #[.int .i64 r, .int .i64 c, .slice (some ⟨L, 0, none⟩) (r * c) (r * c)]) ∧ Blk L (ints (r * c) Z) 3 w' ∧ X w'
section
attribute [local go_sem] Oper.semAt_some
set_option maxRecDepth 100000 in
set_option maxHeartbeats 4000000 in
theorem matMade (F : Nat) (eF : ∀ args w, (callFunc F args).run Tryz.prog w = .ok (.enter F args) w) (caps : Array Value) (r c : Nat) (hr : 1 ≤ r ∧ r ≤ 12) (hc : 1 ≤ c ∧ c ≤ 12) (Z : Nat → Int) (J : List Nat → World → Prop) (w : World)
  (hJ : ∀ ps a b, J ps a → SB w.heap.size a b → J ps b)
  (C : Hid (∀ ps i k a, i < r → k < c → ps.length < r * c → J ps a → Calls Tryz.prog F (#[.int .i64 (i : Int), .int .i64 (k : Int)] ++ caps) a fun e b => e = .returned (.int .i64 (Z (i * c + k))) ∧ J (ps ++ [i * c + k]) b ∧ SF w.heap.size a b))
  (h0 : J [] w) :
  Calls Tryz.prog 66 #[.int .i64 r, .int .i64 c, .func (.func F) #[] caps] w fun e w' => MadeP r c Z (J (List.range (r * c))) w e w' := by
 have hl := mul12n r c hr hc
 obtain ⟨len, hlen⟩ : ∃ len, r * c = len := ⟨_, rfl⟩
 have lb : len ≤ 1000000 := by omega
 have MK := make_ints len lb
 have w1 : wrap64 ((r : Int) * (c : Int)) = (len : Int) := wrapP r c len hlen lb
 have HL := hide (And.intro hlen (And.intro hl lb))
 have HR := hide (And.intro hr hc)
 have HJ := hide hJ
 have H0 := hide h0
 clear hl hlen lb hr hc hJ h0
 refine (callsIn_wide (n := 6)).1 ?_
 refine callsIn_of_wp_marks Tryz.func66 rfl trivial ?_ rfl
 simp only [Tryz.ntmps66, List.size_toArray, List.length_cons, List.length_nil, Nat.reduceAdd, Nat.reduceSub, Array.replicate_succ, Array.replicate_zero, List.push_toArray, List.append_toArray, List.nil_append, List.cons_append]
 gi_wp2_with (refine ⟨trivial, ?_⟩; gi_at_call 106; refine (callsIn_wide.2 (matRows _ _ _ rfl _)).mono ?_; rintro e w' ⟨rfl, rfl⟩)
 clear MK w1
 obtain ⟨hlen, hl, lb⟩ := unhide HL
 obtain ⟨hr, hc⟩ := unhide HR
 obtain ⟨W0, hW0⟩ : ∃ W0, (((((w.alloc (.cells #[.func (.func F) #[] caps] 54)).alloc (.cells #[.int .i64 0, .int .i64 0, .slice none 0 0] 38)).alloc (.cells (ints len (fun _ => 0)) 3)).alloc (.cells #[.int .i64 r, .int .i64 c, .slice (some ⟨w.heap.size + 1 + 1, 0, none⟩) len len] 38)).alloc (.cells #[.int .i64 r, .int .i64 c, .slice (some ⟨w.heap.size + 1 + 1, 0, none⟩) len len] 38)) = W0 := ⟨_, rfl⟩
 have st0 : W0.heap.size = w.heap.size + 5 ∧ MdS w r c len Z (.func (.func F) #[] caps) J [] W0 := by
  have g0 : Grown w (w.alloc (.cells #[.func (.func F) #[] caps] 54)) := (Grown.refl _).alloc _ _
  have b0 := Blk.new w #[.func (.func F) #[] caps] 54
  have s0 : (w.alloc (.cells #[.func (.func F) #[] caps] 54)).heap.size = w.heap.size + 1 := by simp
  generalize w.alloc (.cells #[.func (.func F) #[] caps] 54) = w1 at *
  have g1 : Grown w1 (w1.alloc (.cells #[.int .i64 0, .int .i64 0, .slice none 0 0] 38)) := (Grown.refl _).alloc _ _
  have b1 := Blk.new w1 #[.int .i64 0, .int .i64 0, .slice none 0 0] 38
  have s1 : (w1.alloc (.cells #[.int .i64 0, .int .i64 0, .slice none 0 0] 38)).heap.size = w.heap.size + 1 + 1 := by rw [World.size_alloc, s0]
  rw [s0] at b1
  generalize w1.alloc (.cells #[.int .i64 0, .int .i64 0, .slice none 0 0] 38) = w2 at *
  have g2 : Grown w2 (w2.alloc (.cells (ints len (fun _ => 0)) 3)) := (Grown.refl _).alloc _ _
  have b2 := Blk.new w2 (ints len (fun _ => 0)) 3
  have s2 : (w2.alloc (.cells (ints len (fun _ => 0)) 3)).heap.size = w.heap.size + 1 + 1 + 1 := by rw [World.size_alloc, s1]
  rw [s1] at b2
  generalize w2.alloc (.cells (ints len (fun _ => 0)) 3) = w3 at *
  have g3 : Grown w3 (w3.alloc (.cells #[.int .i64 r, .int .i64 c, .slice (some ⟨w.heap.size + 1 + 1, 0, none⟩) len len] 38)) := (Grown.refl _).alloc _ _
  have b3 := Blk.new w3 #[.int .i64 r, .int .i64 c, .slice (some ⟨w.heap.size + 1 + 1, 0, none⟩) len len] 38
  have s3 : (w3.alloc (.cells #[.int .i64 r, .int .i64 c, .slice (some ⟨w.heap.size + 1 + 1, 0, none⟩) len len] 38)).heap.size = w.heap.size + 1 + 1 + 1 + 1 := by rw [World.size_alloc, s2]
  rw [s2] at b3
  generalize w3.alloc (.cells #[.int .i64 r, .int .i64 c, .slice (some ⟨w.heap.size + 1 + 1, 0, none⟩) len len] 38) = w4 at *
  have g4 : Grown w4 (w4.alloc (.cells #[.int .i64 r, .int .i64 c, .slice (some ⟨w.heap.size + 1 + 1, 0, none⟩) len len] 38)) := (Grown.refl _).alloc _ _
  have b4 := Blk.new w4 #[.int .i64 r, .int .i64 c, .slice (some ⟨w.heap.size + 1 + 1, 0, none⟩) len len] 38
  have s4 : (w4.alloc (.cells #[.int .i64 r, .int .i64 c, .slice (some ⟨w.heap.size + 1 + 1, 0, none⟩) len len] 38)).heap.size = w.heap.size + 1 + 1 + 1 + 1 + 1 := by rw [World.size_alloc, s3]
  rw [s3] at b4
  generalize w4.alloc (.cells #[.int .i64 r, .int .i64 c, .slice (some ⟨w.heap.size + 1 + 1, 0, none⟩) len len] 38) = w5 at *
  subst hW0
  have kw : Kp w w5 := ((((Kp.of g0).grown g1).grown g2).grown g3).grown g4
  refine ⟨by omega, Blk.grown (Blk.grown (Blk.grown (Blk.grown b0 g1) g2) g3) g4, Blk.grown (Blk.grown (Blk.grown b1 g2) g3) g4, Blk.grown (Blk.grown b2 g3) g4, Blk.grown b3 g4, b4, unhide HJ _ _ _ (unhide H0) ⟨kw.1, kw.2.1, kw.2.2.1, kw.2.2.2⟩, by omega⟩
 rw [hW0]
 clear hW0
 obtain ⟨sz0, st0⟩ := st0
 refine wpIn_rangeFunc_ownG rfl (by omega) (gf := 135) (lb := #[.pointer (some ⟨w.heap.size + 1 + 1 + 1 + 1, 0, none⟩)]) rfl trivial (enters_of Tryz.func135 (by kernel_rfl) rfl)
  (rows_stops0 _ (by omega) (w.heap.size + 1 + 1 + 1 + 1) r c (w.heap.size + 1 + 1) len len hr hc hlen (Nat.le_refl _) W0 st0.2.2.2.2.1) kpR_t (kpR_b (by omega)) (Below.refl _ _) (fun _ => rfl)
  (fun pre => MdS w r c len Z (.func (.func F) #[] caps) J (vis c pre)) (fun _ _ _ => False) (mdS_own w r c len Z _ J (unhide HJ) _ (by omega)) (fun _ _ _ _ _ hs _ _ => hs)
  st0
  (fun x => { tmps := #[.int .i64 r, .int .i64 c, .func (.func F) #[] caps, undef, undef, .pointer (some ⟨w.heap.size, 0, none⟩), .pointer (some ⟨w.heap.size + 1, 0, none⟩), .pointer (some ⟨w.heap.size + 1 + 1 + 1, 0, none⟩), .int .i64 (x.1 : Int), .slice (some ⟨w.heap.size + 1 + 1, x.1 * c, none⟩) c c, undef, .int .i64 r, .int .i64 c, .int .i64 r, .int .i64 c, .int .i64 (len : Int), .slice (some ⟨w.heap.size + 1 + 1, 0, none⟩) len len,
    .agg #[.int .i64 r, .int .i64 c, .slice (some ⟨w.heap.size + 1 + 1, 0, none⟩) len len], .agg #[.int .i64 r, .int .i64 c, .slice (some ⟨w.heap.size + 1 + 1, 0, none⟩) len len], .func (.func 135) #[] #[.pointer (some ⟨w.heap.size + 1 + 1 + 1 + 1, 0, none⟩)], .int .i64 (x.1 : Int), .slice (some ⟨w.heap.size + 1 + 1, x.1 * c, none⟩) c c, undef, undef, undef, undef, undef, undef, undef, undef, undef, undef, undef, undef, undef, undef], defers := [] }) ?assign ?body ?done ?stop
 case assign =>
  intro l x W K hK
  dsimp only [encR0]
  gi_wp2
  exact hK
 case body =>
  rintro l pre x W hS hlt
  obtain ⟨xn, hxn⟩ : ∃ xn, x.1 = xn := ⟨_, rfl⟩
  obtain ⟨xc, hxc⟩ : ∃ q, xn * c = q := ⟨_, rfl⟩
  have hx : xn < r := by rw [← hxn]; exact x.2
  have HV : Hid (vis c (pre ++ [x]) = vis c pre ++ (List.range c).map (fun k => xc + k)) := by
   have := vis_snoc c pre x
   rw [hxn, hxc] at this
   exact this
  have HP : Hid ((vis c pre).length + c ≤ len ∧ xc + c ≤ len) := by
   refine ⟨?_, ?_⟩
   ·have := place_le _ _ c hlt
    rw [vis_len, ← hlen]
    exact this
   ·have := place_le _ _ c hx
    rw [← hlen, ← hxc]
    exact this
  have C1 : Hid (∀ ps k a, k < c → ps.length < len → J ps a → Calls Tryz.prog F (#[.int .i64 (xn : Int), .int .i64 (k : Int)] ++ caps) a fun e b => e = .returned (.int .i64 (Z (xc + k))) ∧ J (ps ++ [xc + k]) b ∧ SF w.heap.size a b) := by
   intro ps k a hk hp hj
   have := unhide C ps xn k a hx hk (by rw [hlen]; exact hp) hj
   rw [hxc] at this
   exact this
  dsimp only
  rw [hxn, hxc]
  obtain ⟨ps0, hps0⟩ : ∃ q, vis c pre = q := ⟨_, rfl⟩
  have hS' : MdS w r c len Z (.func (.func F) #[] caps) J ps0 W := by rw [← hps0]; exact hS
  rw [hps0] at HV HP
  have HS : Hid (MdS w r c len Z (.func (.func F) #[] caps) J (ps0 ++ (List.range 0).map (fun k => xc + k)) W ∧ KeepsFrom W0.heap.size W W ∧ KpR (w.heap.size + 1 + 1 + 1 + 1) W W) := by
   refine ⟨?_, KeepsFrom.refl _ _, rfl⟩
   simpa using hS'
  have HB : Hid (w.heap.size ≤ W0.heap.size) := by show _ ≤ _; omega
  have HC := hide hc
  clear st0 sz0 hl hr hS hS' hlt hx hxn hxc hps0 C HL HR H0 hlen lb hc
  gi_wp2
  gi_loopw [24] (fun i wr => ∃ k : Nat, k ≤ c ∧ i = .int .i64 k ∧ Hid (MdS w r c len Z (.func (.func F) #[] caps) J (ps0 ++ (List.range k).map (fun k => xc + k)) wr ∧ KeepsFrom W0.heap.size W wr ∧ KpR (w.heap.size + 1 + 1 + 1 + 1) W wr)) (fun i _ => c - (intOf i).toNat)
  case atStart => exact ⟨0, Nat.zero_le _, rfl, HS⟩
  case round =>
   obtain ⟨k, hk, rfl, HI⟩ := hrel
   by_cases hlt : k < c
   ·have d0 : wr.cell? ⟨w.heap.size, 0, none⟩ = some (.func (.func F) #[] caps) := Blk.cell (unhide HI).1.1 0
    have hpl : (ps0 ++ (List.range k).map (fun k => xc + k)).length < len := by
     have := (unhide HP).1
     rw [List.length_append, List.length_map, List.length_range]
     omega
    have CC := hide (unhide C1 _ k wr hlt hpl (unhide HI).1.2.2.2.2.2.1)
    have i0 : (0 : Int) ≤ (k : Int) := by omega
    have i1 : (k : Int) < (c : Int) := by omega
    have hq : xc + k < len := by have := (unhide HP).2; omega
    have HQ := hide hq
    have cb : c ≤ 12 := (unhide HC).2
    clear hpl hq
    gi_wp2_with fail
    refine ⟨trivial, ?_⟩
    refine (CallsIn.inRound l (callsIn_wide.2 (unhide CC))).mono ?_
    rintro e w2 ⟨rfl, j2, s2⟩
    have P := MdS.put (unhide HJ) (unhide HI).1 s2 j2
    rw [range_snoc (fun k => xc + k)] at P
    have hk0 : w2.cell? ⟨w.heap.size + 1 + 1, xc + k, none⟩ = some (.int .i64 (soFar Z (ps0 ++ (List.range k).map (fun k => xc + k)) (xc + k))) := by rw [Blk.cell P.2.1, ints_at len _ _ (unhide HQ)]
    have hfz := Blk.free P.2.1 (xc + k)
    have R : Hid (MdS w r c len Z (.func (.func F) #[] caps) J (ps0 ++ (List.range (k + 1)).map (fun k => xc + k)) (w2.setCell ⟨w.heap.size + 1 + 1, xc + k, none⟩ (.int .i64 (Z (xc + k)))) ∧ KeepsFrom W0.heap.size W (w2.setCell ⟨w.heap.size + 1 + 1, xc + k, none⟩ (.int .i64 (Z (xc + k)))) ∧ KpR (w.heap.size + 1 + 1 + 1 + 1) W (w2.setCell ⟨w.heap.size + 1 + 1, xc + k, none⟩ (.int .i64 (Z (xc + k))))) :=
     ⟨P.1, (unhide HI).2.1.trans (P.2.2.1 _ (unhide HB)), kpR_t (unhide HI).2.2 P.2.2.2⟩
    generalize soFar Z (ps0 ++ (List.range k).map (fun k => xc + k)) (xc + k) = old at hk0
    generalize Z (xc + k) = z at *
    clear P j2 s2 CC d0 HI
    gi_wp2
    go_roundw
    case rel => exact ⟨k + 1, by omega, by go_num, R⟩
    case measure => simp [intOf]; omega
   ·obtain rfl : k = c := by omega
    have R : Hid (KeepsFrom W0.heap.size W wr ∧ KpR (w.heap.size + 1 + 1 + 1 + 1) W wr ∧ MdS w r k len Z (.func (.func F) #[] caps) J (vis k (pre ++ [x])) wr) := by
     rw [unhide HV]
     exact ⟨(unhide HI).2.1, (unhide HI).2.2, (unhide HI).1⟩
    clear HI HS
    gi_wp2
    exact unhide R
 case done =>
  rintro D ys W hD rfl hS hDf
  have hS' : MdS w r c len Z (.func (.func F) #[] caps) J (List.range len) W := by
   have e := vis_all r c
   rw [hlen] at e
   rw [← e]
   exact hS
  obtain ⟨h1, h2, h3, h4, h5, h6, h7⟩ := hS'
  rw [soFar_all] at h3
  have d0 : W.cell? ⟨w.heap.size + 1 + 1 + 1, 0, none⟩ = some (.int .i64 r) := Blk.cell h4 0
  have d1 : W.cell? ⟨w.heap.size + 1 + 1 + 1, 1, none⟩ = some (.int .i64 c) := Blk.cell h4 1
  have d2 : W.cell? ⟨w.heap.size + 1 + 1 + 1, 2, none⟩ = some (.slice (some ⟨w.heap.size + 1 + 1, 0, none⟩) len len) := Blk.cell h4 2
  have e0 : W.cell? ⟨w.heap.size + 1, 0, none⟩ = some (.int .i64 0) := Blk.cell h2 0
  have e1 : W.cell? ⟨w.heap.size + 1, 1, none⟩ = some (.int .i64 0) := Blk.cell h2 1
  have e2 : W.cell? ⟨w.heap.size + 1, 2, none⟩ = some (.slice none 0 0) := Blk.cell h2 2
  have f := Blk.free h2
  have HP := hide (And.intro h2 (And.intro h3 (And.intro h6 h7)))
  clear hS h1 h2 h3 h4 h5 h6 h7 st0 hl hr hc hlen lb
  gi_wp2
  obtain ⟨h2, h3, h6, h7⟩ := unhide HP
  have m2 : Mod (w.heap.size + 1) W (((W.setCell ⟨w.heap.size + 1, 0, none⟩ (.int .i64 r)).setCell ⟨w.heap.size + 1, 1, none⟩ (.int .i64 c)).setCell ⟨w.heap.size + 1, 2, none⟩ (.slice (some ⟨w.heap.size + 1 + 1, 0, none⟩) len len)) := (((Mod.refl _ _).setCell 0 _).setCell 1 _).setCell 2 _
  have B2 := Blk.set (Blk.set (Blk.set h2 0 (.int .i64 r)) 1 (.int .i64 c)) 2 (.slice (some ⟨w.heap.size + 1 + 1, 0, none⟩) len len)
  have B3 := Blk.keep h3 m2 (by omega)
  have J2 : J (List.range len) (((W.setCell ⟨w.heap.size + 1, 0, none⟩ (.int .i64 r)).setCell ⟨w.heap.size + 1, 1, none⟩ (.int .i64 c)).setCell ⟨w.heap.size + 1, 2, none⟩ (.slice (some ⟨w.heap.size + 1 + 1, 0, none⟩) len len)) := unhide HJ _ _ _ h6 ⟨m2.1, m2.2.1, fun k hk => m2.2.2.1 k (by omega) (by omega), m2.2.2.2.2⟩
  have kD : (((W.setCell ⟨w.heap.size + 1, 0, none⟩ (.int .i64 r)).setCell ⟨w.heap.size + 1, 1, none⟩ (.int .i64 c)).setCell ⟨w.heap.size + 1, 2, none⟩ (.slice (some ⟨w.heap.size + 1 + 1, 0, none⟩) len len)).heap[D]? = some (.deferred (some [])) := (((KeepsOthers.setCell _ _ _).trans (KeepsOthers.setCell _ _ _)).trans (KeepsOthers.setCell _ _ _)).same D _ hDf rfl
  have hz := m2.2.2.2.2
  generalize (((W.setCell ⟨w.heap.size + 1, 0, none⟩ (.int .i64 r)).setCell ⟨w.heap.size + 1, 1, none⟩ (.int .i64 c)).setCell ⟨w.heap.size + 1, 2, none⟩ (.slice (some ⟨w.heap.size + 1 + 1, 0, none⟩) len len)) = WW at *
  have gD := grownBy_putObj' WW D (.deferred none)
  have B2' := Blk.by B2 gD (fun e => by cases e; omega)
  have B3' := Blk.by B3 gD (fun e => by cases e; omega)
  have J3 := unhide HJ _ _ _ J2 (SB.by gD (by omega) (fun k e => by cases e; omega))
  refine ⟨by simp, .inl ⟨_, _, rfl, run_takeDeferred kD, ?_⟩⟩
  have c0 : (WW.putObj D (.deferred none)).cell? ⟨w.heap.size + 1, 0, none⟩ = some (.int .i64 r) := Blk.cell B2' 0
  have c1 : (WW.putObj D (.deferred none)).cell? ⟨w.heap.size + 1, 1, none⟩ = some (.int .i64 c) := Blk.cell B2' 1
  have c2 : (WW.putObj D (.deferred none)).cell? ⟨w.heap.size + 1, 2, none⟩ = some (.slice (some ⟨w.heap.size + 1 + 1, 0, none⟩) len len) := Blk.cell B2' 2
  generalize WW.putObj D (.deferred none) = WP at *
  refine ⟨.agg #[.int .i64 r, .int .i64 c, .slice (some ⟨w.heap.size + 1 + 1, 0, none⟩) len len], by simp [results, Tryz.results66, go_sem, c0, c1, c2], ?_⟩
  have hlen := (unhide HL).1
  unfold MadeP
  rw [hlen]
  exact ⟨_, by omega, rfl, B3', J3⟩
 case stop =>
  rintro D c pre W hD hpre h
  exact h.elim
end
end Go.Proofs.YtjobgjcfkomhpaaGreat
namespace Go.Proofs.YtjobgjcfkomhpaaGreat
open Go.RowKit Go.Proofs.Wd
set_option maxRecDepth 10000
def Mk (U : Nat) (w w' : World) : Prop := w'.os = w.os ∧ w'.output = w.output ∧ (∀ k, k < w.heap.size → k ≠ U → w'.heap[k]? = w.heap[k]?) ∧ w.heap.size ≤ w'.heap.size
theorem Mk.of {U : Nat} {w w' : World} (m : Mod U w w') : Mk U w w' := ⟨m.1, m.2.1, m.2.2.1, m.2.2.2.2⟩
theorem Mk.refl (U : Nat) (w : World) : Mk U w w := ⟨rfl, rfl, fun _ _ _ => rfl, Nat.le_refl _⟩
theorem Mk.trans {U : Nat} {a b c : World} (h : Mk U a b) (k : Mk U b c) : Mk U a c :=
 ⟨k.1.trans h.1, k.2.1.trans h.2.1, fun i hi hu => (k.2.2.1 i (Nat.lt_of_lt_of_le hi h.2.2.2) hu).trans (h.2.2.1 i hi hu), Nat.le_trans h.2.2.2 k.2.2.2⟩
theorem Mk.grown {U : Nat} {a b c : World} (h : Mk U a b) (k : Grown b c) : Mk U a c := h.trans (Mk.of (Mod.of k))
theorem Mk.by {U : Nat} {a b c : World} {row : Option Nat} (h : Mk U a b) (m : b.grownBy c row) (hr : ∀ k, row = some k → a.heap.size ≤ k) : Mk U a c :=
 ⟨m.os.trans h.1, m.output.trans h.2.1, fun i hi hu => (m.block i (Nat.lt_of_lt_of_le hi h.2.2.2) (fun e => by have := hr i e.symm; omega)).trans (h.2.2.1 i hi hu), Nat.le_trans h.2.2.2 m.size⟩
theorem Mk.new {U L : Nat} {a b c : World} (h : Mk U a b) (k : Mod L b c) (hL : a.heap.size ≤ L) : Mk U a c :=
 ⟨k.1.trans h.1, k.2.1.trans h.2.1, fun i hi hu => (k.2.2.1 i (Nat.lt_of_lt_of_le hi h.2.2.2) (by omega)).trans (h.2.2.1 i hi hu), Nat.le_trans h.2.2.2 k.2.2.2.2⟩
theorem Mk.kp {U : Nat} {a b : World} (k : Kp a b) : Mk U a b := ⟨k.1, k.2.1, fun i hi _ => k.2.2.1 i hi, k.2.2.2⟩
theorem Blk.mk {U V : Nat} {cs : Array Value} {T : TypeId} {w w' : World} (h : Blk U cs T w) (m : Mk V w w') (hne : U ≠ V) : Blk U cs T w' := (m.2.2.1 U h.lt hne).trans h
theorem Mk.cell {U : Nat} {w w' : World} (m : Mk U w w') {b o : Nat} {v : Value} (h : w.cell? ⟨b, o, none⟩ = some v) (hb : b ≠ U) : w'.cell? ⟨b, o, none⟩ = some v :=
 (World.cell?_of_block (m.2.2.1 b (heap_gt h) hb)).trans h
theorem Row.mk {U : Nat} {w w' : World} {ao : Option Addr} {len : Nat} {Z : Nat → Int} (h : Row w ao len Z) (m : Mk U w w') (ho : Off U len ao) : Row w' ao len Z := by
 rcases h with h | ⟨b, o, rfl, hc⟩
 ·exact Or.inl h
 ·exact Or.inr ⟨b, o, rfl, fun i hi => m.cell (hc i hi) (ho (by omega) _ rfl)⟩
theorem owns_mod {U : Nat} {w w' : World} {base : Nat} {e : TypeId} {size : Nat} {v : Value} {n : Nat} {xs : List Value} (h : w.ownsRow base e size v n xs) (m : Mod U w w') (hU : U < base) : w'.ownsRow base e size v n xs := by
 refine ⟨h.1, ?_⟩
 rcases h.2 with h2 | ⟨g, cap, cur, rfl, hb, hg, r⟩
 ·exact Or.inl h2
 ·exact Or.inr ⟨g, cap, cur, rfl, hb, (m.2.2.1 g (Array.getElem?_eq_some_iff.1 hg).1 (by omega)).trans hg, r⟩
def ix (l : List Int) (i : Nat) : Int := l.getD i 0
theorem row_lit {w : World} {b : Nat} {l : List Int} {t : TypeId} (h : Blk b (l.map (Value.int .i64)).toArray t w) : Row w (some ⟨b, 0, none⟩) l.length (ix l) := by
 refine Or.inr ⟨b, 0, rfl, fun i hi => ?_⟩
 rw [Blk.cell h]
 simp [ix, hi]
theorem blk_new2 (w : World) (A : Obj) (cs : Array Value) (t : TypeId) : Blk (w.heap.size + 1) cs t ((w.alloc A).alloc (.cells cs t)) := by
 have := heap_alloc_new (w.alloc A) (.cells cs t)
 simpa [Blk] using this
end Go.Proofs.YtjobgjcfkomhpaaGreat
namespace Go.Proofs.YtjobgjcfkomhpaaGreat
open Go.RowKit Go.Shelf Go.Proofs.Wd
set_option maxRecDepth 10000
theorem orC_any (G : Nat → Bool) : ∀ n, (List.range n).any G = orC G n
 | 0 => rfl
 | n + 1 => by
  rw [List.range_succ, List.any_append, orC_any G n]
  simp [orC]
theorem madeN (F : Nat) (eF : ∀ args w, (callFunc F args).run Tryz.prog w = .ok (.enter F args) w) (caps : Array Value) (r c : Nat) (hr : 1 ≤ r ∧ r ≤ 12) (hc : 1 ≤ c ∧ c ≤ 12) (Z : Nat → Int) (w : World)
  (C : ∀ i k a, i < r → k < c → Kp w a → Calls Tryz.prog F (#[.int .i64 (i : Int), .int .i64 (k : Int)] ++ caps) a fun e b => e = .returned (.int .i64 (Z (i * c + k))) ∧ Kp a b) :
  Calls Tryz.prog 66 #[.int .i64 r, .int .i64 c, .func (.func F) #[] caps] w fun e w' => MadeP r c Z (Kp w) w e w' := by
 refine matMade F eF caps r c hr hc Z (fun _ a => Kp w a) w (fun ps a b h s => ?_) (fun ps i k a hi hk _ h => ?_) (Kp.refl w)
 ·exact ⟨s.1.trans h.1, s.2.1.trans h.2.1, fun i hi => (s.2.2.1 i hi).trans (h.2.2.1 i hi), Nat.le_trans h.2.2.2 s.2.2.2⟩
 ·refine (C i k a hi hk h).mono ?_
  rintro e b ⟨he, hb⟩
  exact ⟨he, h.trans hb, fun j _ hj => hb.2.2.1 j hj, hb.2.2.2⟩
theorem madeU (U : Nat) (c0 : Bool) (n0 : Int) (d : Int) (hd : 0 ≤ d ∧ d ≤ 1000) (G : Nat → Bool) (F : Nat) (eF : ∀ args w, (callFunc F args).run Tryz.prog w = .ok (.enter F args) w) (caps : Array Value) (r c : Nat) (hr : 1 ≤ r ∧ r ≤ 12) (hc : 1 ≤ c ∧ c ≤ 12) (Z : Nat → Int) (w : World)
  (hn : 0 ≤ n0 ∧ n0 < 1152921504606846976) (hU : UC U c0 n0 w)
  (C : ∀ cc nn i k a, i < r → k < c → 0 ≤ nn ∧ nn < 2305843009213693952 → UC U cc nn a → Mk U w a → Calls Tryz.prog F (#[.int .i64 (i : Int), .int .i64 (k : Int)] ++ caps) a fun e b => e = .returned (.int .i64 (Z (i * c + k))) ∧ UC U (cc || G (i * c + k)) (nn + d) b ∧ Mk U a b) :
  Calls Tryz.prog 66 #[.int .i64 r, .int .i64 c, .func (.func F) #[] caps] w fun e w' => MadeP r c Z (fun w' => UC U (c0 || orC G (r * c)) (n0 + d * ((r * c : Nat) : Int)) w' ∧ Mk U w w') w e w' := by
 have hlt := Blk.lt hU
 have hl := mul12n r c hr hc
 have J0 : UC U (c0 || [].any G) (n0 + d * (([] : List Nat).length : Int)) w ∧ Mk U w w := by
  refine ⟨?_, Mk.refl _ _⟩
  show UC U (c0 || false) (n0 + d * 0) w
  rw [Bool.or_false, Int.mul_zero, Int.add_zero]
  exact hU
 refine (matMade F eF caps r c hr hc Z (fun ps a => UC U (c0 || ps.any G) (n0 + d * (ps.length : Int)) a ∧ Mk U w a) w (fun ps a b h s => ?_) (fun ps i k a hi hk hp h => ?_) J0).mono ?_
 ·exact ⟨(s.2.2.1 U hlt).trans h.1, s.1.trans h.2.1, s.2.1.trans h.2.2.1, fun i hi hu => (s.2.2.1 i hi).trans (h.2.2.2.1 i hi hu), Nat.le_trans h.2.2.2.2 s.2.2.2⟩
 ·have hb : 0 ≤ d * (ps.length : Int) ∧ d * (ps.length : Int) ≤ 1000 * 144 := ⟨Int.mul_nonneg hd.1 (by omega), Int.mul_le_mul hd.2 (by omega) (by omega) (by omega)⟩
  refine (C _ _ i k a hi hk (by omega) h.1 h.2).mono ?_
  rintro e b ⟨he, hb, hm⟩
  refine ⟨he, ⟨?_, h.2.trans hm⟩, fun j hj1 hj2 => hm.2.2.1 j hj2 (by omega), hm.2.2.2⟩
  rw [List.any_append, List.length_append, ← Bool.or_assoc]
  show UC U (c0 || ps.any G || (G (i * c + k) || false)) (n0 + d * ((ps.length + 1 : Nat) : Int)) b
  rw [Bool.or_false, show n0 + d * ((ps.length + 1 : Nat) : Int) = n0 + d * (ps.length : Int) + d by rw [Int.natCast_add, Int.mul_add]; omega]
  exact hb
 ·rintro e w' ⟨L, h1, h2, h3, h4, h5⟩
  rw [orC_any, List.length_range] at h4
  exact ⟨L, h1, h2, h3, h4, h5⟩
def MatP (r c : Int) (len : Nat) (Z : Nat → Int) (err : Int) (X : World → Prop) (w : World) (e : Ending) (w' : World) : Prop :=
 ∃ ao cap B, e = .returned (.tuple #[.agg #[.int .i64 r, .int .i64 c, .slice ao len cap], .int .i64 err]) ∧ w.heap.size ≤ B ∧ (len = 0 ∨ (ao = some ⟨B, 0, none⟩ ∧ Blk B (ints len Z) 3 w')) ∧ len ≤ cap ∧ X w'
theorem Row.some {w : World} {ao : Option Addr} {len : Nat} {Z : Nat → Int} (h : Row w ao len Z) (hl : 1 ≤ len) : ∃ b o, ao = some ⟨b, o, none⟩ ∧ ∀ i, i < len → w.cell? ⟨b, o + i, none⟩ = some (.int .i64 (Z i)) := by
 rcases h with h | h
 ·omega
 ·exact h
theorem putM {Br : Nat} {T : TypeId} {v0 v1 v2 : Value} {w : World} (h : Blk Br #[v0, v1, v2] T w) (x y z : Value) :
  Blk Br #[x, y, z] T (((w.setCell ⟨Br, 0, none⟩ x).setCell ⟨Br, 1, none⟩ y).setCell ⟨Br, 2, none⟩ z) ∧ Mod Br w (((w.setCell ⟨Br, 0, none⟩ x).setCell ⟨Br, 1, none⟩ y).setCell ⟨Br, 2, none⟩ z) :=
 ⟨Blk.set (Blk.set (Blk.set h 0 x) 1 y) 2 z, (((Mod.refl _ _).setCell 0 _).setCell 1 _).setCell 2 _⟩
set_option maxHeartbeats 400000 in
theorem diag1 (i k n Bl cap : Nat) (ao : Option Addr) (L : Nat → Int) (hi : i < n) (hk : k < n) (w : World) (hb : w.cell? ⟨Bl, 0, none⟩ = some (.slice ao n cap)) (hr : Row w ao n L) :
  Calls Tryz.prog 103 (#[.int .i64 (i : Int), .int .i64 (k : Int)] ++ #[.pointer (some ⟨Bl, 0, none⟩)]) w fun e b => e = .returned (.int .i64 (diagZ L n (i * n + k))) ∧ Kp w b := by
 have hd : diagZ L n (i * n + k) = if i = k then L i else 0 := by
  unfold diagZ
  rw [place_div _ _ _ hk, place_mod _ _ _ hk]
 rw [hd]
 show Calls Tryz.prog 103 #[.int .i64 (i : Int), .int .i64 (k : Int), .pointer (some ⟨Bl, 0, none⟩)] w _
 obtain ⟨b, o, rfl, hc⟩ := hr.at hi
 clear hd hr
 by_cases e : i = k
 ·subst e
  rw [if_pos rfl]
  generalize L i = z at *
  have i0 : (0 : Int) ≤ (i : Int) := by omega
  have i1 : (i : Int) < (n : Int) := by omega
  clear hi hk
  go_enter Tryz.func103, Tryz.ntmps103
  go_wp2
  go_ret
  exact ⟨rfl, Kp.refl _⟩
 ·rw [if_neg e]
  have ne : ((i : Int) != (k : Int)) = true := by simp; omega
  clear hi hk e hc hb
  go_enter Tryz.func103, Tryz.ntmps103
  go_wp2
  go_ret
  exact ⟨rfl, Kp.refl _⟩
set_option maxHeartbeats 1000000 in
theorem matDiag_ok (n cap : Nat) (ao : Option Addr) (L : Nat → Int) (hn : 1 ≤ n ∧ n ≤ 12) (w : World) (hr : Row w ao n L) :
  Calls Tryz.prog 61 #[.slice ao n cap] w fun e w' => MatP n n (n * n) (diagZ L n) 0 (Kp w) w e w' := by
 have FT := hide (fun w => matFits (n : Int) w)
 rw [decide_eq_true (by omega)] at FT
 have G : Grown w ((w.alloc (.cells #[.slice ao n cap] 22)).alloc (.cells #[.int .i64 0, .int .i64 0, .slice none 0 0] 38)) := ((Grown.refl _).alloc _ _).alloc _ _
 have bl : Blk w.heap.size #[.slice ao n cap] 22 ((w.alloc (.cells #[.slice ao n cap] 22)).alloc (.cells #[.int .i64 0, .int .i64 0, .slice none 0 0] 38)) := Blk.grown (Blk.new w _ _) ((Grown.refl _).alloc _ _)
 have br := blk_new2 w (.cells #[.slice ao n cap] 22) #[.int .i64 0, .int .i64 0, .slice none 0 0] 38
 have d0 : ((w.alloc (.cells #[.slice ao n cap] 22)).alloc (.cells #[.int .i64 0, .int .i64 0, .slice none 0 0] 38)).cell? ⟨w.heap.size, 0, none⟩ = some (.slice ao n cap) := Blk.cell bl 0
 have M := hide (madeN 103 (enters_of Tryz.func103 (by kernel_rfl) rfl) #[.pointer (some ⟨w.heap.size, 0, none⟩)] n n hn hn (diagZ L n) ((w.alloc (.cells #[.slice ao n cap] 22)).alloc (.cells #[.int .i64 0, .int .i64 0, .slice none 0 0] 38))
  (fun i k a hi hk ka => diag1 i k n w.heap.size cap ao L hi hk a (Blk.cell (Blk.kp bl ka) 0) ((hr.grown G).kp ka)))
 have HG := hide G
 have HB := hide br
 clear G bl br hr hn
 go_enter Tryz.func61, Tryz.ntmps61
 go_wp2_with fail
 generalize (w.alloc (.cells #[.slice ao n cap] 22)).alloc (.cells #[.int .i64 0, .int .i64 0, .slice none 0 0] 38) = w1 at *
 refine (unhide FT _).mono ?_
 rintro e w2 ⟨rfl, rfl⟩
 go_wp2_with fail
 refine (unhide M).mono ?_
 rintro e w3 ⟨Lb, h1, rfl, h3, h4⟩
 have b3 := Blk.kp (unhide HB) h4
 have e0 : w3.cell? ⟨w.heap.size + 1, 0, none⟩ = some (.int .i64 0) := Blk.cell b3 0
 have e1 : w3.cell? ⟨w.heap.size + 1, 1, none⟩ = some (.int .i64 0) := Blk.cell b3 1
 have e2 : w3.cell? ⟨w.heap.size + 1, 2, none⟩ = some (.slice none 0 0) := Blk.cell b3 2
 have f := Blk.free b3
 have R := hide (And.intro b3 (And.intro h1 (And.intro h3 h4)))
 clear b3 h1 h3 h4 M FT d0
 go_wp2
 obtain ⟨b3, h1, h3, h4⟩ := unhide R
 have P := putM b3 (.int .i64 n) (.int .i64 n) (.slice (some ⟨Lb, 0, none⟩) (n * n) (n * n))
 generalize (((w3.setCell ⟨w.heap.size + 1, 0, none⟩ (.int .i64 n)).setCell ⟨w.heap.size + 1, 1, none⟩ (.int .i64 n)).setCell ⟨w.heap.size + 1, 2, none⟩ (.slice (some ⟨Lb, 0, none⟩) (n * n) (n * n))) = wE at *
 have c0 : wE.cell? ⟨w.heap.size + 1, 0, none⟩ = some (.int .i64 n) := Blk.cell P.1 0
 have c1 : wE.cell? ⟨w.heap.size + 1, 1, none⟩ = some (.int .i64 n) := Blk.cell P.1 1
 have c2 : wE.cell? ⟨w.heap.size + 1, 2, none⟩ = some (.slice (some ⟨Lb, 0, none⟩) (n * n) (n * n)) := Blk.cell P.1 2
 refine bodyPost_ret (v := .tuple #[.agg #[.int .i64 n, .int .i64 n, .slice (some ⟨Lb, 0, none⟩) (n * n) (n * n)], .int .i64 0]) (by simp [results, Tryz.results61, go_sem, c0, c1, c2]) rfl ?_
 have hB := Blk.lt (unhide HB)
 have hs := (unhide HG).2.2
 exact ⟨_, _, Lb, rfl, by omega, Or.inr ⟨rfl, Blk.keep h3 P.2 (by omega)⟩, Nat.le_refl _, ((Kp.of (unhide HG)).trans h4).mod P.2 (by omega)⟩
theorem refuseDot (U : Nat) (c : Bool) (n : Int) (hn : 0 ≤ n ∧ n < 2305843009213693952) (w : World) (h : UC U c n w) : Calls Tryz.prog 72 #[.pointer (some ⟨U, 0, none⟩), .slice none 0 0, .slice none 0 0] w fun e w' => e = .returned (.tuple #[.int .i64 0, .int .i64 0]) ∧ UC U c n w' ∧ Mod U w w' := by
 refine (unitDot_ok U c n none none 0 0 0 (fun _ => 0) (fun _ => 0) hn (by omega) (fun _ h => absurd h (Nat.not_lt_zero _)) (fun _ h => absurd h (Nat.not_lt_zero _)) w h (Or.inl rfl) (fun h => absurd h (Nat.lt_irrefl _)) (Or.inl rfl) (fun h => absurd h (Nat.lt_irrefl _))).mono ?_
 rintro e w' ⟨rfl, hu, hm⟩
 refine ⟨rfl, ?_, hm⟩
 have e1 : (c || dotC (fun _ => 0) (fun _ => 0) 0) = c := Bool.or_false c
 have e2 : n + 2 * ((0 : Nat) : Int) = n := by omega
 rw [e1, e2] at hu
 exact hu
set_option maxHeartbeats 2000000 in
theorem refuse1 (U : Nat) (c : Bool) (n : Int) (hn : 0 ≤ n ∧ n < 2305843009213693952) (r0 c0 : Int) (a0 : Option Addr) (l0 p0 : Nat) (xb : Nat) (err : Int) (hE : Hid (((okM r0 c0 l0) ∧ err = 0) ∨ (¬ (okM r0 c0 l0) ∧ err = 3))) (w : World) (h : UC U c n w) (hb : Blk xb #[.int .i64 r0, .int .i64 c0, .slice a0 l0 p0] 38 w) (hx : xb ≠ U) :
  Calls Tryz.prog 65 #[.pointer (some ⟨U, 0, none⟩), .slice (some ⟨xb, 0, none⟩) 1 1] w fun e w' => e = .returned (.int .i64 err) ∧ UC U c n w' ∧ Mod U w w' := by
 have D := hide (refuseDot U c n hn w h)
 have HB := hide (And.intro hb hx)
 clear h hb hx
 go_enter Tryz.func65, Tryz.ntmps65
 go_wp2_with fail
 refine (unhide D).mono ?_
 rintro e w1 ⟨rfl, h1, m1⟩
 have S1 : Hid (UC U c n w1 ∧ Mod U w w1 ∧ Blk xb #[.int .i64 r0, .int .i64 c0, .slice a0 l0 p0] 38 w1) := ⟨h1, m1, Blk.keep (unhide HB).1 m1 (unhide HB).2⟩
 clear h1 m1 D
 go_wp2_with fail
 go_loopw [20] (fun i wr => ((i = .int .i64 0) ∨ (i = .int .i64 1 ∧ Hid (okM r0 c0 l0))) ∧ Hid (UC U c n wr ∧ Mod U w wr ∧ Blk xb #[.int .i64 r0, .int .i64 c0, .slice a0 l0 p0] 38 wr)) (fun i _ => 1 - (intOf i).toNat)
 case atStart => exact ⟨Or.inl rfl, S1⟩
 case round =>
  obtain ⟨hi, HI⟩ := hrel
  clear S1
  rcases hi with rfl | ⟨rfl, o0⟩
  ·have CK := hide (fun w => matCheck r0 c0 a0 l0 p0 w)
   have q0 := Blk.cell (unhide HI).2.2 0
   have q1 := Blk.cell (unhide HI).2.2 1
   have q2 := Blk.cell (unhide HI).2.2 2
   simp at q0 q1 q2
   have hlt : xb < wr.heap.size := Blk.lt (unhide HI).2.2
   have hne : xb ≠ wr.heap.size := Nat.ne_of_lt hlt
   have G1 : Hid (Grown wr (wr.alloc (.cells #[.int .i64 r0, .int .i64 c0, .slice a0 l0 p0] 38))) := (Grown.refl _).alloc _ _
   by_cases hk : okM r0 c0 l0
   ·rw [chk_ok hk] at CK
    have OK := hide hk
    clear hk
    go_wp2_with fail
    refine (unhide CK _).mono ?_
    rintro e w3 ⟨rfl, g3⟩
    have S3 : Hid (UC U c n w3 ∧ Mod U w w3 ∧ Blk xb #[.int .i64 r0, .int .i64 c0, .slice a0 l0 p0] 38 w3) := ⟨Blk.grown (Blk.grown (unhide HI).1 (unhide G1)) g3, ((unhide HI).2.1.trans (Mod.of (unhide G1))).trans (Mod.of g3), Blk.grown (Blk.grown (unhide HI).2.2 (unhide G1)) g3⟩
    clear g3 CK G1 HI q0 q1 q2
    go_wp2
    go_roundw
    case rel => exact ⟨Or.inr (⟨by go_num, OK⟩), S3⟩
    case measure => simp [intOf]
   ·rw [chk_bad hk] at CK
    have HE : Hid (err = 3) := by
     rcases unhide hE with h | h
     ·exact absurd h.1 hk
     ·exact h.2
    clear hk
    go_wp2_with fail
    refine (unhide CK _).mono ?_
    rintro e w3 ⟨rfl, g3⟩
    have S3 : Hid (UC U c n w3 ∧ Mod U w w3) := ⟨Blk.grown (Blk.grown (unhide HI).1 (unhide G1)) g3, ((unhide HI).2.1.trans (Mod.of (unhide G1))).trans (Mod.of g3)⟩
    clear g3 CK G1 HI q0 q1 q2
    go_wp2
    go_ret
    exact ⟨by rw [unhide HE]; rfl, unhide S3⟩
  ·have HE : Hid (err = 0) := by
    rcases unhide hE with h | h
    ·exact h.2
    ·exact absurd o0 h.1
   have S3 : Hid (UC U c n wr ∧ Mod U w wr) := ⟨(unhide HI).1, (unhide HI).2.1⟩
   clear HI
   go_wp2
   go_ret
   exact ⟨by rw [unhide HE]; rfl, unhide S3⟩
set_option maxHeartbeats 2000000 in
theorem refuse2 (U : Nat) (c : Bool) (n : Int) (hn : 0 ≤ n ∧ n < 2305843009213693952) (r0 c0 : Int) (a0 : Option Addr) (l0 p0 : Nat) (r1 c1 : Int) (a1 : Option Addr) (l1 p1 : Nat) (xb : Nat) (err : Int) (hE : Hid (((okM r0 c0 l0 ∧ okM r1 c1 l1) ∧ err = 0) ∨ (¬ (okM r0 c0 l0 ∧ okM r1 c1 l1) ∧ err = 3))) (w : World) (h : UC U c n w) (hb : Blk xb #[.int .i64 r0, .int .i64 c0, .slice a0 l0 p0, .int .i64 r1, .int .i64 c1, .slice a1 l1 p1] 38 w) (hx : xb ≠ U) :
  Calls Tryz.prog 65 #[.pointer (some ⟨U, 0, none⟩), .slice (some ⟨xb, 0, none⟩) 2 2] w fun e w' => e = .returned (.int .i64 err) ∧ UC U c n w' ∧ Mod U w w' := by
 have D := hide (refuseDot U c n hn w h)
 have HB := hide (And.intro hb hx)
 clear h hb hx
 go_enter Tryz.func65, Tryz.ntmps65
 go_wp2_with fail
 refine (unhide D).mono ?_
 rintro e w1 ⟨rfl, h1, m1⟩
 have S1 : Hid (UC U c n w1 ∧ Mod U w w1 ∧ Blk xb #[.int .i64 r0, .int .i64 c0, .slice a0 l0 p0, .int .i64 r1, .int .i64 c1, .slice a1 l1 p1] 38 w1) := ⟨h1, m1, Blk.keep (unhide HB).1 m1 (unhide HB).2⟩
 clear h1 m1 D
 go_wp2_with fail
 go_loopw [20] (fun i wr => ((i = .int .i64 0) ∨ (i = .int .i64 1 ∧ Hid (okM r0 c0 l0)) ∨ (i = .int .i64 2 ∧ Hid (okM r0 c0 l0) ∧ Hid (okM r1 c1 l1))) ∧ Hid (UC U c n wr ∧ Mod U w wr ∧ Blk xb #[.int .i64 r0, .int .i64 c0, .slice a0 l0 p0, .int .i64 r1, .int .i64 c1, .slice a1 l1 p1] 38 wr)) (fun i _ => 2 - (intOf i).toNat)
 case atStart => exact ⟨Or.inl rfl, S1⟩
 case round =>
  obtain ⟨hi, HI⟩ := hrel
  clear S1
  rcases hi with rfl | ⟨rfl, o0⟩ | ⟨rfl, o0, o1⟩
  ·have CK := hide (fun w => matCheck r0 c0 a0 l0 p0 w)
   have q0 := Blk.cell (unhide HI).2.2 0
   have q1 := Blk.cell (unhide HI).2.2 1
   have q2 := Blk.cell (unhide HI).2.2 2
   simp at q0 q1 q2
   have hlt : xb < wr.heap.size := Blk.lt (unhide HI).2.2
   have hne : xb ≠ wr.heap.size := Nat.ne_of_lt hlt
   have G1 : Hid (Grown wr (wr.alloc (.cells #[.int .i64 r0, .int .i64 c0, .slice a0 l0 p0] 38))) := (Grown.refl _).alloc _ _
   by_cases hk : okM r0 c0 l0
   ·rw [chk_ok hk] at CK
    have OK := hide hk
    clear hk
    go_wp2_with fail
    refine (unhide CK _).mono ?_
    rintro e w3 ⟨rfl, g3⟩
    have S3 : Hid (UC U c n w3 ∧ Mod U w w3 ∧ Blk xb #[.int .i64 r0, .int .i64 c0, .slice a0 l0 p0, .int .i64 r1, .int .i64 c1, .slice a1 l1 p1] 38 w3) := ⟨Blk.grown (Blk.grown (unhide HI).1 (unhide G1)) g3, ((unhide HI).2.1.trans (Mod.of (unhide G1))).trans (Mod.of g3), Blk.grown (Blk.grown (unhide HI).2.2 (unhide G1)) g3⟩
    clear g3 CK G1 HI q0 q1 q2
    go_wp2
    go_roundw
    case rel => exact ⟨Or.inr (Or.inl ⟨by go_num, OK⟩), S3⟩
    case measure => simp [intOf]
   ·rw [chk_bad hk] at CK
    have HE : Hid (err = 3) := by
     rcases unhide hE with h | h
     ·exact absurd h.1.1 hk
     ·exact h.2
    clear hk
    go_wp2_with fail
    refine (unhide CK _).mono ?_
    rintro e w3 ⟨rfl, g3⟩
    have S3 : Hid (UC U c n w3 ∧ Mod U w w3) := ⟨Blk.grown (Blk.grown (unhide HI).1 (unhide G1)) g3, ((unhide HI).2.1.trans (Mod.of (unhide G1))).trans (Mod.of g3)⟩
    clear g3 CK G1 HI q0 q1 q2
    go_wp2
    go_ret
    exact ⟨by rw [unhide HE]; rfl, unhide S3⟩
  ·have CK := hide (fun w => matCheck r1 c1 a1 l1 p1 w)
   have q0 := Blk.cell (unhide HI).2.2 3
   have q1 := Blk.cell (unhide HI).2.2 4
   have q2 := Blk.cell (unhide HI).2.2 5
   simp at q0 q1 q2
   have hlt : xb < wr.heap.size := Blk.lt (unhide HI).2.2
   have hne : xb ≠ wr.heap.size := Nat.ne_of_lt hlt
   have G1 : Hid (Grown wr (wr.alloc (.cells #[.int .i64 r1, .int .i64 c1, .slice a1 l1 p1] 38))) := (Grown.refl _).alloc _ _
   by_cases hk : okM r1 c1 l1
   ·rw [chk_ok hk] at CK
    have OK := hide hk
    clear hk
    go_wp2_with fail
    refine (unhide CK _).mono ?_
    rintro e w3 ⟨rfl, g3⟩
    have S3 : Hid (UC U c n w3 ∧ Mod U w w3 ∧ Blk xb #[.int .i64 r0, .int .i64 c0, .slice a0 l0 p0, .int .i64 r1, .int .i64 c1, .slice a1 l1 p1] 38 w3) := ⟨Blk.grown (Blk.grown (unhide HI).1 (unhide G1)) g3, ((unhide HI).2.1.trans (Mod.of (unhide G1))).trans (Mod.of g3), Blk.grown (Blk.grown (unhide HI).2.2 (unhide G1)) g3⟩
    clear g3 CK G1 HI q0 q1 q2
    go_wp2
    go_roundw
    case rel => exact ⟨Or.inr (Or.inr (⟨by go_num, o0, OK⟩)), S3⟩
    case measure => simp [intOf]
   ·rw [chk_bad hk] at CK
    have HE : Hid (err = 3) := by
     rcases unhide hE with h | h
     ·exact absurd h.1.2 hk
     ·exact h.2
    clear hk
    go_wp2_with fail
    refine (unhide CK _).mono ?_
    rintro e w3 ⟨rfl, g3⟩
    have S3 : Hid (UC U c n w3 ∧ Mod U w w3) := ⟨Blk.grown (Blk.grown (unhide HI).1 (unhide G1)) g3, ((unhide HI).2.1.trans (Mod.of (unhide G1))).trans (Mod.of g3)⟩
    clear g3 CK G1 HI q0 q1 q2
    go_wp2
    go_ret
    exact ⟨by rw [unhide HE]; rfl, unhide S3⟩
  ·have HE : Hid (err = 0) := by
    rcases unhide hE with h | h
    ·exact h.2
    ·exact absurd ⟨unhide o0, unhide o1⟩ h.1
   have S3 : Hid (UC U c n wr ∧ Mod U w wr) := ⟨(unhide HI).1, (unhide HI).2.1⟩
   clear HI
   go_wp2
   go_ret
   exact ⟨by rw [unhide HE]; rfl, unhide S3⟩
end Go.Proofs.YtjobgjcfkomhpaaGreat
namespace Go.Proofs.YtjobgjcfkomhpaaGreat
open Go.RowKit Go.Proofs.Wd
set_option maxRecDepth 10000
set_option maxHeartbeats 1000000 in
theorem bitsMul (x y : Int) (hx : U64 x) (hy : U64 y) (w : World) :
  Calls Tryz.prog 104 #[.int .u64 x, .int .u64 y] w fun e w' => e = .returned (.tuple #[.int .u64 (x * y / 18446744073709551616), .int .u64 (x * y % 18446744073709551616)]) ∧ w' = w := by
 have M := hide (mul64 x y hx hy w)
 generalize x * y / 18446744073709551616 = h at *
 generalize x * y % 18446744073709551616 = l at *
 clear hx hy
 go_enter Tryz.func104, Tryz.ntmps104
 go_wp2_with fail
 refine (unhide M).mono ?_
 rintro e w1 ⟨rfl, rfl⟩
 go_wp2
 go_ret2
 exact ⟨rfl, rfl⟩
def fst0 (s : Int) (k : Nat) (i : Nat) : Int := if i < k then s else 0
theorem splice_fst (n k m : Nat) (s : Int) (h : k + m ≤ n) : splice (ints n (fst0 s k)).toList k (List.replicate m (Value.int .i64 s)) = (ints n (fst0 s (k + m))).toList := by
 apply List.ext_getElem?
 intro i
 have E : ∀ (Z : Nat → Int), (ints n Z).toList[i]? = (ints n Z)[i]? := fun Z => by simp
 rw [E]
 unfold splice
 have l1 : ((ints n (fst0 s k)).toList.take k).length = k := by simp [ints_size]; omega
 by_cases h1 : i < k
 ·rw [List.getElem?_append_left (by omega), List.getElem?_take, if_pos h1, E, ints_at n _ i (by omega), ints_at n _ i (by omega)]
  unfold fst0
  rw [if_pos h1, if_pos (by omega)]
 ·rw [List.getElem?_append_right (by omega), l1]
  by_cases h2 : i < k + m
  ·rw [List.getElem?_append_left (by simp; omega), ints_at n _ i (by omega), List.getElem?_replicate, if_pos (by omega)]
   unfold fst0
   rw [if_pos (by omega)]
  ·rw [List.getElem?_append_right (by simp; omega), List.getElem?_drop]
   simp only [List.length_replicate]
   rw [show k + m + (i - k - m) = i by omega, E]
   by_cases h3 : i < n
   ·rw [ints_at n _ i h3, ints_at n _ i h3]
    unfold fst0
    rw [if_neg h1, if_neg h2]
   ·rw [ints_none n _ i h3, ints_none n _ i h3]
theorem slice_from (g len cap k : Nat) (h : k < cap) (hl : k ≤ len) (w : World) : (Instr.sliceAt 22 (.slice (some ⟨g, 0, none⟩) len cap) (some (.int .i64 k)) none none).run Tryz.prog w = .ok (.slice (some ⟨g, k, none⟩) (len - k) (cap - k)) w := by
 have e : Tryz.prog.underlying 22 = some (.slice (Tryz.prog.elem 22)) := by kernel_rfl
 have s1 : (sizeOf (Tryz.prog.elem 22)).run Tryz.prog w = .ok 1 w := by kernel_rfl
 rw [run_sliceAt_slice w 22 _ _ _ _ e, run_slice_l w 22 _ len cap e .i64 k (by omega) (by omega), s1]
 show Result.ok (sliced _ (k : Int).toNat len cap 1) w = _
 unfold sliced
 rw [Int.toNat_natCast, if_neg (by omega)]
 show Result.ok (Value.slice (some ((⟨g, 0, none⟩ : Addr).add (k * 1))) _ _) w = _
 rw [Go.WideShapes.add_plain, Nat.zero_add, Nat.mul_one]
theorem infoSize : (Tryz.prog.info? 3).map (·.size) = some 1 := by kernel_rfl
theorem run_copy_ints (w : World) (ty : TypeId) (g N k m dLen dCap sLen sCap xb : Nat) (s : Int) (hb : Blk g (ints N (fst0 s k)) 3 w) (hm : m = Nat.min sLen dLen) (hk : k + m ≤ N) (hx : ∀ j, j < m → w.cell? ⟨xb, j, none⟩ = some (.int .i64 s)) :
  ∃ w', (Builtin.copy_ #[22, 22] ty #[.slice (some ⟨g, k, none⟩) dLen dCap, .slice (some ⟨xb, 0, none⟩) sLen sCap]).run Tryz.prog w = .ok (.int .i64 m) w' ∧ Blk g (ints N (fst0 s (k + m))) 3 w' ∧ Mod g w w' := by
 have hl : (List.replicate m (Value.int .i64 s)).length = m := List.length_replicate
 have := run_copy_row (P := Tryz.prog) w 22 22 ty 3 g k dLen dCap ⟨xb, 0, none⟩ sLen sCap (ints N (fst0 s k)) 3 (List.replicate m (.int .i64 s)) Tryz.underlying22 infoSize hb (by rw [hl]; exact hm)
  (fun j v hv => by
   rw [List.getElem?_replicate] at hv
   split at hv
   ·next hj =>
    cases hv
    rw [Go.WideShapes.add_plain, Nat.zero_add]
    exact hx j hj
   ·simp at hv)
  (by rw [hl, ints_size]; exact hk) (fun v hv => by rw [List.eq_of_mem_replicate hv]; rfl)
 rw [hl] at this
 refine ⟨_, this, ?_, Mod.setRow _ _ _⟩
 have e := splice_fst N k m s hk
 unfold splice at e
 rw [hl] at e
 have e2 := setRow_heap w g (ints N (fst0 s k)) ((ints N (fst0 s k)).toList.take k ++ List.replicate m (Value.int .i64 s) ++ (ints N (fst0 s k)).toList.drop (k + m)).toArray 3 (0, 0) hb
 rw [List.append_assoc, e] at e2
 rw [List.append_assoc, e]
 exact e2
theorem step_copy_ints {ops : Array Oper} {o : Oper} {a : Act} {w : World} {K : Act → World → Prop} {Q : Exit → Act → World → Prop} {E : Prop} (hgd : o.guard = none) (d s : Operand) (ho : o.op = .call { callee := .builtin .copy, args := #[d, s], argTypes := #[22, 22] })
  (g N k m dLen dCap sLen sCap xb : Nat) (x : Int) (hd : a.eval d = .slice (some ⟨g, k, none⟩) dLen dCap) (hs : a.eval s = .slice (some ⟨xb, 0, none⟩) sLen sCap) (hb : Blk g (ints N (fst0 x k)) 3 w) (hm : m = Nat.min sLen dLen) (hk : k + m ≤ N) (hx : ∀ j, j < m → w.cell? ⟨xb, j, none⟩ = some (.int .i64 x))
  (h : ∀ w', Hid (Blk g (ints N (fst0 x (k + m))) 3 w' ∧ Mod g w w') → K (a.put o.dst (.int .i64 m)) w') : if Region.wanted o (yielded ops a.tmps) = true then Oper.wp Tryz.prog o a w K Q else E := by
 have hw : Region.wanted o (yielded ops a.tmps) = true := by simp [Region.wanted, hgd]
 rw [if_pos hw]
 obtain ⟨w', hrun, h1, h2⟩ := run_copy_ints w o.type g N k m dLen dCap sLen sCap xb x hb hm hk hx
 unfold Oper.wp
 simp [execOp, ho, resolve, invoke, builtin, hd, hs, hrun, Result.andThen]
 exact h w' ⟨h1, h2⟩
set_option maxRecDepth 20000 in
set_option maxHeartbeats 1000000 in
theorem slicesRepeat (s : Int) (N xb cap : Nat) (hN : N ≤ 1000000) (w : World) (hx : w.cell? ⟨xb, 0, none⟩ = some (.int .i64 s)) :
  Calls Tryz.prog 62 #[.slice (some ⟨xb, 0, none⟩) 1 cap, .int .i64 N] w fun e w' => e = .returned (.slice (some ⟨w.heap.size, 0, none⟩) N N) ∧ Blk w.heap.size (ints N (fun _ => s)) 3 w' ∧ Mod w.heap.size w w' := by
 have MK := make_ints N hN
 have M : Hid (∀ w, Calls Tryz.prog 104 #[.int .u64 1, .int .u64 N] w fun e w' => e = .returned (.tuple #[.int .u64 0, .int .u64 N]) ∧ w' = w) := by
  intro w
  have := bitsMul 1 N (by unfold U64; omega) (by unfold U64; omega) w
  rw [show (1 : Int) * N / 18446744073709551616 = 0 by omega, show (1 : Int) * N % 18446744073709551616 = N by omega] at this
  exact this
 have G : Hid (Blk w.heap.size (ints N (fst0 s 0)) 3 (w.alloc (.cells (ints N (fun _ => 0)) 3)) ∧ Mod w.heap.size w (w.alloc (.cells (ints N (fun _ => 0)) 3)) ∧ (w.alloc (.cells (ints N (fun _ => 0)) 3)).cell? ⟨xb, 0, none⟩ = some (.int .i64 s)) := by
  refine ⟨?_, Mod.of ((Grown.refl _).alloc _ _), gat ((Grown.refl _).alloc _ _) hx⟩
  rw [ints_congr N (fst0 s 0) (fun _ => 0) (fun i hi => by unfold fst0; rw [if_neg (by omega)])]
  exact Blk.new w _ _
 have hw1 : IntKind.u64.wrap (N : Int) = N := by rw [IntKind.wrap_u64]; omega
 have hw2 : IntKind.i64.wrap (N : Int) = N := by rw [IntKind.wrap_i64]; omega
 have hq : decide ((9223372036854775807 : Int) < N) = false := decide_eq_false (by omega)
 clear hx
 go_enter Tryz.func62, Tryz.ntmps62
 go_wp2_with fail
 refine (unhide M w).mono ?_
 rintro e w1 ⟨rfl, rfl⟩
 go_wp2_with fail
 obtain ⟨k0, ek⟩ : ∃ k0, Nat.min 1 N = k0 := ⟨_, rfl⟩
 have hk0 : k0 ≤ 1 ∧ k0 ≤ N ∧ (k0 = 0 → N = 0) := by
  have h1 : Nat.min 1 N ≤ 1 := Nat.min_le_left _ _
  have h2 : Nat.min 1 N ≤ N := Nat.min_le_right _ _
  have h3 : N ≠ 0 → Nat.min 1 N = 1 := fun h => Nat.min_eq_left (by omega)
  rw [ek] at h1 h2 h3
  refine ⟨h1, h2, fun e => ?_⟩
  rcases Nat.eq_zero_or_pos N with h | h
  ·exact h
  ·have := h3 (by omega); omega
 obtain ⟨w2, hrun, b2, m2⟩ := run_copy_ints _ 3 w1.heap.size N 0 k0 N N 1 cap xb s (unhide G).1 ek.symm (by omega) (fun j hj => by obtain rfl : j = 0 := (by omega); exact (unhide G).2.2)
 have G2 : Hid (Blk w1.heap.size (ints N (fst0 s k0)) 3 w2 ∧ Mod w1.heap.size w1 w2) := by
  rw [Nat.zero_add] at b2
  exact ⟨b2, (unhide G).2.1.trans m2⟩
 rw [hrun]
 clear hrun b2 m2 G ek
 go_wp2_with fail
 go_loopw [8] (fun i wr => ∃ k : Nat, k ≤ N ∧ (k = 0 → N = 0) ∧ i = .int .i64 k ∧ Hid (Blk w1.heap.size (ints N (fst0 s k)) 3 wr ∧ Mod w1.heap.size w1 wr)) (fun i _ => N - (intOf i).toNat)
 case atStart => exact ⟨k0, hk0.2.1, hk0.2.2, rfl, unhide G2⟩
 case round =>
  obtain ⟨k, hk, hz, rfl, HI⟩ := hrel
  by_cases hlt : k < N
  ·have hs1 := slice_to (some ⟨w1.heap.size, 0, none⟩) N N k hk
   have hs2 := slice_from w1.heap.size N N k hlt hk
   obtain ⟨m, em⟩ : ∃ m, m = Nat.min k (N - k) := ⟨_, rfl⟩
   have hm : m ≤ k ∧ k + m ≤ N ∧ 0 < m := by
    have h1 : Nat.min k (N - k) ≤ k := Nat.min_le_left _ _
    have h2 : Nat.min k (N - k) ≤ N - k := Nat.min_le_right _ _
    have h3 : 0 < Nat.min k (N - k) := Nat.lt_min.2 ⟨by omega, by omega⟩
    rw [← em] at h1 h2 h3
    omega
   have hb0 : ∀ j, j < m → wr.cell? ⟨w1.heap.size, j, none⟩ = some (.int .i64 s) := fun j hj => by
    rw [Blk.cell (unhide HI).1, ints_at N _ j (by omega)]
    unfold fst0
    rw [if_pos (by omega)]
   have HB := hide (And.intro hb0 em)
   clear hb0 em
   have hwk : IntKind.i64.wrap ((k : Int) + (m : Int)) = ((k + m : Nat) : Int) := by rw [IntKind.wrap_i64]; omega
   go_wp2
   go_region_law (refine step_copy_ints rfl (.tmp 41) (.tmp 44) rfl w1.heap.size N k m (N - k) (N - k) k N w1.heap.size s (by simp [Act.eval, Act.put]) (by simp [Act.eval, Act.put]) (unhide HI).1 (unhide HB).2 hm.2.1 (unhide HB).1 ?_; intro w3 hg3)
   have R : Hid (Blk w1.heap.size (ints N (fst0 s (k + m))) 3 w3 ∧ Mod w1.heap.size w1 w3) := ⟨(unhide hg3).1, (unhide HI).2.trans (unhide hg3).2⟩
   clear hg3 HI HB
   simp [Act.put]
   go_wp2
   go_roundw
   case rel => exact ⟨k + m, by omega, by omega, by go_num, R⟩
   case measure => simp [intOf]; omega
  ·obtain rfl : k = N := by omega
   have R : Hid (Blk w1.heap.size (ints k (fun _ => s)) 3 wr ∧ Mod w1.heap.size w1 wr) := by
    obtain ⟨b, m⟩ := unhide HI
    rw [ints_congr k (fst0 s k) (fun _ => s) (fun i hi => by unfold fst0; rw [if_pos hi])] at b
    exact ⟨b, m⟩
   clear HI
   go_wp2
   go_ret
   exact ⟨rfl, unhide R⟩
end Go.Proofs.YtjobgjcfkomhpaaGreat
namespace Go.Proofs.YtjobgjcfkomhpaaGreat
open Go.RowKit Go.Shelf Go.Proofs.Wd
set_option maxRecDepth 10000
set_option maxHeartbeats 400000 in
theorem turned1 (i k r c b o cap Bm : Nat) (Z : Nat → Int) (hr : 1 ≤ r ∧ r ≤ 12) (hc : 1 ≤ c ∧ c ≤ 12) (hi : i < c) (hk : k < r) (w : World) (hb : Blk Bm #[.int .i64 r, .int .i64 c, .slice (some ⟨b, o, none⟩) (r * c) cap] 38 w) (hz : ∀ j, j < r * c → w.cell? ⟨b, o + j, none⟩ = some (.int .i64 (Z j))) :
  Calls Tryz.prog 105 (#[.int .i64 (i : Int), .int .i64 (k : Int)] ++ #[.pointer (some ⟨Bm, 0, none⟩)]) w fun e b => e = .returned (.int .i64 (turnZ Z r c (i * r + k))) ∧ Kp w b := by
 have hd : turnZ Z r c (i * r + k) = Z (k * c + i) := by
  unfold turnZ
  rw [place_div _ _ _ hk, place_mod _ _ _ hk]
 rw [hd]
 show Calls Tryz.prog 105 #[.int .i64 (i : Int), .int .i64 (k : Int), .pointer (some ⟨Bm, 0, none⟩)] w _
 have A := hide (matAt r c k i b o cap Z hr hc hk hi w (hz _ (place_in _ _ _ _ hk hi)))
 have d0 : w.cell? ⟨Bm, 0, none⟩ = some (.int .i64 r) := Blk.cell hb 0
 have d1 : w.cell? ⟨Bm, 1, none⟩ = some (.int .i64 c) := Blk.cell hb 1
 have d2 : w.cell? ⟨Bm, 2, none⟩ = some (.slice (some ⟨b, o, none⟩) (r * c) cap) := Blk.cell hb 2
 obtain ⟨z, hzz⟩ : ∃ z, Z (k * c + i) = z := ⟨_, rfl⟩
 rw [hzz] at A
 rw [hzz]
 obtain ⟨len, hlen⟩ : ∃ len, r * c = len := ⟨_, rfl⟩
 rw [hlen] at A d2
 clear hd hz hr hc hi hk hb hzz hlen
 go_enter Tryz.func105, Tryz.ntmps105
 go_wp2_with fail
 refine (unhide A).mono ?_
 rintro e w1 ⟨rfl, rfl⟩
 clear A
 go_wp2
 go_ret
 exact ⟨rfl, (Kp.refl _).alloc _ _⟩
set_option maxHeartbeats 1000000 in
theorem matTurned (r c b o cap : Nat) (Z : Nat → Int) (hr : 1 ≤ r ∧ r ≤ 12) (hc : 1 ≤ c ∧ c ≤ 12) (w : World) (hz : ∀ j, j < r * c → w.cell? ⟨b, o + j, none⟩ = some (.int .i64 (Z j))) :
  Calls Tryz.prog 64 #[.agg #[.int .i64 r, .int .i64 c, .slice (some ⟨b, o, none⟩) (r * c) cap]] w fun e w' => MadeP c r (turnZ Z r c) (Kp w) w e w' := by
 have G : Grown w ((w.alloc (.cells #[.int .i64 r, .int .i64 c, .slice (some ⟨b, o, none⟩) (r * c) cap] 38)).alloc (.cells #[.int .i64 0, .int .i64 0, .slice none 0 0] 38)) := ((Grown.refl _).alloc _ _).alloc _ _
 have bl : Blk w.heap.size #[.int .i64 r, .int .i64 c, .slice (some ⟨b, o, none⟩) (r * c) cap] 38 ((w.alloc (.cells #[.int .i64 r, .int .i64 c, .slice (some ⟨b, o, none⟩) (r * c) cap] 38)).alloc (.cells #[.int .i64 0, .int .i64 0, .slice none 0 0] 38)) := Blk.grown (Blk.new w _ _) ((Grown.refl _).alloc _ _)
 have br := blk_new2 w (.cells #[.int .i64 r, .int .i64 c, .slice (some ⟨b, o, none⟩) (r * c) cap] 38) #[.int .i64 0, .int .i64 0, .slice none 0 0] 38
 have d0 := Blk.cell bl 0
 have d1 := Blk.cell bl 1
 have MD := hide (madeN 105 (enters_of Tryz.func105 (by kernel_rfl) rfl) #[.pointer (some ⟨w.heap.size, 0, none⟩)] c r hc hr (turnZ Z r c) ((w.alloc (.cells #[.int .i64 r, .int .i64 c, .slice (some ⟨b, o, none⟩) (r * c) cap] 38)).alloc (.cells #[.int .i64 0, .int .i64 0, .slice none 0 0] 38))
  (fun i k a hi hk ka => turned1 i k r c b o cap w.heap.size Z hr hc hi hk a (Blk.kp bl ka) (fun j hj => ka.cell (gat G (hz j hj)))))
 have HG := hide G
 have HB := hide br
 obtain ⟨len, hlen⟩ : ∃ len, r * c = len := ⟨_, rfl⟩
 rw [hlen] at MD HG HB
 rw [hlen]
 clear G bl br hz hr hc hlen d0 d1
 go_enter Tryz.func64, Tryz.ntmps64
 go_wp2_with fail
 generalize (w.alloc (.cells #[.int .i64 r, .int .i64 c, .slice (some ⟨b, o, none⟩) len cap] 38)).alloc (.cells #[.int .i64 0, .int .i64 0, .slice none 0 0] 38) = w1 at *
 refine (unhide MD).mono ?_
 rintro e w3 ⟨Lb, h1, rfl, h3, h4⟩
 have b3 := Blk.kp (unhide HB) h4
 have e0 : w3.cell? ⟨w.heap.size + 1, 0, none⟩ = some (.int .i64 0) := Blk.cell b3 0
 have e1 : w3.cell? ⟨w.heap.size + 1, 1, none⟩ = some (.int .i64 0) := Blk.cell b3 1
 have e2 : w3.cell? ⟨w.heap.size + 1, 2, none⟩ = some (.slice none 0 0) := Blk.cell b3 2
 have f := Blk.free b3
 have R := hide (And.intro b3 (And.intro h1 (And.intro h3 h4)))
 clear b3 h1 h3 h4 MD
 go_wp2
 obtain ⟨b3, h1, h3, h4⟩ := unhide R
 have P := putM b3 (.int .i64 c) (.int .i64 r) (.slice (some ⟨Lb, 0, none⟩) (c * r) (c * r))
 generalize (((w3.setCell ⟨w.heap.size + 1, 0, none⟩ (.int .i64 c)).setCell ⟨w.heap.size + 1, 1, none⟩ (.int .i64 r)).setCell ⟨w.heap.size + 1, 2, none⟩ (.slice (some ⟨Lb, 0, none⟩) (c * r) (c * r))) = wE at *
 have c0 : wE.cell? ⟨w.heap.size + 1, 0, none⟩ = some (.int .i64 c) := Blk.cell P.1 0
 have c1 : wE.cell? ⟨w.heap.size + 1, 1, none⟩ = some (.int .i64 r) := Blk.cell P.1 1
 have c2 : wE.cell? ⟨w.heap.size + 1, 2, none⟩ = some (.slice (some ⟨Lb, 0, none⟩) (c * r) (c * r)) := Blk.cell P.1 2
 refine bodyPost_ret (v := .agg #[.int .i64 c, .int .i64 r, .slice (some ⟨Lb, 0, none⟩) (c * r) (c * r)]) (by simp [results, Tryz.results64, go_sem, c0, c1, c2]) rfl ?_
 have hB := Blk.lt (unhide HB)
 have hs := (unhide HG).2.2
 exact ⟨Lb, by omega, rfl, Blk.keep h3 P.2 (by omega), ((Kp.of (unhide HG)).trans h4).mod P.2 (by omega)⟩
set_option maxHeartbeats 1000000 in
theorem matTurn_ok (r c b o cap : Nat) (Z : Nat → Int) (hr : 1 ≤ r ∧ r ≤ 12) (hc : 1 ≤ c ∧ c ≤ 12) (w : World) (hz : ∀ j, j < r * c → w.cell? ⟨b, o + j, none⟩ = some (.int .i64 (Z j))) :
  Calls Tryz.prog 29 #[.agg #[.int .i64 r, .int .i64 c, .slice (some ⟨b, o, none⟩) (r * c) cap]] w fun e w' => MatP c r (c * r) (turnZ Z r c) 0 (Kp w) w e w' := by
 have G : Grown w ((w.alloc (.cells #[.int .i64 r, .int .i64 c, .slice (some ⟨b, o, none⟩) (r * c) cap] 38)).alloc (.cells #[.int .i64 0, .int .i64 0, .slice none 0 0] 38)) := ((Grown.refl _).alloc _ _).alloc _ _
 have bl : Blk w.heap.size #[.int .i64 r, .int .i64 c, .slice (some ⟨b, o, none⟩) (r * c) cap] 38 ((w.alloc (.cells #[.int .i64 r, .int .i64 c, .slice (some ⟨b, o, none⟩) (r * c) cap] 38)).alloc (.cells #[.int .i64 0, .int .i64 0, .slice none 0 0] 38)) := Blk.grown (Blk.new w _ _) ((Grown.refl _).alloc _ _)
 have br := blk_new2 w (.cells #[.int .i64 r, .int .i64 c, .slice (some ⟨b, o, none⟩) (r * c) cap] 38) #[.int .i64 0, .int .i64 0, .slice none 0 0] 38
 have HG := hide G
 have HB := hide (And.intro bl br)
 have CK := hide (fun w => matCheck r c (some ⟨b, o, none⟩) (r * c) cap w)
 rw [chk_ok ⟨by omega, by omega, by rw [Int.natCast_mul]⟩] at CK
 have T := hide (fun w hz => matTurned r c b o cap Z hr hc w hz)
 have HZ := hide hz
 obtain ⟨len, hlen⟩ : ∃ len, r * c = len := ⟨_, rfl⟩
 rw [hlen] at CK T HG HB HZ
 rw [hlen]
 clear G bl br hz hr hc hlen
 go_enter Tryz.func29, Tryz.ntmps29
 go_wp2_with fail
 generalize (w.alloc (.cells #[.int .i64 r, .int .i64 c, .slice (some ⟨b, o, none⟩) len cap] 38)).alloc (.cells #[.int .i64 0, .int .i64 0, .slice none 0 0] 38) = w1 at *
 refine (unhide CK _).mono ?_
 rintro e w2 ⟨rfl, g2⟩
 have K2 : Hid (Kp w1 w2) := Kp.of g2
 have d0 : w2.cell? ⟨w.heap.size, 0, none⟩ = some (.int .i64 r) := Blk.cell (Blk.grown (unhide HB).1 g2) 0
 have d1 : w2.cell? ⟨w.heap.size, 1, none⟩ = some (.int .i64 c) := Blk.cell (Blk.grown (unhide HB).1 g2) 1
 have d2 : w2.cell? ⟨w.heap.size, 2, none⟩ = some (.slice (some ⟨b, o, none⟩) len cap) := Blk.cell (Blk.grown (unhide HB).1 g2) 2
 have T2 := hide (unhide T w2 (fun j hj => (unhide K2).cell (gat (unhide HG) (unhide HZ j hj))))
 clear g2 T HZ CK
 go_wp2_with fail
 refine (unhide T2).mono ?_
 rintro e w3 ⟨Lb, h1, rfl, h3, h4⟩
 have k3 := (unhide K2).trans h4
 have b3 := Blk.kp (unhide HB).2 k3
 have e0 : w3.cell? ⟨w.heap.size + 1, 0, none⟩ = some (.int .i64 0) := Blk.cell b3 0
 have e1 : w3.cell? ⟨w.heap.size + 1, 1, none⟩ = some (.int .i64 0) := Blk.cell b3 1
 have e2 : w3.cell? ⟨w.heap.size + 1, 2, none⟩ = some (.slice none 0 0) := Blk.cell b3 2
 have f := Blk.free b3
 have R := hide (And.intro b3 (And.intro h1 (And.intro h3 k3)))
 clear b3 h1 h3 h4 k3 T2 d0 d1 d2
 go_wp2
 obtain ⟨b3, h1, h3, k3⟩ := unhide R
 have P := putM b3 (.int .i64 c) (.int .i64 r) (.slice (some ⟨Lb, 0, none⟩) (c * r) (c * r))
 generalize (((w3.setCell ⟨w.heap.size + 1, 0, none⟩ (.int .i64 c)).setCell ⟨w.heap.size + 1, 1, none⟩ (.int .i64 r)).setCell ⟨w.heap.size + 1, 2, none⟩ (.slice (some ⟨Lb, 0, none⟩) (c * r) (c * r))) = wE at *
 have c0 : wE.cell? ⟨w.heap.size + 1, 0, none⟩ = some (.int .i64 c) := Blk.cell P.1 0
 have c1 : wE.cell? ⟨w.heap.size + 1, 1, none⟩ = some (.int .i64 r) := Blk.cell P.1 1
 have c2 : wE.cell? ⟨w.heap.size + 1, 2, none⟩ = some (.slice (some ⟨Lb, 0, none⟩) (c * r) (c * r)) := Blk.cell P.1 2
 refine bodyPost_ret (v := .tuple #[.agg #[.int .i64 c, .int .i64 r, .slice (some ⟨Lb, 0, none⟩) (c * r) (c * r)], .int .i64 0]) (by simp [results, Tryz.results29, go_sem, c0, c1, c2]) rfl ?_
 have hB := Blk.lt (unhide HB).2
 have hs := (unhide HG).2.2
 have hk := (unhide K2).2.2.2
 exact ⟨_, _, Lb, rfl, by omega, Or.inr ⟨rfl, Blk.keep h3 P.2 (by omega)⟩, Nat.le_refl _, ((Kp.of (unhide HG)).trans k3).mod P.2 (by omega)⟩
set_option maxHeartbeats 1000000 in
theorem matEye_ok (n : Nat) (hn : 1 ≤ n ∧ n ≤ 12) (w : World) :
  Calls Tryz.prog 28 #[.int .i64 (n : Int)] w fun e w' => MatP n n (n * n) (diagZ oneZ n) 0 (Kp w) w e w' := by
 have FT := hide (fun w => matFits (n : Int) w)
 rw [decide_eq_true (by omega)] at FT
 have G : Grown w (w.alloc (.cells #[.int .i64 0, .int .i64 0, .slice none 0 0] 38)) := (Grown.refl _).alloc _ _
 have br := Blk.new w #[.int .i64 0, .int .i64 0, .slice none 0 0] 38
 have RP := hide (fun xb cap w hx => slicesRepeat 4294967296 n xb cap (by omega) w hx)
 have DG := hide (fun cap ao w hr => matDiag_ok n cap ao oneZ hn w hr)
 have HG := hide G
 have HB := hide br
 clear G br hn
 go_enter Tryz.func28, Tryz.ntmps28
 go_wp2_with fail
 generalize w.alloc (.cells #[.int .i64 0, .int .i64 0, .slice none 0 0] 38) = w1 at *
 refine (unhide FT _).mono ?_
 rintro e w2 ⟨rfl, rfl⟩
 go_wp2_with fail
 have G2 : Hid (Grown w2 (w2.alloc (.cells #[.int .i64 4294967296] 3))) := (Grown.refl _).alloc _ _
 have R2 := hide (unhide RP w2.heap.size 1 (w2.alloc (.cells #[.int .i64 4294967296] 3)) (Blk.cell (Blk.new w2 _ _) 0))
 generalize w2.alloc (.cells #[.int .i64 4294967296] 3) = w4 at *
 refine (unhide R2).mono ?_
 rintro e w5 ⟨rfl, b5, m5⟩
 have D5 := hide (unhide DG n (some ⟨w4.heap.size, 0, none⟩) w5 (show Row _ _ n (fun _ => 4294967296) from b5.row))
 have K5 : Hid (Kp w2 w5) := (Kp.of (unhide G2)).mod m5 (unhide G2).2.2
 clear b5 m5 R2 RP DG FT
 go_wp2_with fail
 refine (unhide D5).mono ?_
 rintro e w3 ⟨ao, cap, Lb, rfl, h1, h3, hcap, h4⟩
 have k3 := (unhide K5).trans h4
 have b3 := Blk.kp (unhide HB) k3
 have e0 : w3.cell? ⟨w.heap.size, 0, none⟩ = some (.int .i64 0) := Blk.cell b3 0
 have e1 : w3.cell? ⟨w.heap.size, 1, none⟩ = some (.int .i64 0) := Blk.cell b3 1
 have e2 : w3.cell? ⟨w.heap.size, 2, none⟩ = some (.slice none 0 0) := Blk.cell b3 2
 have f := Blk.free b3
 have R := hide (And.intro b3 (And.intro h1 (And.intro h3 (And.intro hcap k3))))
 clear b3 h1 h3 h4 k3 D5 hcap
 go_wp2
 obtain ⟨b3, h1, h3, hcap, k3⟩ := unhide R
 have P := putM b3 (.int .i64 n) (.int .i64 n) (.slice ao (n * n) cap)
 generalize (((w3.setCell ⟨w.heap.size, 0, none⟩ (.int .i64 n)).setCell ⟨w.heap.size, 1, none⟩ (.int .i64 n)).setCell ⟨w.heap.size, 2, none⟩ (.slice ao (n * n) cap)) = wE at *
 have c0 : wE.cell? ⟨w.heap.size, 0, none⟩ = some (.int .i64 n) := Blk.cell P.1 0
 have c1 : wE.cell? ⟨w.heap.size, 1, none⟩ = some (.int .i64 n) := Blk.cell P.1 1
 have c2 : wE.cell? ⟨w.heap.size, 2, none⟩ = some (.slice ao (n * n) cap) := Blk.cell P.1 2
 refine bodyPost_ret (v := .tuple #[.agg #[.int .i64 n, .int .i64 n, .slice ao (n * n) cap], .int .i64 0]) (by simp [results, Tryz.results28, go_sem, c0, c1, c2]) rfl ?_
 have hB := Blk.lt (unhide HB)
 have hs := (unhide HG).2.2
 have hk := (unhide K5).2.2.2
 exact ⟨_, _, Lb, rfl, by omega, h3.imp id (fun h => ⟨h.1, Blk.keep h.2 P.2 (by omega)⟩), hcap, ((Kp.of (unhide HG)).trans k3).mod P.2 (by omega)⟩
theorem mod_drew (U : Nat) (w : World) : Mod U w w.drew := ⟨rfl, rfl, fun _ _ _ => rfl, fun _ => rfl, Nat.le_refl _⟩
theorem row_part {w : World} {b o c i r : Nat} {Z : Nat → Int} (hi : i < r) (hz : ∀ j, j < r * c → w.cell? ⟨b, o + j, none⟩ = some (.int .i64 (Z j))) : Row w (some ⟨b, o + i * c, none⟩) c (rowZ Z c i) := by
 refine Or.inr ⟨b, o + i * c, rfl, fun k hk => ?_⟩
 rw [Nat.add_assoc]
 exact hz _ (place_in _ _ _ _ hi hk)
set_option maxRecDepth 20000 in
set_option maxHeartbeats 4000000 in
theorem mul1 (U : Nat) (cc : Bool) (nn : Int) (hn : 0 ≤ nn ∧ nn < 2305843009213693952) (r m c i k b o cap L Bu Ba Bc : Nat) (A T : Nat → Int) (hr : 1 ≤ r ∧ r ≤ 12) (hm : 1 ≤ m ∧ m ≤ 12) (hc : 1 ≤ c ∧ c ≤ 12) (hi : i < r) (hk : k < c) (hcap : r * m ≤ cap)
  (hA : ∀ j, j < r * m → I64 (A j)) (hT : ∀ j, j < c * m → I64 (T j)) (w : World) (h : UC U cc nn w) (hBu : Blk Bu #[.pointer (some ⟨U, 0, none⟩)] 26 w) (hBa : Blk Ba #[.int .i64 r, .int .i64 m, .slice (some ⟨b, o, none⟩) (r * m) cap] 38 w) (hBc : Blk Bc #[.int .i64 c, .int .i64 m, .slice (some ⟨L, 0, none⟩) (c * m) (c * m)] 38 w)
  (za : ∀ j, j < r * m → w.cell? ⟨b, o + j, none⟩ = some (.int .i64 (A j))) (zt : ∀ j, j < c * m → w.cell? ⟨L, 0 + j, none⟩ = some (.int .i64 (T j))) (n1 : Bu ≠ U) (n2 : Ba ≠ U) (n3 : Bc ≠ U) (n4 : b ≠ U) (n5 : L ≠ U) :
  Calls Tryz.prog 67 #[.int .i64 (i : Int), .int .i64 (k : Int), .pointer (some ⟨Bu, 0, none⟩), .pointer (some ⟨Ba, 0, none⟩), .pointer (some ⟨Bc, 0, none⟩)] w fun e w' => e = .returned (.int .i64 (dotN (rowZ A m i) (rowZ T m k) m)) ∧ UC U (cc || dotC (rowZ A m i) (rowZ T m k) m) (nn + 2 * m) w' ∧ Mk U w w' := by
 have P1 : Hid (∀ w, Calls Tryz.prog 69 #[.agg #[.int .i64 r, .int .i64 m, .slice (some ⟨b, o, none⟩) (r * m) cap], .int .i64 i] w fun e w' => e = .returned (.slice (some ⟨b, o + i * m, none⟩) m m) ∧ Grown w w') := fun w =>
  (matPart r m i b o cap hr hm hi hcap w).mono fun e w' h => ⟨h.1, by rw [h.2]; exact (Grown.refl _).alloc _ _⟩
 have P2 : Hid (∀ w, Calls Tryz.prog 69 #[.agg #[.int .i64 c, .int .i64 m, .slice (some ⟨L, 0, none⟩) (c * m) (c * m)], .int .i64 k] w fun e w' => e = .returned (.slice (some ⟨L, k * m, none⟩) m m) ∧ Grown w w') := fun w =>
  (matPart c m k L 0 (c * m) hc hm hk (Nat.le_refl _) w).mono fun e w' h => ⟨by rw [h.1, Nat.zero_add], by rw [h.2]; exact (Grown.refl _).alloc _ _⟩
 have D : Hid (∀ wx, UC U cc nn wx → Mod U w wx → Calls Tryz.prog 68 #[.pointer (some ⟨U, 0, none⟩), .slice (some ⟨b, o + i * m, none⟩) m m, .slice (some ⟨L, k * m, none⟩) m m] wx fun e w' => e = .returned (.int .i64 (dotN (rowZ A m i) (rowZ T m k) m)) ∧ UC U (cc || dotC (rowZ A m i) (rowZ T m k) m) (nn + 2 * m) w' ∧ Mod U wx w') := fun wx hu mu => by
  have r1 := row_part hi (fun j hj => mu.cell (za j hj) n4)
  have r2 := row_part hk (fun j hj => mu.cell (zt j hj) n5)
  rw [Nat.zero_add] at r2
  exact matDot U cc nn _ _ m m m _ _ hn (by omega) (fun j hj => hA _ (place_in _ _ _ _ hi hj)) (fun j hj => hT _ (place_in _ _ _ _ hk hj)) wx hu r1 (fun _ a e => by cases e; exact n4) r2 (fun _ a e => by cases e; exact n5)
 obtain ⟨d, hd⟩ : ∃ d, dotN (rowZ A m i) (rowZ T m k) m = d := ⟨_, rfl⟩
 obtain ⟨g, hg⟩ : ∃ g, dotC (rowZ A m i) (rowZ T m k) m = g := ⟨_, rfl⟩
 rw [hd, hg] at D
 rw [hd, hg]
 have CW : Hid (∀ wx, Mod U w wx → wx.cell? ⟨Bu, 0, none⟩ = some (.pointer (some ⟨U, 0, none⟩)) ∧ wx.cell? ⟨Ba, 0, none⟩ = some (.int .i64 r) ∧ wx.cell? ⟨Ba, 1, none⟩ = some (.int .i64 m) ∧ wx.cell? ⟨Ba, 2, none⟩ = some (.slice (some ⟨b, o, none⟩) (r * m) cap) ∧ wx.cell? ⟨Bc, 0, none⟩ = some (.int .i64 c) ∧ wx.cell? ⟨Bc, 1, none⟩ = some (.int .i64 m) ∧ wx.cell? ⟨Bc, 2, none⟩ = some (.slice (some ⟨L, 0, none⟩) (c * m) (c * m))) := fun wx mu =>
  ⟨Blk.cell (Blk.keep hBu mu n1) 0, Blk.cell (Blk.keep hBa mu n2) 0, Blk.cell (Blk.keep hBa mu n2) 1, Blk.cell (Blk.keep hBa mu n2) 2, Blk.cell (Blk.keep hBc mu n3) 0, Blk.cell (Blk.keep hBc mu n3) 1, Blk.cell (Blk.keep hBc mu n3) 2⟩
 have H : Hid (UC U cc nn w.drew) := h
 obtain ⟨x1, x2, x3, x4, x5, x6, x7⟩ := unhide CW w (Mod.refl _ _)
 obtain ⟨la, hla⟩ : ∃ q, r * m = q := ⟨_, rfl⟩
 obtain ⟨lc, hlc⟩ : ∃ q, c * m = q := ⟨_, rfl⟩
 obtain ⟨oi, hoi⟩ : ∃ q, o + i * m = q := ⟨_, rfl⟩
 obtain ⟨ok, hok⟩ : ∃ q, k * m = q := ⟨_, rfl⟩
 rw [hla, hlc] at CW
 rw [hla] at x4 P1
 rw [hlc] at x7 P2
 rw [hoi] at P1 D
 rw [hok] at P2 D
 clear h hBu hBa hBc za zt hA hT hn hr hm hc hi hk hcap hd hg hla hlc hoi hok n1 n2 n3 n4 n5
 go_enter Tryz.func67, Tryz.ntmps67
 go_wp2
 go_region_held3 (fun w' => w'.cell? ⟨Bu, 0, none⟩ = some (.pointer (some ⟨U, 0, none⟩)) ∧ w'.cell? ⟨Ba, 0, none⟩ = some (.int .i64 r) ∧ w'.cell? ⟨Ba, 1, none⟩ = some (.int .i64 m) ∧ w'.cell? ⟨Ba, 2, none⟩ = some (.slice (some ⟨b, o, none⟩) la cap) ∧ w'.cell? ⟨Bc, 0, none⟩ = some (.int .i64 c) ∧ w'.cell? ⟨Bc, 1, none⟩ = some (.int .i64 m) ∧ w'.cell? ⟨Bc, 2, none⟩ = some (.slice (some ⟨L, 0, none⟩) lc lc))
   (simp [go_sem, *])
   (first
    | (go_at_call 68; refine (unhide D _ (unhide U3) (unhide M3)).mono ?_; rintro e w4 ⟨rfl, h4, m4⟩; obtain ⟨t1, t2, t3, t4, t5, t6, t7⟩ := unhide CW w4 ((unhide M3).trans m4); have R4 : Hid (UC U (cc || g) (nn + 2 * m) w4 ∧ Mk U w w4) := ⟨h4, Mk.of ((unhide M3).trans m4)⟩; clear h4 m4 D)
    | (go_at_call 69; refine (unhide P1 _).mono ?_; clear P1; rintro e w2 ⟨rfl, m2⟩; have M2 : Hid (Mod U w w2) := (mod_drew U w).trans (Mod.of m2); have U2 : Hid (UC U cc nn w2) := Blk.grown (unhide H) m2; obtain ⟨y1, y2, y3, y4, y5, y6, y7⟩ := unhide CW w2 (unhide M2); clear m2)
    | (go_at_call 69; refine (unhide P2 _).mono ?_; clear P2; rintro e w3 ⟨rfl, m3⟩; have M3 : Hid (Mod U w w3) := (unhide M2).trans (Mod.of m3); have U3 : Hid (UC U cc nn w3) := Blk.grown (unhide U2) m3; obtain ⟨z1, z2, z3, z4, z5, z6, z7⟩ := unhide CW w3 (unhide M3); clear m3))
 go_wp2
 go_ret
 exact ⟨rfl, unhide R4⟩
end Go.Proofs.YtjobgjcfkomhpaaGreat
