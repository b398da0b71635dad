/- VecRow NearMath FixMath UnitMath FixNear VecMath MatMath WideD WideV FixA Len64 DivMath Div64 FixB FixC FixD RootMath RootA RootB UnitA UnitB UnitC UnitN MatA MatC MatB MatD MkA UnitD MatE MatG VecA VecB VecC VecD MatF MatH MatI RoundR MatJ KitA PickA MatL MatM OwnB MatO PolyMath PolySt AppA AppB RgU MatTS RegJ RegG RegM MatOv RegN, one after another. -/
import Derived.Test.YtpanfppnkgokdaaMdlRow
import Derived.Laws.CopyOwn
import Derived.Laws.MakeOwn
import Derived.Laws.OwnMore
import Derived.Deep.QuietTactic
import Derived.BigQuiet
import Derived.Deep.DeepCutAuto
import Derived.Deep.RegionHeld3
import Derived.Shelf.Abstract
import Derived.Lib.Tables
import Derived.Lib.BitFns
import Derived.Deep.CutBlock
import Derived.WalkMore
import Derived.Deep.DrawnRows
import Derived.RangeFuncNested
import Derived.RangeFuncBound
import Derived.RangeFuncCalls
import Derived.RangeFuncLeaves
import Derived.RangeFuncBox
import Derived.Shelf.RegionOpen
import Derived.WalkKit
import Derived.OwnWalkIn
import Derived.TacticsInMore
import Derived.LoopNIn
import Derived.LoopIn
import Derived.Deep.RegionLaw
import Derived.OrdersIn
import Derived.OrdersHeld
import Derived.Laws.AppendOwnNone
import Derived.Lib.SliceRun
import Derived.Orders
/- A block of numbers that a call itself made: its cells as a function of the place; what is stored into it; how the world stays beside it. -/
namespace Go.Proofs.Ytpanfppnkgokdaa
open Go.RowKit Go.Proofs.Wd
set_option linter.unusedVariables false
set_option linter.unusedSimpArgs false
set_option maxRecDepth 10000

/-- n numbers. -/
def ints (n : Nat) (Z : Nat → Int) : Array Value := ((List.range n).map fun i => Value.int .i64 (Z i)).toArray
theorem ints_size (n : Nat) (Z : Nat → Int) : (ints n Z).size = n := by simp [ints]
theorem ints_at (n : Nat) (Z : Nat → Int) (i : Nat) (h : i < n) : (ints n Z)[i]? = some (.int .i64 (Z i)) := by simp [ints, h]
theorem ints_none (n : Nat) (Z : Nat → Int) (i : Nat) (h : ¬ i < n) : (ints n Z)[i]? = none := by simp [ints]; omega
theorem ints_congr (n : Nat) (Z Y : Nat → Int) (h : ∀ i, i < n → Z i = Y i) : ints n Z = ints n Y := by
  apply Array.ext_getElem?
  intro i
  by_cases hi : i < n
  · rw [ints_at n Z i hi, ints_at n Y i hi, h i hi]
  · rw [ints_none n Z i hi, ints_none n Y i hi]
theorem ints_set (n : Nat) (Z : Nat → Int) (k : Nat) (v : Int) : (ints n Z).setIfInBounds k (.int .i64 v) = ints n (fun i => if i = k then v else Z i) := by
  apply Array.ext_getElem?
  intro i
  rw [Array.getElem?_setIfInBounds]
  by_cases hi : i < n
  · rw [ints_at n Z i hi, ints_at n _ i hi, ints_size]
    by_cases e : k = i
    · subst e; simp [hi]
    · simp [e, Ne.symm e]
  · rw [ints_none n Z i hi, ints_none n _ i hi, ints_size]
    by_cases e : k = i
    · subst e; simp [hi]
    · simp [e]
theorem Blk.row {b n : Nat} {Z : Nat → Int} {T : TypeId} {w : World} (h : Blk b (ints n Z) T w) : Row w (some ⟨b, 0, none⟩) n Z := by
  refine Or.inr ⟨b, 0, rfl, fun i hi => ?_⟩
  rw [Nat.zero_add, Blk.cell h, ints_at n Z i hi]
theorem Blk.setI {b n : Nat} {Z : Nat → Int} {T : TypeId} {w : World} (h : Blk b (ints n Z) T w) (k : Nat) (v : Int) : Blk b (ints n (fun i => if i = k then v else Z i)) T (w.setCell ⟨b, k, none⟩ (.int .i64 v)) := by
  have := Blk.set h k (.int .i64 v)
  rwa [ints_set] at this
theorem off_blk {U b n : Nat} (h : b ≠ U) : Off U n (some ⟨b, 0, none⟩) := by
  intro _ a ha
  cases ha
  exact h
/-- A store into a block that is new. -/
theorem Mod.setNew {U L : Nat} {a w : World} (h : Mod U a w) (hL : a.heap.size ≤ L) (o : Nat) (v : Value) : Mod U a (w.setCell ⟨L, o, none⟩ v) := by
  refine ⟨h.1, h.2.1, fun k hk hu => ?_, fun x => (World.frozen?_setCell _ _ _ _).trans (h.2.2.2.1 x), by have := h.2.2.2.2; simpa [World.setCell] using this⟩
  exact (Below.heap_setCell _ _ _ _ (by show k ≠ L; omega)).trans (h.2.2.1 k hk hu)
theorem Mod.new {U L : Nat} {a b c : World} (h : Mod U a b) (k : Mod L b c) (hL : a.heap.size ≤ L) : Mod U a c :=
  ⟨k.1.trans h.1, k.2.1.trans h.2.1, fun i hi hu => (k.2.2.1 i (Nat.lt_of_lt_of_le hi h.2.2.2.2) (by omega)).trans (h.2.2.1 i hi hu), fun x => (k.2.2.2.1 x).trans (h.2.2.2.1 x), Nat.le_trans h.2.2.2.2 k.2.2.2.2⟩
theorem Mod.setRow (g : Nat) (w : World) (cs : Array Value) : Mod g w (w.setRow g cs) := by
  refine ⟨rfl, rfl, fun k hk hu => setRow_other w g k cs hu, fun x => ?_, by simp [World.setRow]⟩
  by_cases e : x.block = g
  · unfold World.frozen? World.setRow
    rw [e]
    simp only [Array.getElem?_modify, if_pos rfl]
    cases w.heap[g]? with
    | none => rfl
    | some o => cases o <;> rfl
  · unfold World.frozen?
    rw [setRow_other w g x.block cs e]
theorem Blk.new (w : World) (cs : Array Value) (t : TypeId) : Blk w.heap.size cs t (w.alloc (.cells cs t)) := heap_alloc_new w _

theorem made_ints (n : Nat) : madeCells #[.int .i64 0] n = ints n (fun _ => 0) := by
  apply Array.ext_getElem?
  intro i
  by_cases h : i < n
  · rw [ints_at n _ i h]; simp [madeCells, h, Nat.mod_one]
  · rw [ints_none n _ i h]; simp [madeCells]; omega
/-- make([]int, n). -/
theorem make_ints (n : Nat) (hn : n ≤ 1000000) (w : World) : (Instr.makeSlice 22 (.int .i64 n) (.int .i64 n)).run Try.prog w = .ok (.slice (some ⟨w.heap.size, 0, none⟩) n n) (w.alloc (.cells (ints n (fun _ => 0)) 3)) := by
  obtain ⟨i0, hi, hz0, hz1, hz2⟩ := info_parts Try.infoInt
  have := run_make (P := Try.prog) w 22 3 i0 (.int .i64 0) Try.underlying22 hi hz0 .i64 .i64 n n (by omega) (Int.le_refl _) (by rw [hz2]; omega) (by omega)
  rw [hz1, Int.toNat_natCast, Nat.mul_one] at this
  rw [this, ← made_ints]
  rfl

end Go.Proofs.Ytpanfppnkgokdaa

/- What is rounded by 32 bits is half of 2^32 away at most, and just so far only to an even one: plain arithmetic. -/
namespace Go.Proofs.Wd

theorem mul_range (m n : Int) (h1 : I64 m) (h2 : I64 n) : -85070591730234615865843651857942052864 ≤ m * n ∧ m * n ≤ 85070591730234615865843651857942052864 := by
  have e := sg_mul m n
  have a0 : 0 ≤ absI m ∧ absI m ≤ 9223372036854775808 := by unfold I64 at h1; unfold absI; split <;> omega
  have b0 : 0 ≤ absI n ∧ absI n ≤ 9223372036854775808 := by unfold I64 at h2; unfold absI; split <;> omega
  have p1 : absI m * absI n ≤ absI m * 9223372036854775808 := Int.mul_le_mul_of_nonneg_left (by omega) a0.1
  have p0 : 0 ≤ absI m * absI n := Int.mul_nonneg a0.1 b0.1
  rw [← e]
  generalize absI m * absI n = p at *
  unfold sg
  split <;> omega
theorem rdiv_pos (X d : Int) (hd : 0 < d) : rdiv X d = if X < 0 then -(rawq (-X) d) else rawq X d := by
  unfold rdiv
  have e2 : ((d.natAbs : Nat) : Int) = d := by omega
  rw [e2]
  by_cases h : X < 0
  · have e1 : ((X.natAbs : Nat) : Int) = -X := by omega
    rw [e1]; simp [h, show ¬ d < 0 from by omega]
  · have e1 : ((X.natAbs : Nat) : Int) = X := by omega
    rw [e1]; simp [h, show ¬ d < 0 from by omega]
theorem near32 (X : Int) : -2147483648 ≤ X + -(rdiv X 4294967296 * 4294967296) ∧ X + -(rdiv X 4294967296 * 4294967296) ≤ 2147483648 ∧
    ((X + -(rdiv X 4294967296 * 4294967296) = 2147483648 ∨ X + -(rdiv X 4294967296 * 4294967296) = -2147483648) → rdiv X 4294967296 % 2 = 0) := by
  rw [rdiv_pos X 4294967296 (by decide)]
  unfold rawq
  split <;> split <;> refine ⟨?_, ?_, ?_⟩ <;> omega
theorem rdiv32_range (X : Int) (h : -85070591730234615865843651857942052864 ≤ X ∧ X ≤ 85070591730234615865843651857942052864) :
    -85070591730234615865843651857942052865 ≤ rdiv X 4294967296 ∧ rdiv X 4294967296 ≤ 85070591730234615865843651857942052865 := by
  rw [rdiv_pos X 4294967296 (by decide)]
  unfold rawq
  split <;> split <;> omega
theorem fit_in (R : Int) (h : fitB R = false) : fitI R = R ∧ I64 R := by
  unfold fitB at h
  simp at h
  unfold fitI I64
  rw [if_neg (by omega), if_neg (by omega)]
  omega
theorem hilo_ne (A B : Int) (hA : wrapW A = A) (hB : wrapW B = B) (h : A ≠ B) : hiOf A ≠ hiOf B ∨ loOf A ≠ loOf B := by
  by_cases g : hiOf A = hiOf B
  · by_cases k : loOf A = loOf B
    · exact absurd (by rw [← hA, ← hB, ← val_of, ← val_of, g, k]) h
    · exact Or.inr k
  · exact Or.inl g

end Go.Proofs.Wd

/- Fixed numbers: what is taken for an int, and what sums, halves, products and quotients come to, in whole numbers. -/
namespace Go.Proofs.Wd
set_option linter.unusedVariables false

/-- What is taken for an int. -/
def tk (a : Int) : Int := if a = -9223372036854775808 then -9223372036854775807 else a
/-- Whether it is none. -/
def nb (a : Int) : Bool := decide (a = -9223372036854775808)
/-- A fixed number. -/
def Fx (a : Int) : Prop := -9223372036854775807 ≤ a ∧ a ≤ 9223372036854775807
/-- What is answered of a whole number, with what was none. -/
def cutB (r : Int) (a b : Int) : Bool := fitB r || nb a || nb b
/-- A quotient of fixed numbers, ahead of its fit. -/
def quoR (x y : Int) : Int := if y = 0 then (if x < 0 then -18446744073709551616 else if 0 < x then 18446744073709551616 else 0) else rdiv (x * 4294967296) y

theorem tk_Fx (a : Int) (h : I64 a) : Fx (tk a) := by unfold I64 at h; unfold Fx tk; split <;> omega
theorem tk_of (a : Int) (h : Fx a) : tk a = a := by unfold Fx at h; unfold tk; rw [if_neg (by omega)]
theorem nb_of (a : Int) (h : Fx a) : nb a = false := by unfold Fx at h; unfold nb; simp; omega
theorem Fx_I64 {a : Int} (h : Fx a) : I64 a := by unfold Fx at h; unfold I64; omega
theorem tk_I64 (a : Int) (h : I64 a) : I64 (tk a) := Fx_I64 (tk_Fx a h)
theorem fit_Fx (r : Int) : Fx (fitI r) := by unfold Fx fitI; split <;> (try split) <;> omega
theorem fit_inF (r : Int) (h : Fx r) : fitI r = r ∧ fitB r = false := by
  unfold Fx at h; unfold fitI fitB; rw [if_neg (by omega), if_neg (by omega)]; simp; omega
theorem mul_abs (x y M N : Int) (hx : -M ≤ x ∧ x ≤ M) (hy : -N ≤ y ∧ y ≤ N) : -(M * N) ≤ x * y ∧ x * y ≤ M * N := by
  have hM : 0 ≤ M := by omega
  have hN : 0 ≤ N := by omega
  have k : x.natAbs * y.natAbs ≤ M.natAbs * N.natAbs := Nat.mul_le_mul (by omega) (by omega)
  rw [← Int.natAbs_mul, ← Int.natAbs_mul] at k
  have := Int.mul_nonneg hM hN
  omega
theorem rawq_le (m n : Int) (hm : 0 ≤ m) (hn : 0 < n) : 0 ≤ rawq m n ∧ rawq m n ≤ m + 1 := by
  have h0 := Int.ediv_nonneg hm (Int.le_of_lt hn)
  have h1 := Int.ediv_le_self n hm
  unfold rawq; split <;> omega
theorem rdiv_abs (a d M : Int) (hd : d ≠ 0) (ha : -M ≤ a ∧ a ≤ M) : -(M + 1) ≤ rdiv a d ∧ rdiv a d ≤ M + 1 := by
  have h := rawq_le (a.natAbs) (d.natAbs) (by omega) (by omega)
  unfold rdiv; split <;> omega
theorem prod_range (x y : Int) (hx : Fx x) (hy : Fx y) : -85070591730234615847396907784232501249 ≤ x * y ∧ x * y ≤ 85070591730234615847396907784232501249 :=
  mul_abs x y 9223372036854775807 9223372036854775807 hx hy
theorem wrapW_prod (x y : Int) (hx : Fx x) (hy : Fx y) : wrapW (x * y) = x * y := by
  have := prod_range x y hx hy
  exact wrapW_in _ (by omega)
theorem quoR_range (x y : Int) (hx : Fx x) : -170141183460469231731687303715884105728 ≤ quoR x y ∧ quoR x y < 170141183460469231731687303715884105728 := by
  unfold quoR
  split
  · split <;> (try split) <;> omega
  · have := rdiv_abs (x * 4294967296) y 39614081257132168796771975168 (by assumption) (by unfold Fx at hx; omega)
    omega

end Go.Proofs.Wd

/- What a unit reckons, in whole numbers: fix's operations as functions; sums, products and dots over a list that is given by its indexes. -/
namespace Go.Proofs.Wd
set_option linter.unusedVariables false

def addN (a b : Int) : Int := fitI (tk a + tk b)
def addC (a b : Int) : Bool := cutB (tk a + tk b) a b
def subN (a b : Int) : Int := fitI (tk a - tk b)
def subC (a b : Int) : Bool := cutB (tk a - tk b) a b
def halfN (a b : Int) : Int := fitI (rdiv (tk a + tk b) 2)
def halfC (a b : Int) : Bool := cutB (rdiv (tk a + tk b) 2) a b
def mulN (a b : Int) : Int := fitI (rdiv (tk a * tk b) 4294967296)
def mulC (a b : Int) : Bool := cutB (rdiv (tk a * tk b) 4294967296) a b
def divN (a b : Int) : Int := fitI (quoR (tk a) (tk b))
def divC (a b : Int) : Bool := cutB (quoR (tk a) (tk b)) a b || decide (b = 0)
def whoN (a : Int) : Int := fitI (a * 4294967296)
def whoC (a : Int) : Bool := fitB (a * 4294967296)

theorem fitI_I64 (a : Int) : I64 (fitI a) := by unfold I64 fitI; split; omega; split <;> omega
theorem addN_I64 (a b : Int) : I64 (addN a b) := fitI_I64 _
theorem mulN_I64 (a b : Int) : I64 (mulN a b) := fitI_I64 _

/-- What comes of s by f over the first k of Z; and whether one of these was cut. -/
def thN (f : Int → Int → Int) (s : Int) (Z : Nat → Int) : Nat → Int
  | 0 => s
  | k + 1 => f (thN f s Z k) (Z k)
def thC (f : Int → Int → Int) (g : Int → Int → Bool) (s : Int) (Z : Nat → Int) : Nat → Bool
  | 0 => false
  | k + 1 => thC f g s Z k || g (thN f s Z k) (Z k)
theorem thN_I64 (f : Int → Int → Int) (hf : ∀ a b, I64 (f a b)) (s : Int) (hs : I64 s) (Z : Nat → Int) : ∀ k, I64 (thN f s Z k)
  | 0 => hs
  | k + 1 => hf _ _
theorem thN_congr (f : Int → Int → Int) (s : Int) (Z Y : Nat → Int) : ∀ k, (∀ i, i < k → Z i = Y i) → thN f s Z k = thN f s Y k
  | 0, _ => rfl
  | k + 1, h => by
    show f _ _ = f _ _
    rw [thN_congr f s Z Y k (fun i hi => h i (by omega)), h k (by omega)]
theorem thC_congr (f : Int → Int → Int) (g : Int → Int → Bool) (s : Int) (Z Y : Nat → Int) : ∀ k, (∀ i, i < k → Z i = Y i) → thC f g s Z k = thC f g s Y k
  | 0, _ => rfl
  | k + 1, h => by
    show (_ || _) = (_ || _)
    rw [thC_congr f g s Z Y k (fun i hi => h i (by omega)), thN_congr f s Z Y k (fun i hi => h i (by omega)), h k (by omega)]

/-- The same of two lists: the product of two, then the sum. -/
def dotN (X Y : Nat → Int) : Nat → Int
  | 0 => 0
  | k + 1 => addN (dotN X Y k) (mulN (X k) (Y k))
def dotC (X Y : Nat → Int) : Nat → Bool
  | 0 => false
  | k + 1 => dotC X Y k || mulC (X k) (Y k) || addC (dotN X Y k) (mulN (X k) (Y k))
theorem dotN_I64 (X Y : Nat → Int) : ∀ k, I64 (dotN X Y k)
  | 0 => by unfold dotN I64; omega
  | k + 1 => addN_I64 _ _

end Go.Proofs.Wd

/- Rounded quotients: half a divisor away at most; they rise with what is divided; what is a multiple comes out whole; signs; and what that says of fixed numbers. -/
namespace Go.Proofs.Wd
set_option linter.unusedVariables false

theorem rawq_near (m n : Int) (hn : 0 < n) : -n ≤ 2 * (m - rawq m n * n) ∧ 2 * (m - rawq m n * n) ≤ n := by
  have h := Int.ediv_mul_add_emod m n
  have h0 := Int.emod_nonneg m (show n ≠ 0 by omega)
  have h1 := Int.emod_lt_of_pos m hn
  unfold rawq
  generalize m / n = q at *
  generalize m % n = r at *
  split
  · rw [Int.add_mul]; omega
  · omega

theorem rdiv_near (a d : Int) (hd : 0 < d) : -d ≤ 2 * (a - rdiv a d * d) ∧ 2 * (a - rdiv a d * d) ≤ d := by
  rw [rdiv_pos a d hd]
  split
  · have := rawq_near (-a) d hd
    rw [Int.neg_mul]; omega
  · exact rawq_near a d hd

theorem rdiv_neg_den (a d : Int) (hd : d < 0) (ha : a ≠ 0) : rdiv a d = -(rdiv a (-d)) := by
  unfold rdiv
  rw [Int.natAbs_neg]
  by_cases h : a < 0
  · rw [if_neg (by simp [h, hd]), if_pos (by simp [h]; omega)]; omega
  · rw [if_pos (by simp [h, hd]), if_neg (by simp [h]; omega)]

theorem rawq_zero (n : Int) (hn : 0 < n) : rawq 0 n = 0 := by
  unfold rawq; rw [Int.zero_emod, Int.zero_ediv, if_neg (by omega)]
theorem rdiv_zero (d : Int) (hd : d ≠ 0) : rdiv 0 d = 0 := by
  have h := rawq_zero (d.natAbs) (by omega)
  unfold rdiv
  rw [show ((0 : Int).natAbs : Int) = 0 from rfl, h]
  simp

theorem rdiv_near_any (a d : Int) (hd : d ≠ 0) : -(absI d) ≤ 2 * (a - rdiv a d * d) ∧ 2 * (a - rdiv a d * d) ≤ absI d := by
  by_cases h : d < 0
  · rw [show absI d = -d from by unfold absI; rw [if_pos h]]
    by_cases ha : a = 0
    · subst ha; rw [rdiv_zero d hd]; omega
    · rw [rdiv_neg_den a d h ha, Int.neg_mul]
      have := rdiv_near a (-d) (by omega)
      rw [Int.mul_neg] at this
      omega
  · rw [show absI d = d from by unfold absI; rw [if_neg h]]
    exact rdiv_near a d (by omega)

theorem rdiv_mono (x y d : Int) (hd : 0 < d) (h : x ≤ y) : rdiv x d ≤ rdiv y d := by
  by_cases he : x = y
  · rw [he]; exact Int.le_refl _
  · have hx := rdiv_near x d hd
    have hy := rdiv_near y d hd
    generalize rdiv x d = p at *
    generalize rdiv y d = q at *
    by_cases hc : p ≤ q
    · exact hc
    · have k : (q + 1) * d ≤ p * d := Int.mul_le_mul_of_nonneg_right (by omega) (by omega)
      rw [Int.add_mul] at k
      omega

theorem rdiv_mul (v d : Int) (hd : 0 < d) : rdiv (v * d) d = v := by
  have h := rdiv_near (v * d) d hd
  generalize rdiv (v * d) d = p at *
  have e : v * d - p * d = (v - p) * d := by rw [Int.sub_mul]
  rw [e] at h
  rcases (show v - p ≤ -1 ∨ v - p = 0 ∨ 1 ≤ v - p from by omega) with k | k | k
  · have := Int.mul_le_mul_of_nonneg_right k (show 0 ≤ d by omega); omega
  · omega
  · have := Int.mul_le_mul_of_nonneg_right k (show 0 ≤ d by omega); omega

theorem rdiv_neg (x d : Int) (hd : 0 < d) : rdiv (-x) d = -(rdiv x d) := by
  rw [rdiv_pos x d hd, rdiv_pos (-x) d hd]
  by_cases h : x < 0
  · rw [if_neg (by omega), if_pos h]; omega
  · by_cases h0 : x = 0
    · subst h0; rw [if_neg (by omega), if_neg (by omega)]; simp [rawq_zero d hd]
    · rw [if_pos (by omega), if_neg h]; simp

theorem fitI_mono (x y : Int) (h : x ≤ y) : fitI x ≤ fitI y := by
  unfold fitI; split <;> (try split) <;> (try split) <;> (try split) <;> omega
theorem tk_mono (x y : Int) (h : x ≤ y) (hx : I64 x) (hy : I64 y) : tk x ≤ tk y := by
  unfold I64 at hx hy; unfold tk; split <;> split <;> omega
theorem fitI_neg (x : Int) : fitI (-x) = -(fitI x) := by
  unfold fitI; split <;> (try split) <;> (try split) <;> (try split) <;> omega
theorem fitB_neg (x : Int) : fitB (-x) = fitB x := by
  unfold fitB; rw [decide_eq_decide]; omega
theorem quoR_mono (x y d : Int) (hd : 0 ≤ d) (h : x ≤ y) : quoR x d ≤ quoR y d := by
  unfold quoR
  by_cases h0 : d = 0
  · rw [if_pos h0, if_pos h0]; split <;> (try split) <;> (try split) <;> (try split) <;> omega
  · rw [if_neg h0, if_neg h0]; exact rdiv_mono _ _ _ (by omega) (by omega)
theorem cutB_of (r a b : Int) (ha : Fx a) (hb : Fx b) : cutB r a b = fitB r := by
  unfold cutB; rw [nb_of a ha, nb_of b hb]; simp

/-- What was divided and multiplied again, uncut. -/
theorem back_near (a b q m : Int) (hb : b ≠ 0) (hq : rdiv (a * 4294967296) b = q) (hm : rdiv (q * b) 4294967296 = m) :
    absI (m - a) ≤ absI b / 8589934592 + 1 := by
  have h1 := rdiv_near_any (a * 4294967296) b hb
  have h2 := rdiv_near (q * b) 4294967296 (by omega)
  rw [hq] at h1
  rw [hm] at h2
  generalize q * b = s at *
  generalize absI b = B at *
  unfold absI
  split <;> omega

end Go.Proofs.Wd

/- Lists of fixed numbers, in whole numbers: Add and Mul of two, what two lists come to by an operation, the farthest from 0; what is added is taken away again; the Dot of a sum. -/
namespace Go.Proofs.Wd
set_option linter.unusedVariables false

/-- A list of two. -/
def pairZ (a b : Int) : Nat → Int
  | 0 => a
  | _ => b
def s2N (a b : Int) : Int := addN (addN 0 a) b
def s2C (a b : Int) : Bool := addC 0 a || addC (addN 0 a) b
def m2N (a b : Int) : Int := mulN (mulN 4294967296 a) b
def m2C (a b : Int) : Bool := mulC 4294967296 a || mulC (mulN 4294967296 a) b
theorem s2N_th (a b : Int) : thN addN 0 (pairZ a b) 2 = s2N a b := rfl
theorem s2C_th (a b : Int) : thC addN addC 0 (pairZ a b) 2 = s2C a b := rfl
theorem m2N_th (a b : Int) : thN mulN 4294967296 (pairZ a b) 2 = m2N a b := by simp only [thN, m2N, pairZ]
theorem m2C_th (a b : Int) : thC mulN mulC 4294967296 (pairZ a b) 2 = m2C a b := by simp only [thN, thC, m2C, pairZ, Bool.false_or]
theorem s2N_I64 (a b : Int) : I64 (s2N a b) := addN_I64 _ _
theorem m2N_I64 (a b : Int) : I64 (m2N a b) := mulN_I64 _ _
theorem subN_I64 (a b : Int) : I64 (subN a b) := fitI_I64 _
theorem pairZ_I64 {a b : Int} (ha : I64 a) (hb : I64 b) : ∀ i, i < 2 → I64 (pairZ a b i)
  | 0, _ => ha
  | 1, _ => hb

/-- Was one of the first k cut? -/
def zC (g : Int → Int → Bool) (X Y : Nat → Int) : Nat → Bool
  | 0 => false
  | k + 1 => zC g X Y k || g (X k) (Y k)
theorem zC_false (g : Int → Int → Bool) (X Y : Nat → Int) : ∀ k, zC g X Y k = false → ∀ i, i < k → g (X i) (Y i) = false
  | 0, _, i, hi => absurd hi (Nat.not_lt_zero _)
  | k + 1, h, i, hi => by
    have h' : (zC g X Y k || g (X k) (Y k)) = false := h
    rw [Bool.or_eq_false_iff] at h'
    by_cases e : i = k
    · subst e; exact h'.2
    · exact zC_false g X Y k h'.1 i (by omega)
theorem zC_of (g : Int → Int → Bool) (X Y : Nat → Int) : ∀ k, (∀ i, i < k → g (X i) (Y i) = false) → zC g X Y k = false
  | 0, _ => rfl
  | k + 1, h => by
    show (zC g X Y k || g (X k) (Y k)) = false
    rw [zC_of g X Y k (fun i hi => h i (by omega)), h k (by omega)]
    rfl

/-- The farthest from 0 of the first k, and whether one was cut, and by how many operations. -/
def farN (x : Int) : Int := if x < 0 then subN 0 x else x
def farC (x : Int) : Bool := if x < 0 then subC 0 x else false
def farK (x : Int) : Int := if x < 0 then 1 else 0
def mxI (a b : Int) : Int := if b < a then a else b
def mostN (X : Nat → Int) : Nat → Int
  | 0 => 0
  | k + 1 => mxI (mostN X k) (farN (X k))
def mostC (X : Nat → Int) : Nat → Bool
  | 0 => false
  | k + 1 => mostC X k || farC (X k)
def mostK (X : Nat → Int) : Nat → Int
  | 0 => 0
  | k + 1 => mostK X k + farK (X k)
theorem mostK_le (X : Nat → Int) : ∀ k : Nat, 0 ≤ mostK X k ∧ mostK X k ≤ k
  | 0 => by unfold mostK; omega
  | k + 1 => by
    have := mostK_le X k
    show 0 ≤ mostK X k + farK (X k) ∧ mostK X k + farK (X k) ≤ ((k + 1 : Nat) : Int)
    unfold farK
    split <;> omega
theorem mostN_ge0 (X : Nat → Int) : ∀ k, 0 ≤ mostN X k
  | 0 => Int.le_refl _
  | k + 1 => by
    have := mostN_ge0 X k
    show 0 ≤ mxI _ _
    unfold mxI
    split <;> omega
theorem farN_eq (x : Int) (h : I64 x) : farN x = if x = -9223372036854775808 then 9223372036854775807 else if x < 0 then -x else x := by
  unfold I64 at h
  unfold farN subN tk fitI
  split <;> (repeat' split) <;> omega
theorem mostN_I64 (X : Nat → Int) (hX : ∀ i, I64 (X i)) : ∀ k, I64 (mostN X k)
  | 0 => by unfold mostN I64; omega
  | k + 1 => by
    have h1 := mostN_I64 X hX k
    have h2 : I64 (farN (X k)) := by
      have := hX k
      rw [farN_eq _ this]
      unfold I64 at *
      split; omega
      split <;> omega
    show I64 (mxI _ _)
    unfold mxI
    split
    · exact h1
    · exact h2
theorem most_ge (X : Nat → Int) : ∀ k i, i < k → farN (X i) ≤ mostN X k
  | 0, i, hi => absurd hi (Nat.not_lt_zero _)
  | k + 1, i, hi => by
    show _ ≤ mxI (mostN X k) (farN (X k))
    by_cases e : i = k
    · subst e
      unfold mxI
      split <;> omega
    · have := most_ge X k i (by omega)
      unfold mxI
      split <;> omega
theorem most_is (X : Nat → Int) : ∀ k, mostN X k = 0 ∨ ∃ i, i < k ∧ mostN X k = farN (X i)
  | 0 => Or.inl rfl
  | k + 1 => by
    have := most_is X k
    have e : mostN X (k + 1) = mxI (mostN X k) (farN (X k)) := rfl
    unfold mxI at e
    split at e
    · rw [e]
      rcases this with h | ⟨i, hi, h⟩
      · exact Or.inl h
      · exact Or.inr ⟨i, by omega, h⟩
    · exact Or.inr ⟨k, by omega, e⟩
theorem mostC_false (X : Nat → Int) : ∀ k, (∀ i, i < k → I64 (X i) ∧ X i ≠ -9223372036854775808) → mostC X k = false
  | 0, _ => rfl
  | k + 1, h => by
    show (mostC X k || farC (X k)) = false
    rw [mostC_false X k (fun i hi => h i (by omega))]
    have := h k (by omega)
    unfold I64 at this
    unfold farC subC cutB tk nb fitB
    simp
    omega

theorem tk_tk (a : Int) (h : I64 a) : I64 (tk a) ∧ tk (tk a) = tk a ∧ nb (tk a) = false ∧ fitI (tk a) = tk a ∧ fitB (tk a) = false := by
  unfold I64 at *
  unfold tk nb fitI fitB
  refine ⟨?_, ?_, ?_, ?_, ?_⟩ <;> (repeat' split) <;> first | omega | (simp; done) | (simp; omega)
theorem s2N_eq (a b : Int) (ha : I64 a) (hb : I64 b) : s2N a b = fitI (tk a + tk b) := by
  have := tk_tk a ha
  unfold s2N addN
  rw [show tk 0 = 0 from rfl, Int.zero_add, this.2.2.2.1, this.2.1]
theorem s2C_eq (a b : Int) (ha : I64 a) (hb : I64 b) : s2C a b = (nb a || nb b || fitB (tk a + tk b)) := by
  have := tk_tk a ha
  unfold s2C addC addN cutB
  rw [show tk 0 = 0 from rfl, Int.zero_add, this.2.2.2.1, this.2.1, this.2.2.1, this.2.2.2.2, show nb 0 = false from rfl]
  cases nb a <;> cases nb b <;> cases fitB (tk a + tk b) <;> rfl
theorem s2N_comm (a b : Int) (ha : I64 a) (hb : I64 b) : s2N a b = s2N b a := by
  rw [s2N_eq a b ha hb, s2N_eq b a hb ha, Int.add_comm]
theorem nb_tk (a : Int) (h : nb a = false) : tk a = a := by
  unfold nb at h
  unfold tk
  rw [if_neg (by simpa using h)]
theorem fit_of (a : Int) (h : fitB a = false) : fitI a = a := by
  unfold fitB at h
  unfold fitI
  simp at h
  rw [if_neg (by omega), if_neg (by omega)]
theorem fix_nb (a : Int) (h : fitB a = false) : nb a = false := by
  unfold fitB at h
  unfold nb
  simp at *
  omega
/-- Where nothing is cut, a sum of two is their sum. -/
theorem s2_plain (a b : Int) (ha : I64 a) (hb : I64 b) (h : s2C a b = false) : s2N a b = a + b ∧ tk a = a ∧ tk b = b ∧ fitB (a + b) = false := by
  rw [s2C_eq a b ha hb, Bool.or_eq_false_iff, Bool.or_eq_false_iff] at h
  obtain ⟨⟨h1, h2⟩, h3⟩ := h
  rw [s2N_eq a b ha hb]
  rw [nb_tk a h1, nb_tk b h2] at *
  exact ⟨fit_of _ h3, rfl, rfl, h3⟩
/-- What was added is taken away again. -/
theorem s2_back (a b : Int) (ha : I64 a) (hb : I64 b) (h : s2C a b = false) : subN (s2N a b) b = a ∧ subC (s2N a b) b = false := by
  have h' := h
  rw [s2C_eq a b ha hb, Bool.or_eq_false_iff, Bool.or_eq_false_iff] at h'
  obtain ⟨e, e1, e2, e3⟩ := s2_plain a b ha hb h
  have f1 := fix_nb _ e3
  have fa : fitB a = false := by
    have := (tk_tk a ha).2.2.2.2
    rwa [e1] at this
  rw [e]
  unfold subN subC cutB
  rw [nb_tk _ f1, e2, show a + b - b = a by omega, fit_of a fa, fa, f1, h'.1.2]
  exact ⟨rfl, rfl⟩

theorem mulN_comm (a b : Int) : mulN a b = mulN b a := by unfold mulN; rw [Int.mul_comm]
theorem mulC_comm (a b : Int) : mulC a b = mulC b a := by
  unfold mulC cutB
  rw [Int.mul_comm]
  cases nb a <;> cases nb b <;> simp
theorem dotN_comm (X Y : Nat → Int) : ∀ k, dotN X Y k = dotN Y X k
  | 0 => rfl
  | k + 1 => by
    show addN _ (mulN _ _) = addN _ (mulN _ _)
    rw [dotN_comm X Y k, mulN_comm]
theorem mul_plain (a b : Int) (h : mulC a b = false) : mulN a b = rdiv (a * b) 4294967296 := by
  unfold mulC cutB at h
  rw [Bool.or_eq_false_iff, Bool.or_eq_false_iff] at h
  unfold mulN
  rw [nb_tk a h.1.2, nb_tk b h.2] at *
  exact fit_of _ h.1.1
theorem add_plain2 (a b : Int) (h : addC a b = false) : addN a b = a + b := by
  unfold addC cutB at h
  rw [Bool.or_eq_false_iff, Bool.or_eq_false_iff] at h
  unfold addN
  rw [nb_tk a h.1.2, nb_tk b h.2] at *
  exact fit_of _ h.1.1
theorem rdiv_sum (a b c : Int) : -1 ≤ rdiv ((a + b) * c) 4294967296 - rdiv (a * c) 4294967296 - rdiv (b * c) 4294967296 ∧ rdiv ((a + b) * c) 4294967296 - rdiv (a * c) 4294967296 - rdiv (b * c) 4294967296 ≤ 1 := by
  have h1 := rdiv_near ((a + b) * c) 4294967296 (by omega)
  have h2 := rdiv_near (a * c) 4294967296 (by omega)
  have h3 := rdiv_near (b * c) 4294967296 (by omega)
  rw [Int.add_mul] at *
  generalize rdiv (a * c + b * c) 4294967296 = p at *
  generalize rdiv (a * c) 4294967296 = q at *
  generalize rdiv (b * c) 4294967296 = r at *
  generalize a * c = x at *
  generalize b * c = y at *
  omega
/-- Where nothing is cut, the Dot of a sum is the sum of Dots, but for one part a number. -/
theorem dot_sum (A B C S : Nat → Int) : ∀ k : Nat, (∀ i, i < k → S i = A i + B i) → dotC S C k = false → dotC A C k = false → dotC B C k = false →
    -(k : Int) ≤ dotN S C k - dotN A C k - dotN B C k ∧ dotN S C k - dotN A C k - dotN B C k ≤ k
  | 0, _, _, _, _ => by unfold dotN; omega
  | k + 1, hs, h1, h2, h3 => by
    have h1' : (dotC S C k || mulC (S k) (C k) || addC (dotN S C k) (mulN (S k) (C k))) = false := h1
    have h2' : (dotC A C k || mulC (A k) (C k) || addC (dotN A C k) (mulN (A k) (C k))) = false := h2
    have h3' : (dotC B C k || mulC (B k) (C k) || addC (dotN B C k) (mulN (B k) (C k))) = false := h3
    rw [Bool.or_eq_false_iff, Bool.or_eq_false_iff] at h1' h2' h3'
    have ih := dot_sum A B C S k (fun i hi => hs i (by omega)) h1'.1.1 h2'.1.1 h3'.1.1
    have es : dotN S C (k + 1) = addN (dotN S C k) (mulN (S k) (C k)) := rfl
    have ea : dotN A C (k + 1) = addN (dotN A C k) (mulN (A k) (C k)) := rfl
    have eb : dotN B C (k + 1) = addN (dotN B C k) (mulN (B k) (C k)) := rfl
    rw [add_plain2 _ _ h1'.2, mul_plain _ _ h1'.1.2] at es
    rw [add_plain2 _ _ h2'.2, mul_plain _ _ h2'.1.2] at ea
    rw [add_plain2 _ _ h3'.2, mul_plain _ _ h3'.1.2] at eb
    rw [hs k (by omega)] at es
    have := rdiv_sum (A k) (B k) (C k)
    rw [es, ea, eb]
    omega

end Go.Proofs.Wd

/- Matrices of fixed numbers, in whole numbers, row by row: rows, columns, what is turned, products; a product turned; Eye; products of whole numbers. -/
namespace Go.Proofs.Wd
set_option linter.unusedVariables false

/-- Was one of the first k cut? -/
def orC (G : Nat → Bool) : Nat → Bool
  | 0 => false
  | k + 1 => orC G k || G k
theorem orC_congr (G H : Nat → Bool) : ∀ k, (∀ i, i < k → G i = H i) → orC G k = orC H k
  | 0, _ => rfl
  | k + 1, h => by
    show (orC G k || G k) = (orC H k || H k)
    rw [orC_congr G H k (fun i hi => h i (by omega)), h k (by omega)]
theorem orC_of (G : Nat → Bool) : ∀ k, (∀ i, i < k → G i = false) → orC G k = false
  | 0, _ => rfl
  | k + 1, h => by
    show (orC G k || G k) = false
    rw [orC_of G k (fun i hi => h i (by omega)), h k (by omega)]
    rfl

theorem place_div (i k c : Nat) (h : k < c) : (i * c + k) / c = i := by
  rw [Nat.add_comm, Nat.add_mul_div_right _ _ (by omega), Nat.div_eq_of_lt h, Nat.zero_add]
theorem place_mod (i k c : Nat) (h : k < c) : (i * c + k) % c = k := by
  rw [Nat.add_comm, Nat.add_mul_mod_self_right, Nat.mod_eq_of_lt h]
theorem place_eq (p c : Nat) : p / c * c + p % c = p := Nat.div_add_mod' p c
theorem place_lt (p r c : Nat) (h : p < r * c) : p / c < r ∧ p % c < c := by
  have hc : 0 < c := by
    rcases Nat.eq_zero_or_pos c with e | e
    · subst e; simp at h
    · exact e
  exact ⟨by rw [Nat.div_lt_iff_lt_mul hc]; exact h, Nat.mod_lt _ hc⟩
theorem place_in (i k r c : Nat) (hi : i < r) (hk : k < c) : i * c + k < r * c := by
  have : (i + 1) * c ≤ r * c := Nat.mul_le_mul_right c hi
  rw [Nat.add_mul, Nat.one_mul] at this
  omega

def rowZ (M : Nat → Int) (c i : Nat) : Nat → Int := fun k => M (i * c + k)
def colZ (M : Nat → Int) (c k : Nat) : Nat → Int := fun i => M (i * c + k)
/-- Of r rows and c columns: turned. -/
def turnZ (M : Nat → Int) (r c : Nat) : Nat → Int := fun p => M (p % r * c + p / r)
def diagZ (L : Nat → Int) (n : Nat) : Nat → Int := fun p => if p / n = p % n then L (p / n) else 0
/-- a has m columns, b has m rows and c columns. -/
def mulZ (A B : Nat → Int) (m c : Nat) : Nat → Int := fun p => dotN (rowZ A m (p / c)) (colZ B c (p % c)) m
def mulG (A B : Nat → Int) (m c : Nat) : Nat → Bool := fun p => dotC (rowZ A m (p / c)) (colZ B c (p % c)) m
def appZ (A X : Nat → Int) (m : Nat) : Nat → Int := fun i => dotN (rowZ A m i) X m
def appG (A X : Nat → Int) (m : Nat) : Nat → Bool := fun i => dotC (rowZ A m i) X m

theorem dotN_congr (X Y X' Y' : Nat → Int) : ∀ k, (∀ i, i < k → X i = X' i) → (∀ i, i < k → Y i = Y' i) → dotN X Y k = dotN X' Y' k
  | 0, _, _ => rfl
  | k + 1, h, g => by
    show addN _ (mulN _ _) = addN _ (mulN _ _)
    rw [dotN_congr X Y X' Y' k (fun i hi => h i (by omega)) (fun i hi => g i (by omega)), h k (by omega), g k (by omega)]
theorem dotC_congr (X Y X' Y' : Nat → Int) : ∀ k, (∀ i, i < k → X i = X' i) → (∀ i, i < k → Y i = Y' i) → dotC X Y k = dotC X' Y' k
  | 0, _, _ => rfl
  | k + 1, h, g => by
    show (_ || _ || _) = (_ || _ || _)
    rw [dotC_congr X Y X' Y' k (fun i hi => h i (by omega)) (fun i hi => g i (by omega)), dotN_congr X Y X' Y' k (fun i hi => h i (by omega)) (fun i hi => g i (by omega)), h k (by omega), g k (by omega)]

theorem turn_row (M : Nat → Int) (r c i k : Nat) (hk : k < r) : rowZ (turnZ M r c) r i k = colZ M c i k := by
  show M ((i * r + k) % r * c + (i * r + k) / r) = M (k * c + i)
  rw [place_mod _ _ _ hk, place_div _ _ _ hk]
theorem turn_col (M : Nat → Int) (r c i k : Nat) (hi : i < r) : colZ (turnZ M r c) r i k = rowZ M c i k := by
  show M ((k * r + i) % r * c + (k * r + i) / r) = M (i * c + k)
  rw [place_mod _ _ _ hi, place_div _ _ _ hi]
/-- Turned twice. -/
theorem turn_turn (M : Nat → Int) (r c p : Nat) (h : p < r * c) : turnZ (turnZ M r c) c r p = M p := by
  have := place_lt p r c h
  show M ((p % c * r + p / c) % r * c + (p % c * r + p / c) / r) = M p
  rw [place_mod _ _ _ this.1, place_div _ _ _ this.1, place_eq]
theorem turn_I64 (M : Nat → Int) (r c : Nat) (h : ∀ i, i < r * c → I64 (M i)) : ∀ i, i < c * r → I64 (turnZ M r c i) := fun p hp =>
  have := place_lt p c r hp
  h _ (place_in _ _ _ _ this.2 this.1)
/-- A product turned is the product of both turned, exchanged. -/
theorem mul_turn (A B : Nat → Int) (r m c p : Nat) (h : p < c * r) : turnZ (mulZ A B m c) r c p = mulZ (turnZ B m c) (turnZ A r m) m r p := by
  have := place_lt p c r h
  show dotN (rowZ A m ((p % r * c + p / r) / c)) (colZ B c ((p % r * c + p / r) % c)) m = dotN (rowZ (turnZ B m c) m (p / r)) (colZ (turnZ A r m) r (p % r)) m
  rw [place_div _ _ _ this.1, place_mod _ _ _ this.1, dotN_comm]
  exact dotN_congr _ _ _ _ m (fun i hi => (turn_row B m c (p / r) i hi).symm) (fun i hi => (turn_col A r m (p % r) i this.2).symm)
/-- What the program reckons: rows of what is turned in columns' place. -/
theorem mul_rows (A B : Nat → Int) (m c i k : Nat) (hk : k < c) : dotN (rowZ A m i) (rowZ (turnZ B m c) m k) m = mulZ A B m c (i * c + k) ∧ dotC (rowZ A m i) (rowZ (turnZ B m c) m k) m = mulG A B m c (i * c + k) := by
  unfold mulZ mulG
  rw [place_div _ _ _ hk, place_mod _ _ _ hk]
  exact ⟨dotN_congr _ _ _ _ m (fun _ _ => rfl) (fun j hj => turn_row B m c k j hj), dotC_congr _ _ _ _ m (fun _ _ => rfl) (fun j hj => turn_row B m c k j hj)⟩
theorem mulZ_I64 (A B : Nat → Int) (m c p : Nat) : I64 (mulZ A B m c p) := dotN_I64 _ _ _
theorem appZ_I64 (A X : Nat → Int) (m i : Nat) : I64 (appZ A X m i) := dotN_I64 _ _ _
theorem diagZ_I64 (L : Nat → Int) (n : Nat) (h : ∀ i, i < n → I64 (L i)) : ∀ p, p < n * n → I64 (diagZ L n p) := fun p hp => by
  unfold diagZ
  split
  · exact h _ (place_lt p n n hp).1
  · unfold I64; omega

/-- One, and nothing. -/
theorem mul_one (y : Int) (h : Fx y) : mulN 4294967296 y = y ∧ mulC 4294967296 y = false ∧ mulN y 4294967296 = y ∧ mulC y 4294967296 = false := by
  have h1 : mulN 4294967296 y = y ∧ mulC 4294967296 y = false := by
    unfold Fx at h
    have e1 : tk y = y := by unfold tk; rw [if_neg (by omega)]
    have e2 : tk 4294967296 = 4294967296 := by decide
    have e3 : rdiv (4294967296 * y) 4294967296 = y := by rw [Int.mul_comm]; exact rdiv_mul y 4294967296 (by omega)
    unfold mulN mulC cutB
    rw [e1, e2, e3]
    refine ⟨?_, ?_⟩
    · unfold fitI; rw [if_neg (by omega), if_neg (by omega)]
    · unfold fitB nb; simp; omega
  exact ⟨h1.1, h1.2, by rw [mulN_comm]; exact h1.1, by rw [mulC_comm]; exact h1.2⟩
theorem mul_nought (y : Int) (h : Fx y) : mulN 0 y = 0 ∧ mulC 0 y = false ∧ mulN y 0 = 0 ∧ mulC y 0 = false := by
  have h1 : mulN 0 y = 0 ∧ mulC 0 y = false := by
    unfold Fx at h
    have e2 : tk 0 = 0 := by decide
    have e3 : rdiv 0 4294967296 = 0 := by decide
    unfold mulN mulC cutB
    rw [e2, Int.zero_mul, e3]
    refine ⟨by decide, ?_⟩
    unfold nb
    simp
    exact ⟨by decide, by omega⟩
  exact ⟨h1.1, h1.2, by rw [mulN_comm]; exact h1.1, by rw [mulC_comm]; exact h1.2⟩
theorem add_nought (y : Int) (h : Fx y) : addN 0 y = y ∧ addC 0 y = false ∧ addN y 0 = y ∧ addC y 0 = false := by
  unfold Fx at h
  have e1 : tk y = y := by unfold tk; rw [if_neg (by omega)]
  have e2 : tk 0 = 0 := by decide
  have e3 : fitI y = y := by unfold fitI; rw [if_neg (by omega), if_neg (by omega)]
  have e4 : fitB y = false := by unfold fitB; simp; omega
  have e5 : nb y = false := by unfold nb; simp; omega
  unfold addN addC cutB
  rw [e1, e2, Int.zero_add, Int.add_zero, e3, e4, e5]
  exact ⟨rfl, by decide, rfl, by decide⟩
/-- One at place i, and 0 beside. -/
def unitZ (i : Nat) : Nat → Int := fun k => if i = k then 4294967296 else 0
theorem dot_unit (Y : Nat → Int) (i : Nat) : ∀ t, (∀ k, k < t → Fx (Y k)) → dotN (unitZ i) Y t = (if i < t then Y i else 0) ∧ dotC (unitZ i) Y t = false ∧ dotN Y (unitZ i) t = (if i < t then Y i else 0) ∧ dotC Y (unitZ i) t = false
  | 0, _ => ⟨rfl, rfl, rfl, rfl⟩
  | t + 1, h => by
    obtain ⟨h1, h2, h3, h4⟩ := dot_unit Y i t (fun k hk => h k (by omega))
    have hy := h t (by omega)
    show addN _ (mulN _ _) = _ ∧ (_ || mulC _ _ || addC _ (mulN _ _)) = false ∧ addN _ (mulN _ _) = _ ∧ (_ || mulC _ _ || addC _ (mulN _ _)) = false
    rw [h1, h2, h3, h4]
    by_cases e : i = t
    · subst e
      have eu : unitZ i i = 4294967296 := by unfold unitZ; rw [if_pos rfl]
      rw [eu, if_neg (by omega), if_pos (by omega), (mul_one _ hy).1, (mul_one _ hy).2.1, (mul_one _ hy).2.2.1, (mul_one _ hy).2.2.2, (add_nought _ hy).1, (add_nought _ hy).2.1]
      exact ⟨rfl, rfl, rfl, rfl⟩
    · have eu : unitZ i t = 0 := by unfold unitZ; rw [if_neg e]
      rw [eu, (mul_nought _ hy).1, (mul_nought _ hy).2.1, (mul_nought _ hy).2.2.1, (mul_nought _ hy).2.2.2]
      by_cases g : i < t
      · rw [if_pos g, if_pos (by omega), (add_nought _ (h i (by omega))).2.2.1, (add_nought _ (h i (by omega))).2.2.2]
        exact ⟨rfl, rfl, rfl, rfl⟩
      · rw [if_neg g, if_neg (by omega)]
        exact ⟨by decide, by decide, by decide, by decide⟩
def oneZ : Nat → Int := fun _ => 4294967296
theorem eye_row (n i k : Nat) (h : k < n) : rowZ (diagZ oneZ n) n i k = unitZ i k := by
  show (if (i * n + k) / n = (i * n + k) % n then (4294967296 : Int) else 0) = if i = k then 4294967296 else 0
  rw [place_div _ _ _ h, place_mod _ _ _ h]
theorem eye_col (n i k : Nat) (h : i < n) : colZ (diagZ oneZ n) n i k = unitZ i k := by
  show (if (k * n + i) / n = (k * n + i) % n then (4294967296 : Int) else 0) = if i = k then 4294967296 else 0
  rw [place_div _ _ _ h, place_mod _ _ _ h]
  by_cases e : k = i
  · rw [if_pos e, if_pos e.symm]
  · rw [if_neg e, if_neg (fun x => e x.symm)]
/-- Eye is neutral. -/
theorem eye_left (A : Nat → Int) (r c p : Nat) (hA : ∀ i, i < r * c → Fx (A i)) (h : p < r * c) : mulZ (diagZ oneZ r) A r c p = A p ∧ mulG (diagZ oneZ r) A r c p = false := by
  have hp := place_lt p r c h
  have D := dot_unit (colZ A c (p % c)) (p / c) r (fun k hk => hA _ (place_in _ _ _ _ hk hp.2))
  unfold mulZ mulG
  rw [dotN_congr _ _ (unitZ (p / c)) _ r (fun k hk => eye_row r (p / c) k hk) (fun _ _ => rfl), dotC_congr _ _ (unitZ (p / c)) _ r (fun k hk => eye_row r (p / c) k hk) (fun _ _ => rfl), D.1, D.2.1, if_pos hp.1]
  refine ⟨?_, rfl⟩
  show A (p / c * c + p % c) = _
  rw [place_eq]
theorem eye_right (A : Nat → Int) (r c p : Nat) (hA : ∀ i, i < r * c → Fx (A i)) (h : p < r * c) : mulZ A (diagZ oneZ c) c c p = A p ∧ mulG A (diagZ oneZ c) c c p = false := by
  have hp := place_lt p r c h
  have D := dot_unit (rowZ A c (p / c)) (p % c) c (fun k hk => hA _ (place_in _ _ _ _ hp.1 hk))
  unfold mulZ mulG
  rw [dotN_congr _ _ _ (unitZ (p % c)) c (fun _ _ => rfl) (fun k hk => eye_col c (p % c) k hp.2), dotC_congr _ _ _ (unitZ (p % c)) c (fun _ _ => rfl) (fun k hk => eye_col c (p % c) k hp.2), D.2.2.1, D.2.2.2, if_pos hp.2]
  refine ⟨?_, rfl⟩
  show A (p / c * c + p % c) = _
  rw [place_eq]

/-- Sums. -/
def sI (f : Nat → Int) : Nat → Int
  | 0 => 0
  | k + 1 => sI f k + f k
theorem sI_congr (f g : Nat → Int) : ∀ k, (∀ i, i < k → f i = g i) → sI f k = sI g k
  | 0, _ => rfl
  | k + 1, h => by
    show sI f k + f k = sI g k + g k
    rw [sI_congr f g k (fun i hi => h i (by omega)), h k (by omega)]
theorem sI_add (f g : Nat → Int) : ∀ k, sI (fun i => f i + g i) k = sI f k + sI g k
  | 0 => rfl
  | k + 1 => by
    show sI (fun i => f i + g i) k + (f k + g k) = sI f k + f k + (sI g k + g k)
    rw [sI_add f g k]
    omega
theorem sI_mul (f : Nat → Int) (y : Int) : ∀ k, sI f k * y = sI (fun i => f i * y) k
  | 0 => by show 0 * y = 0; omega
  | k + 1 => by
    show (sI f k + f k) * y = sI (fun i => f i * y) k + f k * y
    rw [Int.add_mul, sI_mul f y k]
theorem sI_mulL (f : Nat → Int) (y : Int) (k : Nat) : y * sI f k = sI (fun i => y * f i) k := by
  rw [Int.mul_comm, sI_mul]
  exact sI_congr _ _ k (fun i _ => Int.mul_comm _ _)
theorem sI_zero : ∀ k, sI (fun _ => 0) k = 0
  | 0 => rfl
  | k + 1 => by show sI (fun _ => 0) k + 0 = 0; rw [sI_zero k]; rfl
theorem sI_swap (f : Nat → Nat → Int) (m : Nat) : ∀ k, sI (fun j => sI (fun i => f i j) m) k = sI (fun i => sI (fun j => f i j) k) m
  | 0 => (sI_zero m).symm
  | k + 1 => by
    show sI (fun j => sI (fun i => f i j) m) k + sI (fun i => f i k) m = _
    rw [sI_swap f m k, ← sI_add]
    rfl
theorem sI_bound (f : Nat → Int) (B : Int) : ∀ k : Nat, (∀ i, i < k → -B ≤ f i ∧ f i ≤ B) → -(B * k) ≤ sI f k ∧ sI f k ≤ B * k
  | 0, _ => by show -(B * 0) ≤ 0 ∧ 0 ≤ B * 0; omega
  | k + 1, h => by
    have h1 := sI_bound f B k (fun i hi => h i (by omega))
    have h2 := h k (by omega)
    show -(B * ((k + 1 : Nat) : Int)) ≤ sI f k + f k ∧ sI f k + f k ≤ B * ((k + 1 : Nat) : Int)
    rw [show B * ((k + 1 : Nat) : Int) = B * k + B by rw [Int.natCast_add, Int.mul_add]; omega]
    omega

/-- Whole numbers, from -B to B. -/
def Wh (B : Int) (n : Nat) (X : Nat → Int) (x : Nat → Int) : Prop := ∀ i, i < n → X i = x i * 4294967296 ∧ -B ≤ x i ∧ x i ≤ B
theorem whole_fx (x : Int) (h : -2147483647 ≤ x ∧ x ≤ 2147483647) : Fx (x * 4294967296) := by unfold Fx; omega
theorem fx_all (y : Int) (h : Fx y) : tk y = y ∧ fitI y = y ∧ fitB y = false ∧ nb y = false := by
  unfold Fx at h
  refine ⟨by unfold tk; rw [if_neg (by omega)], by unfold fitI; rw [if_neg (by omega), if_neg (by omega)], by unfold fitB; simp; omega, by unfold nb; simp; omega⟩
theorem whole_mul (x y : Int) (hx : -2147483647 ≤ x ∧ x ≤ 2147483647) (hy : -2147483647 ≤ y ∧ y ≤ 2147483647) (h : -2147483647 ≤ x * y ∧ x * y ≤ 2147483647) : mulN (x * 4294967296) (y * 4294967296) = x * y * 4294967296 ∧ mulC (x * 4294967296) (y * 4294967296) = false := by
  have e1 := fx_all _ (whole_fx x hx)
  have e2 := fx_all _ (whole_fx y hy)
  have e3 := fx_all _ (whole_fx (x * y) h)
  have e4 : rdiv (x * 4294967296 * (y * 4294967296)) 4294967296 = x * y * 4294967296 := by
    have := rdiv_mul (x * y * 4294967296) 4294967296 (by omega)
    rwa [show x * y * 4294967296 * 4294967296 = x * 4294967296 * (y * 4294967296) by grind] at this
  unfold mulN mulC cutB
  rw [e1.1, e2.1, e4, e3.2.1, e3.2.2.1, e1.2.2.2, e2.2.2.2]
  exact ⟨rfl, rfl⟩
theorem whole_add (x y : Int) (hx : -2147483647 ≤ x ∧ x ≤ 2147483647) (hy : -2147483647 ≤ y ∧ y ≤ 2147483647) (h : -2147483647 ≤ x + y ∧ x + y ≤ 2147483647) : addN (x * 4294967296) (y * 4294967296) = (x + y) * 4294967296 ∧ addC (x * 4294967296) (y * 4294967296) = false := by
  have e1 := fx_all _ (whole_fx x hx)
  have e2 := fx_all _ (whole_fx y hy)
  have e3 := fx_all _ (whole_fx (x + y) h)
  unfold addN addC cutB
  rw [e1.1, e2.1, ← Int.add_mul, e3.2.1, e3.2.2.1, e1.2.2.2, e2.2.2.2]
  exact ⟨rfl, rfl⟩
theorem whole_s2 (x y : Int) (hx : -2147483647 ≤ x ∧ x ≤ 2147483647) (hy : -2147483647 ≤ y ∧ y ≤ 2147483647) (h : -2147483647 ≤ x + y ∧ x + y ≤ 2147483647) : s2N (x * 4294967296) (y * 4294967296) = (x + y) * 4294967296 ∧ s2C (x * 4294967296) (y * 4294967296) = false := by
  have h0 := add_nought _ (whole_fx x hx)
  unfold s2N s2C
  rw [h0.1, h0.2.1, (whole_add x y hx hy h).1, (whole_add x y hx hy h).2]
  exact ⟨rfl, rfl⟩
theorem mul_bound (x y a b : Int) (hx : -a ≤ x ∧ x ≤ a) (hy : -b ≤ y ∧ y ≤ b) : -(a * b) ≤ x * y ∧ x * y ≤ a * b := by
  have ha : 0 ≤ a := by omega
  have h1 : (a - x) * (b - y) ≥ 0 := Int.mul_nonneg (by omega) (by omega)
  have h2 : (a + x) * (b + y) ≥ 0 := Int.mul_nonneg (by omega) (by omega)
  have h3 : (a - x) * (b + y) ≥ 0 := Int.mul_nonneg (by omega) (by omega)
  have h4 : (a + x) * (b - y) ≥ 0 := Int.mul_nonneg (by omega) (by omega)
  rw [Int.sub_mul, Int.mul_sub, Int.mul_sub] at h1
  rw [Int.add_mul, Int.mul_add, Int.mul_add] at h2
  rw [Int.sub_mul, Int.mul_add, Int.mul_add] at h3
  rw [Int.add_mul, Int.mul_sub, Int.mul_sub] at h4
  omega
theorem whole_dot (X Y x y : Nat → Int) (a b : Int) (ha : 0 ≤ a ∧ a ≤ 2147483647) (hb : 0 ≤ b ∧ b ≤ 2147483647) : ∀ k : Nat, Wh a k X x → Wh b k Y y → a * b * k ≤ 2147483647 → dotN X Y k = sI (fun i => x i * y i) k * 4294967296 ∧ dotC X Y k = false
  | 0, _, _, _ => ⟨rfl, rfl⟩
  | k + 1, hX, hY, hk => by
    have hab : 0 ≤ a * b := Int.mul_nonneg ha.1 hb.1
    have hk2 : a * b * ((k + 1 : Nat) : Int) = a * b * k + a * b := by rw [Int.natCast_add, Int.mul_add]; omega
    have hk3 : 0 ≤ a * b * k := Int.mul_nonneg hab (by omega)
    obtain ⟨h1, h2⟩ := whole_dot X Y x y a b ha hb k (fun i hi => hX i (by omega)) (fun i hi => hY i (by omega)) (by omega)
    have hs := sI_bound (fun i => x i * y i) (a * b) k (fun i hi => mul_bound _ _ a b (hX i (by omega)).2 (hY i (by omega)).2)
    have hx := hX k (by omega)
    have hy := hY k (by omega)
    have hm := mul_bound _ _ a b hx.2 hy.2
    have m := whole_mul (x k) (y k) (by omega) (by omega) (by omega)
    have d := whole_add (sI (fun i => x i * y i) k) (x k * y k) (by omega) (by omega) (by omega)
    show addN _ (mulN _ _) = (sI (fun i => x i * y i) k + x k * y k) * 4294967296 ∧ (_ || mulC _ _ || addC _ (mulN _ _)) = false
    rw [h1, h2, hx.1, hy.1, m.1, m.2, d.1, d.2]
    exact ⟨rfl, rfl⟩
/-- The product of whole numbers. -/
def mulW (x y : Nat → Int) (m c : Nat) : Nat → Int := fun p => sI (fun j => x (p / c * m + j) * y (j * c + p % c)) m
theorem whole_mat (A B a b : Nat → Int) (r m c : Nat) (p q : Int) (hp : 0 ≤ p ∧ p ≤ 2147483647) (hq : 0 ≤ q ∧ q ≤ 2147483647) (hA : Wh p (r * m) A a) (hB : Wh q (m * c) B b) (hm : p * q * m ≤ 2147483647) :
    Wh (p * q * m) (r * c) (mulZ A B m c) (mulW a b m c) ∧ ∀ i, i < r * c → mulG A B m c i = false := by
  have D : ∀ i, i < r * c → dotN (rowZ A m (i / c)) (colZ B c (i % c)) m = mulW a b m c i * 4294967296 ∧ dotC (rowZ A m (i / c)) (colZ B c (i % c)) m = false := fun i hi => by
    have hl := place_lt i r c hi
    exact whole_dot _ _ (fun j => a (i / c * m + j)) (fun j => b (j * c + i % c)) p q hp hq m (fun j hj => hA _ (place_in _ _ _ _ hl.1 hj)) (fun j hj => hB _ (place_in _ _ _ _ hj hl.2)) hm
  refine ⟨fun i hi => ⟨(D i hi).1, ?_⟩, fun i hi => (D i hi).2⟩
  have hl := place_lt i r c hi
  exact sI_bound _ (p * q) m (fun j hj => mul_bound _ _ p q (hA _ (place_in _ _ _ _ hl.1 hj)).2 (hB _ (place_in _ _ _ _ hj hl.2)).2)
def appW (x y : Nat → Int) (m : Nat) : Nat → Int := fun i => sI (fun j => x (i * m + j) * y j) m
theorem whole_app (A X a x : Nat → Int) (r m : Nat) (p q : Int) (hp : 0 ≤ p ∧ p ≤ 2147483647) (hq : 0 ≤ q ∧ q ≤ 2147483647) (hA : Wh p (r * m) A a) (hX : Wh q m X x) (hm : p * q * m ≤ 2147483647) :
    Wh (p * q * m) r (appZ A X m) (appW a x m) ∧ ∀ i, i < r → appG A X m i = false := by
  have D : ∀ i, i < r → dotN (rowZ A m i) X m = appW a x m i * 4294967296 ∧ dotC (rowZ A m i) X m = false := fun i hi =>
    whole_dot _ _ (fun j => a (i * m + j)) x p q hp hq m (fun j hj => hA _ (place_in _ _ _ _ hi hj)) hX hm
  exact ⟨fun i hi => ⟨(D i hi).1, sI_bound _ (p * q) m (fun j hj => mul_bound _ _ p q (hA _ (place_in _ _ _ _ hi hj)).2 (hX j hj).2)⟩, fun i hi => (D i hi).2⟩
theorem whole_sum (A B a b : Nat → Int) (n : Nat) (p q : Int) (hp : 0 ≤ p) (hq : 0 ≤ q) (hpq : p + q ≤ 2147483647) (hA : Wh p n A a) (hB : Wh q n B b) :
    Wh (p + q) n (fun i => s2N (A i) (B i)) (fun i => a i + b i) ∧ ∀ i, i < n → s2C (A i) (B i) = false := by
  have D : ∀ i, i < n → s2N (A i) (B i) = (a i + b i) * 4294967296 ∧ s2C (A i) (B i) = false := fun i hi => by
    have h1 := hA i hi
    have h2 := hB i hi
    rw [h1.1, h2.1]
    exact whole_s2 _ _ (by omega) (by omega) (by omega)
  exact ⟨fun i hi => ⟨(D i hi).1, by have := hA i hi; have := hB i hi; show -(p + q) ≤ a i + b i ∧ a i + b i ≤ p + q; omega⟩, fun i hi => (D i hi).2⟩
/-- (a b) c = a (b c). -/
theorem mulW_assoc (a b c : Nat → Int) (r m n k p : Nat) (h : p < r * k) : mulW (mulW a b m n) c n k p = mulW a (mulW b c n k) m k p := by
  have hp := place_lt p r k h
  show sI (fun j => sI (fun i => a ((p / k * n + j) / n * m + i) * b (i * n + (p / k * n + j) % n)) m * c (j * k + p % k)) n = sI (fun i => a (p / k * m + i) * sI (fun j => b ((i * k + p % k) / k * n + j) * c (j * k + (i * k + p % k) % k)) n) m
  have e1 : sI (fun j => sI (fun i => a ((p / k * n + j) / n * m + i) * b (i * n + (p / k * n + j) % n)) m * c (j * k + p % k)) n = sI (fun j => sI (fun i => a (p / k * m + i) * b (i * n + j) * c (j * k + p % k)) m) n :=
    sI_congr _ _ n (fun j hj => by rw [sI_mul]; exact sI_congr _ _ m (fun i hi => by rw [place_div _ _ _ hj, place_mod _ _ _ hj]))
  have e2 : sI (fun i => a (p / k * m + i) * sI (fun j => b ((i * k + p % k) / k * n + j) * c (j * k + (i * k + p % k) % k)) n) m = sI (fun i => sI (fun j => a (p / k * m + i) * b (i * n + j) * c (j * k + p % k)) n) m :=
    sI_congr _ _ m (fun i hi => by rw [sI_mulL]; exact sI_congr _ _ n (fun j hj => by rw [place_div _ _ _ hp.2, place_mod _ _ _ hp.2, Int.mul_assoc]))
  rw [e1, e2]
  exact sI_swap (fun i j => a (p / k * m + i) * b (i * n + j) * c (j * k + p % k)) m n
/-- a (b + d) = a b + a d. -/
theorem mulW_add (a b d : Nat → Int) (m n p : Nat) : mulW a (fun i => b i + d i) m n p = mulW a b m n p + mulW a d m n p := by
  show sI (fun j => a (p / n * m + j) * (b (j * n + p % n) + d (j * n + p % n))) m = sI (fun j => a (p / n * m + j) * b (j * n + p % n)) m + sI (fun j => a (p / n * m + j) * d (j * n + p % n)) m
  rw [← sI_add]
  exact sI_congr _ _ m (fun j hj => Int.mul_add _ _ _)
/-- a (b x) = (a b) x. -/
theorem appW_assoc (a b x : Nat → Int) (m n i : Nat) : appW (mulW a b m n) x n i = appW a (appW b x n) m i := by
  show sI (fun j => sI (fun t => a ((i * n + j) / n * m + t) * b (t * n + (i * n + j) % n)) m * x j) n = sI (fun t => a (i * m + t) * sI (fun j => b (t * n + j) * x j) n) m
  have e1 : sI (fun j => sI (fun t => a ((i * n + j) / n * m + t) * b (t * n + (i * n + j) % n)) m * x j) n = sI (fun j => sI (fun t => a (i * m + t) * b (t * n + j) * x j) m) n :=
    sI_congr _ _ n (fun j hj => by rw [sI_mul]; exact sI_congr _ _ m (fun t ht => by rw [place_div _ _ _ hj, place_mod _ _ _ hj]))
  have e2 : sI (fun t => a (i * m + t) * sI (fun j => b (t * n + j) * x j) n) m = sI (fun t => sI (fun j => a (i * m + t) * b (t * n + j) * x j) n) m :=
    sI_congr _ _ m (fun t ht => by rw [sI_mulL]; exact sI_congr _ _ n (fun j hj => by rw [Int.mul_assoc]))
  rw [e1, e2]
  exact sI_swap (fun t j => a (i * m + t) * b (t * n + j) * x j) m n

end Go.Proofs.Wd

/- Package wide's quotients: what quotient, fraction, Div and Fit return, in whole numbers, where math/bits.Div64 does what it says. -/
namespace Go.Proofs.Ytpanfppnkgokdaa
open Go.RowKit Go.Proofs.Wd
set_option linter.unusedVariables false
set_option linter.unusedSimpArgs false
set_option maxRecDepth 10000
attribute [local go_sem ↓] Go.wp_at_zero Go.wp_at_succ

theorem grown_drewN {W w' : World} (n : Nat) (h : Grown W w') : Grown W (w'.drewN n) := h

theorem sg_near2 (a d : Int) (hd : d ≠ 0) : sg (apartS a d) (nearQ (absI a / absI d) (absI a % absI d) (absI d - absI a % absI d)) = rdiv a d := by
  have e1 : ((a.natAbs : Nat) : Int) = absI a := by unfold absI; split <;> omega
  have e2 : ((d.natAbs : Nat) : Int) = absI d := by unfold absI; split <;> omega
  unfold rdiv rawq sg nearQ apartS
  rw [e1, e2]
theorem quo_parts (mh ml n : Int) (h1 : U64 ml) (h2 : U64 mh) (hn : 0 < n) :
    val (mh % n) ml / n = loOf (val mh ml / n) ∧ mh / n = mhi (val mh ml / n) ∧ val (mh % n) ml % n = val mh ml % n := by
  have e1 := Int.emod_add_mul_ediv mh n
  have e2 := Int.emod_nonneg mh (by omega : n ≠ 0)
  have e3 := Int.emod_lt_of_pos mh hn
  have f1 := Int.emod_add_mul_ediv (val (mh % n) ml) n
  have f2 := Int.emod_nonneg (val (mh % n) ml) (by omega : n ≠ 0)
  have f3 := Int.emod_lt_of_pos (val (mh % n) ml) hn
  unfold U64 at h1 h2
  have g0 : 0 ≤ mh / n := dv0 _ _ hn h2.1
  have g1 : mh / n ≤ mh := Int.ediv_le_self _ h2.1
  have hx : val mh ml = (val (mh % n) ml % n) + n * ((mh / n) * 18446744073709551616 + val (mh % n) ml / n) := by
    have : val mh ml = n * (mh / n) * 18446744073709551616 + val (mh % n) ml := by unfold val; omega
    rw [this]; grind
  obtain ⟨k1, k2⟩ := du hn hx.symm f2 f3
  have l0 : 0 ≤ val (mh % n) ml / n := dv0 _ _ hn (by unfold val; omega)
  have l1 : val (mh % n) ml / n < 18446744073709551616 := ltdiv _ _ _ hn (by
    have : (mh % n + 1) * 18446744073709551616 ≤ n * 18446744073709551616 := Int.mul_le_mul_of_nonneg_right (by omega) (by decide)
    unfold val; omega)
  rw [k1, k2]
  refine ⟨?_, ?_, rfl⟩
  · unfold loOf; omega
  · unfold mhi; omega

theorem val_I64 (n : Int) (h : I64 n) : val (hiOf n) (loOf n) = n := by
  rw [val_of, wrapW_in]; unfold I64 at h; omega

end Go.Proofs.Ytpanfppnkgokdaa

/- What wide's calls return, said of whole numbers modulo 2^128: the form in which laws are walked. -/
namespace Go.Proofs.Ytpanfppnkgokdaa
open Go.RowKit Go.Proofs.Wd
set_option linter.unusedVariables false
set_option linter.unusedSimpArgs false
set_option maxRecDepth 10000

theorem hiOf_add (A B : Int) : hiOf (wrapW A + wrapW B) = hiOf (A + B) := by unfold hiOf wrapW; omega
theorem loOf_add (A B : Int) : loOf (wrapW A + wrapW B) = loOf (A + B) := by unfold loOf wrapW; omega
theorem hiOf_neg (A : Int) : hiOf (-wrapW A) = hiOf (-A) := by unfold hiOf wrapW; omega
theorem loOf_neg (A : Int) : loOf (-wrapW A) = loOf (-A) := by unfold loOf wrapW; omega
theorem as_val (h l : Int) (a : I64 h) (b : U64 l) : ∃ A, h = hiOf A ∧ l = loOf A ∧ wrapW A = A := ⟨val h l, (hiOf_val h l a b).symm, (loOf_val h l b).symm, wrapW_in _ (val_range h l a b)⟩

theorem with_gat2 {W w1 : World} {G : Prop} (h : Grown W w1) (b : Nat) (x y : Value) (h0 : W.cell? ⟨b, 0, none⟩ = some x) (h1 : W.cell? ⟨b, 1, none⟩ = some y) (k : w1.cell? ⟨b, 0, none⟩ = some x → w1.cell? ⟨b, 1, none⟩ = some y → G) : G := k (gat h h0) (gat h h1)
theorem keep3 {w W w1 : World} {b0 b1 b2 : Nat} {x0 x1 y0 y1 z0 z1 : Value} (h : Grown W w1)
    (hv : W.cell? ⟨b0, 0, none⟩ = some x0 ∧ W.cell? ⟨b0, 1, none⟩ = some x1 ∧ W.cell? ⟨b1, 0, none⟩ = some y0 ∧ W.cell? ⟨b1, 1, none⟩ = some y1 ∧ W.cell? ⟨b2, 0, none⟩ = some z0 ∧ W.cell? ⟨b2, 1, none⟩ = some z1 ∧ Grown w W) :
    w1.cell? ⟨b0, 0, none⟩ = some x0 ∧ w1.cell? ⟨b0, 1, none⟩ = some x1 ∧ w1.cell? ⟨b1, 0, none⟩ = some y0 ∧ w1.cell? ⟨b1, 1, none⟩ = some y1 ∧ w1.cell? ⟨b2, 0, none⟩ = some z0 ∧ w1.cell? ⟨b2, 1, none⟩ = some z1 ∧ Grown w w1 :=
  ⟨gat h hv.1, gat h hv.2.1, gat h hv.2.2.1, gat h hv.2.2.2.1, gat h hv.2.2.2.2.1, gat h hv.2.2.2.2.2.1, gtrans hv.2.2.2.2.2.2 h⟩
theorem keep2 {w W w1 : World} {b0 b1 : Nat} {x0 x1 y0 y1 : Value} (h : Grown W w1)
    (hv : W.cell? ⟨b0, 0, none⟩ = some x0 ∧ W.cell? ⟨b0, 1, none⟩ = some x1 ∧ W.cell? ⟨b1, 0, none⟩ = some y0 ∧ W.cell? ⟨b1, 1, none⟩ = some y1 ∧ Grown w W) :
    w1.cell? ⟨b0, 0, none⟩ = some x0 ∧ w1.cell? ⟨b0, 1, none⟩ = some x1 ∧ w1.cell? ⟨b1, 0, none⟩ = some y0 ∧ w1.cell? ⟨b1, 1, none⟩ = some y1 ∧ Grown w w1 :=
  ⟨gat h hv.1, gat h hv.2.1, gat h hv.2.2.1, gat h hv.2.2.2.1, gtrans hv.2.2.2.2 h⟩

end Go.Proofs.Ytpanfppnkgokdaa

/- The parts of package fix: what take, narrow, shifted and reckon return. -/
namespace Go.Proofs.Ytpanfppnkgokdaa
open Go.RowKit Go.Proofs.Wd
set_option linter.unusedVariables false
set_option linter.unusedSimpArgs false
set_option maxRecDepth 10000
attribute [local go_sem ↓] Go.wp_at_zero Go.wp_at_succ

end Go.Proofs.Ytpanfppnkgokdaa

/- math/bits.Len64 and LeadingZeros64, walked: a number above 0, moved by its leading zeros, has its highest bit set. -/
namespace Go.Proofs.Ytpanfppnkgokdaa
open Go.RowKit Go.Proofs.Wd
open Go.Lib (run_index_len8tab)
set_option linter.unusedVariables false
set_option linter.unusedSimpArgs false
set_option maxRecDepth 10000

/-- n is the length of y: 2^(n-1) ≤ y < 2^n. -/
def LenIs (y n : Int) : Prop := 1 ≤ n ∧ n ≤ 64 ∧ 2 ^ (n - 1).toNat ≤ y ∧ y < 2 ^ n.toNat
theorem len8_is : ∀ n : Fin 256, 0 < n.val → (1 ≤ Lib.len8 (n.val : Int) ∧ Lib.len8 (n.val : Int) ≤ 8 ∧ (2 : Int) ^ (Lib.len8 (n.val : Int) - 1).toNat ≤ n.val ∧ (n.val : Int) < 2 ^ (Lib.len8 (n.val : Int)).toNat) := by decide +kernel
theorem len8_of (b : Int) (h0 : 0 < b) (h1 : b ≤ 255) : 1 ≤ Lib.len8 b ∧ Lib.len8 b ≤ 8 ∧ 2 ^ (Lib.len8 b - 1).toNat ≤ b ∧ b < 2 ^ (Lib.len8 b).toNat := by
  have h := len8_is ⟨b.toNat, by omega⟩ (by simp; omega)
  simp only [Int.toNat_of_nonneg (Int.le_of_lt h0)] at h
  exact h
/-- A number whose upper part has a known length. -/
theorem len_up (y k n : Int) (hk : 0 ≤ k) (h1 : 1 ≤ n) (h2 : n + k ≤ 64) (ha : 2 ^ (n - 1).toNat ≤ y / 2 ^ k.toNat) (hb : y / 2 ^ k.toNat < 2 ^ n.toNat) : LenIs y (k + n) := by
  have hK : (0 : Int) < 2 ^ k.toNat := Int.pow_pos (by decide)
  refine ⟨by omega, by omega, ?_, ?_⟩
  · rw [show (k + n - 1).toNat = (n - 1).toNat + k.toNat from by omega, Int.pow_add]
    exact (Int.le_ediv_iff_mul_le hK).1 ha
  · rw [show (k + n).toNat = n.toNat + k.toNat from by omega, Int.pow_add]
    exact (Int.ediv_lt_iff_lt_mul hK).1 hb

end Go.Proofs.Ytpanfppnkgokdaa

/- Knuth's long division of three halves by two, in whole numbers: plain arithmetic. -/
namespace Go.Proofs.Wd
set_option linter.unusedVariables false

/-- One guess of a quotient's digit: yn is y1 * 2^32 + y0 with its highest bit set; u < yn; U = u * 2^32 + v. -/
theorem guess (u v y1 y0 q r : Int) (hr : r = u - q * y1) :
    (4294967296 * r + v < q * y0 ↔ u * 4294967296 + v < q * (y1 * 4294967296 + y0)) := by
  subst hr
  constructor <;> intro h <;> grind
/-- Where the guess is not too great, and not too small, it is the digit. -/
theorem digit (U yn q : Int) (hy : 0 < yn) (h1 : U / yn ≤ q) (h2 : q * yn ≤ U) : q = U / yn := by
  have := (Int.le_ediv_iff_mul_le hy).2 h2
  omega
theorem too_great (U yn q : Int) (hy : 0 < yn) (h : U < q * yn) : U / yn ≤ q - 1 := by
  have := (Int.ediv_lt_iff_lt_mul hy).2 h
  omega
theorem digit_lt (u v yn : Int) (hy : 0 < yn) (hu : u < yn) (hv : v < 4294967296) : (u * 4294967296 + v) / yn < 4294967296 := by
  refine (Int.ediv_lt_iff_lt_mul hy).2 ?_
  have : (u + 1) * 4294967296 ≤ yn * 4294967296 := Int.mul_le_mul_of_nonneg_right (by omega) (by decide)
  rw [Int.mul_comm 4294967296 yn]
  omega
/-- The first guess. -/
theorem first_guess (u v y1 y0 : Int) (h1 : 2147483648 ≤ y1) (h0 : 0 ≤ y0) (h0' : y0 < 4294967296) (hu0 : 0 ≤ u) (hu : u < y1 * 4294967296 + y0) (hv : 0 ≤ v) (hv' : v < 4294967296) :
    (u * 4294967296 + v) / (y1 * 4294967296 + y0) ≤ u / y1 ∧ u / y1 ≤ 4294967297 ∧ 0 ≤ u - u / y1 * y1 ∧ u - u / y1 * y1 < y1 := by
  have e1 := Int.emod_add_mul_ediv u y1
  have e2 := Int.emod_nonneg u (by omega : y1 ≠ 0)
  have e3 := Int.emod_lt_of_pos u (by omega : 0 < y1)
  have e4 : u / y1 * y1 = y1 * (u / y1) := Int.mul_comm _ _
  refine ⟨?_, ?_, by omega, by omega⟩
  · have hlt : (u * 4294967296 + v) / (y1 * 4294967296 + y0) < u / y1 + 1 := by
      refine (Int.ediv_lt_iff_lt_mul (by omega)).2 ?_
      have hq : 0 ≤ u / y1 := Int.ediv_nonneg hu0 (by omega)
      have a : u + 1 ≤ (u / y1 + 1) * y1 := by rw [Int.add_mul]; omega
      have b : (u + 1) * 4294967296 ≤ (u / y1 + 1) * y1 * 4294967296 := Int.mul_le_mul_of_nonneg_right a (by decide)
      have c : 0 ≤ (u / y1 + 1) * y0 := Int.mul_nonneg (by omega) h0
      have d : (u / y1 + 1) * (y1 * 4294967296 + y0) = (u / y1 + 1) * y1 * 4294967296 + (u / y1 + 1) * y0 := by grind
      omega
    omega
  · have : u / y1 < 4294967298 := by
      refine (Int.ediv_lt_iff_lt_mul (by omega)).2 ?_
      omega
    omega
/-- A guess whose rest has grown beyond a half is not too great. -/
theorem rest_great (u v y1 y0 q r : Int) (hr : r = u - q * y1) (h : 4294967296 ≤ r) (hq0 : 0 ≤ q) (hq : q ≤ 4294967296) (h0 : 0 ≤ y0) (h0' : y0 < 4294967296) (hv : 0 ≤ v) :
    q * (y1 * 4294967296 + y0) ≤ u * 4294967296 + v := by
  have a : q * y0 ≤ 4294967296 * y0 := Int.mul_le_mul_of_nonneg_right hq h0
  have b : q * (y1 * 4294967296 + y0) = q * y1 * 4294967296 + q * y0 := by grind
  omega

/-- The whole division: N = (hi * 2^64 + lo) * 2^s. -/
theorem knuth (M y S yn u v1 v0 : Int) (hy : 0 < y) (hS : 0 < S) (hyn : yn = y * S) (hN : M * S = (u * 4294967296 + v1) * 4294967296 + v0) (hv0 : 0 ≤ v0) (hv0' : v0 < 4294967296) :
    (u * 4294967296 + v1) / yn * 4294967296 + ((u * 4294967296 + v1) % yn * 4294967296 + v0) / yn = M / y ∧ ((u * 4294967296 + v1) % yn * 4294967296 + v0) % yn / S = M % y := by
  have hyp : 0 < yn := by rw [hyn]; exact Int.mul_pos hy hS
  generalize hU : u * 4294967296 + v1 = U at *
  have e1 := Int.emod_add_mul_ediv U yn
  have e2 := Int.emod_nonneg U (by omega : yn ≠ 0)
  have e3 := Int.emod_lt_of_pos U hyp
  generalize U / yn = Q1 at *
  generalize U % yn = R1 at *
  have f1 := Int.emod_add_mul_ediv (R1 * 4294967296 + v0) yn
  have f2 := Int.emod_nonneg (R1 * 4294967296 + v0) (by omega : yn ≠ 0)
  have f3 := Int.emod_lt_of_pos (R1 * 4294967296 + v0) hyp
  generalize (R1 * 4294967296 + v0) / yn = Q0 at *
  generalize (R1 * 4294967296 + v0) % yn = R0 at *
  have g1 := Int.emod_add_mul_ediv M y
  have g2 := Int.emod_nonneg M (by omega : y ≠ 0)
  have g3 := Int.emod_lt_of_pos M hy
  generalize M / y = q at *
  generalize M % y = r at *
  have a1 : M * S = R0 + yn * (Q1 * 4294967296 + Q0) := by rw [hN, ← e1]; grind
  have a2 : M * S = r * S + yn * q := by rw [hyn, ← g1]; grind
  have b1 := du hyp a1.symm f2 f3
  have b2 := du hyp a2.symm (Int.mul_nonneg g2 (by omega)) (by rw [hyn]; exact Int.mul_lt_mul_of_pos_right g3 hS)
  refine ⟨by omega, ?_⟩
  have c : R0 = r * S := by omega
  rw [c, Int.mul_ediv_cancel _ (by omega)]

/-- What is made ready ahead of the division: moved by s, cut into halves. -/
theorem div_ready (h l y s S : Int) (hS : (2 : Int) ^ s.toNat = S) (h1 : 0 < h) (h2 : h < y) (s1 : 0 ≤ s) (s2 : s ≤ 63) (s3 : 9223372036854775808 ≤ y * S) (s4 : y * S < 18446744073709551616) (hl0 : 0 ≤ l) (hl1 : l < 18446744073709551616) :
    0 < S ∧ 0 ≤ h * S ∧ h * S < 18446744073709551616 ∧
    bits .or .u64 (h * S) (l / 2 ^ (64 - s).toNat) = h * S + l / 2 ^ (64 - s).toNat ∧ 0 ≤ h * S + l / 2 ^ (64 - s).toNat ∧ h * S + l / 2 ^ (64 - s).toNat < y * S ∧
    (h * 18446744073709551616 + l) * S = (h * S + l / 2 ^ (64 - s).toNat) * 18446744073709551616 + l * S % 18446744073709551616 := by
  have hm := pow2_mul s.toNat (64 - s).toNat (by omega)
  have hK := pow2_pos s.toNat
  have hK' := pow2_pos (64 - s).toNat
  rw [hS] at hm hK
  have hle : (h + 1) * S ≤ y * S := Int.mul_le_mul_of_nonneg_right (by omega) (by omega)
  have hle2 : (h + 1) * S = h * S + S := by rw [Int.add_mul, Int.one_mul]
  have h0 : 0 ≤ h * S := Int.mul_nonneg (by omega) (by omega)
  have hx0 : 0 ≤ l / 2 ^ (64 - s).toNat := dv0 _ _ hK' hl0
  have hx1 : l / 2 ^ (64 - s).toNat < S := ltdiv _ _ _ hK' (by rw [Int.mul_comm, hm]; exact hl1)
  refine ⟨hK, h0, by omega, ?_, by omega, by omega, ?_⟩
  · have q := (orU (l / 2 ^ (64 - s).toNat) h s.toNat hx0 (by rw [hS]; exact hx1) (by omega) (by rw [hS, Int.mul_comm]; omega)).2
    rw [hS, Int.mul_comm S h] at q
    rw [q]; omega
  · have e1 := Int.emod_add_mul_ediv l (2 ^ (64 - s).toNat)
    have e2 := Int.emod_nonneg l (by omega : (2 : Int) ^ (64 - s).toNat ≠ 0)
    have e3 := Int.emod_lt_of_pos l hK'
    generalize (2 : Int) ^ (64 - s).toNat = K at *
    generalize l / K = a at *
    generalize l % K = b at *
    have e4 : l * S = b * S + 18446744073709551616 * a := by rw [← e1, ← hm]; grind
    have e5 : 0 ≤ b * S := Int.mul_nonneg e2 (by omega)
    have e6 : b * S < 18446744073709551616 := by rw [← hm, Int.mul_comm S K]; exact Int.mul_lt_mul_of_pos_right e3 hK
    have e7 : l * S % 18446744073709551616 = b * S := by rw [e4, Int.add_mul_emod_self_left, Int.emod_eq_of_lt e5 e6]
    rw [e7, Int.add_mul, Int.add_mul]
    have e8 : h * 18446744073709551616 * S = h * S * 18446744073709551616 := by grind
    omega
end Go.Proofs.Wd

/- math/bits.Div64, walked: the quotient and the rest of two halves by one. -/
namespace Go.Proofs.Ytpanfppnkgokdaa
open Go.RowKit Go.Proofs.Wd
set_option linter.unusedVariables false
set_option linter.unusedSimpArgs false
set_option maxRecDepth 10000

end Go.Proofs.Ytpanfppnkgokdaa

/- The operations of package fix, as funcs of two wide numbers: what each returns. -/
namespace Go.Proofs.Ytpanfppnkgokdaa
open Go.RowKit Go.Proofs.Wd
set_option linter.unusedVariables false
set_option linter.unusedSimpArgs false
set_option maxRecDepth 10000
attribute [local go_sem ↓] Go.wp_at_zero Go.wp_at_succ

end Go.Proofs.Ytpanfppnkgokdaa

/- Package fix's over: what it returns. -/
namespace Go.Proofs.Ytpanfppnkgokdaa
open Go.RowKit Go.Proofs.Wd
set_option linter.unusedVariables false
set_option linter.unusedSimpArgs false
set_option maxRecDepth 10000
attribute [local go_sem ↓] Go.wp_at_zero Go.wp_at_succ

end Go.Proofs.Ytpanfppnkgokdaa

/- Package fix's exported functions: what each returns, in whole numbers. -/
namespace Go.Proofs.Ytpanfppnkgokdaa
open Go.RowKit Go.Proofs.Wd
set_option linter.unusedVariables false
set_option linter.unusedSimpArgs false
set_option maxRecDepth 10000
attribute [local go_sem ↓] Go.wp_at_zero Go.wp_at_succ

theorem in_wide (v : Int) (h : -39614081257132168796771975168 ≤ v ∧ v ≤ 39614081257132168796771975168) : wrapW v = v := wrapW_in _ (by omega)

end Go.Proofs.Ytpanfppnkgokdaa

/- Whole roots of whole numbers, and the whole number that is nearest to a root: plain arithmetic. -/
namespace Go.Proofs.Wd
set_option linter.unusedVariables false

/-- r is the whole root of v. -/
def IsRt (v r : Int) : Prop := 0 ≤ r ∧ r * r ≤ v ∧ v < (r + 1) * (r + 1)
def rtN : Nat → Nat
  | 0 => 0
  | n + 1 => if (rtN n + 1) * (rtN n + 1) ≤ n + 1 then rtN n + 1 else rtN n
/-- The whole root of a number from 0 on. -/
def rt (v : Int) : Int := (rtN v.toNat : Int)
/-- The number that is nearest to a root. -/
def nr (v : Int) : Int := if rt v * rt v + rt v < v then rt v + 1 else rt v

theorem rtN_is (n : Nat) : rtN n * rtN n ≤ n ∧ n < (rtN n + 1) * (rtN n + 1) := by
  induction n with
  | zero => simp [rtN]
  | succ n ih =>
    unfold rtN
    generalize rtN n = r at *
    split
    · refine ⟨by assumption, ?_⟩
      have : (r + 1 + 1) * (r + 1 + 1) = (r + 1) * (r + 1) + 2 * (r + 1) + 1 := by grind
      omega
    · omega
theorem rt_is (v : Int) (h : 0 ≤ v) : IsRt v (rt v) := by
  have q := rtN_is v.toNat
  unfold IsRt rt
  generalize rtN v.toNat = r at *
  obtain ⟨a, b⟩ := q
  have a' : ((r * r : Nat) : Int) ≤ (v.toNat : Int) := Int.ofNat_le.2 a
  have b' : (v.toNat : Int) < (((r + 1) * (r + 1) : Nat) : Int) := Int.ofNat_lt.2 b
  rw [Int.toNat_of_nonneg h] at a' b'
  simp only [Int.natCast_mul, Int.natCast_add, Int.cast_ofNat_Int] at a' b'
  exact ⟨by omega, a', b'⟩
theorem sq_lt {x y : Int} (hx : 0 ≤ x) (h : x < y) : x * x < y * y := by
  have a : x * x ≤ x * y := Int.mul_le_mul_of_nonneg_left (by omega) hx
  have b : x * y < y * y := Int.mul_lt_mul_of_pos_right h (by omega)
  omega
theorem sq_le {x y : Int} (hx : 0 ≤ x) (h : x ≤ y) : x * x ≤ y * y := by
  have a : x * x ≤ x * y := Int.mul_le_mul_of_nonneg_left (by omega) hx
  have b : x * y ≤ y * y := Int.mul_le_mul_of_nonneg_right h (by omega)
  omega
theorem lt_of_sq {x y : Int} (hy : 0 ≤ y) (h : x * x < y * y) : x < y := by
  by_cases c : x < y
  · exact c
  · have := sq_le hy (by omega : y ≤ x); omega
theorem le_of_sq {x y : Int} (hy : 0 ≤ y) (h : x * x ≤ y * y) : x ≤ y := by
  by_cases c : x ≤ y
  · exact c
  · have := sq_lt hy (by omega : y < x); omega
theorem rt_eq (v r : Int) (h : IsRt v r) : rt v = r := by
  obtain ⟨h0, h1, h2⟩ := h
  have v0 : 0 ≤ v := by have := Int.mul_nonneg h0 h0; omega
  obtain ⟨k0, k1, k2⟩ := rt_is v v0
  generalize rt v = s at *
  have a := lt_of_sq (by omega : 0 ≤ r + 1) (by omega : s * s < (r + 1) * (r + 1))
  have b := lt_of_sq (by omega : 0 ≤ s + 1) (by omega : r * r < (s + 1) * (s + 1))
  omega
theorem rt_sq (m : Int) (h : 0 ≤ m) : rt (m * m) = m := by
  apply rt_eq
  refine ⟨h, by omega, ?_⟩
  exact sq_lt h (by omega)
theorem rt_nonneg (v : Int) : 0 ≤ rt v := by unfold rt; omega
theorem rt_mono (v u : Int) (h0 : 0 ≤ v) (h : v ≤ u) : rt v ≤ rt u := by
  obtain ⟨k0, k1, k2⟩ := rt_is v h0
  obtain ⟨j0, j1, j2⟩ := rt_is u (by omega)
  generalize rt v = s at *
  generalize rt u = t at *
  have a := lt_of_sq (by omega : 0 ≤ t + 1) (by omega : s * s < (t + 1) * (t + 1))
  omega
/-- A root is below what has a greater square. -/
theorem rt_lt (v x : Int) (h0 : 0 ≤ v) (hx : 0 ≤ x) (h : v < x * x) : rt v < x := by
  obtain ⟨k0, k1, k2⟩ := rt_is v h0
  exact lt_of_sq hx (by omega)
theorem rt_ge (v x : Int) (h0 : 0 ≤ v) (hx : 0 ≤ x) (h : x * x ≤ v) : x ≤ rt v := by
  obtain ⟨k0, k1, k2⟩ := rt_is v h0
  have := lt_of_sq (by omega : 0 ≤ rt v + 1) (by omega : x * x < (rt v + 1) * (rt v + 1))
  omega
theorem rt_lt63 (v : Int) (h0 : 0 ≤ v) (h : v < 85070591730234615865843651857942052864) : rt v < 9223372036854775808 :=
  rt_lt v 9223372036854775808 h0 (by decide) (by omega)
theorem rt_ge63 (v : Int) (h : 85070591730234615865843651857942052864 ≤ v) : 9223372036854775808 ≤ rt v :=
  rt_ge v 9223372036854775808 (by omega) (by decide) (by omega)
theorem rt_lt64 (v : Int) (h0 : 0 ≤ v) (h : v < 170141183460469231731687303715884105728) : rt v < 13043817825332782213 :=
  rt_lt v 13043817825332782213 h0 (by decide) (by omega)
/-- Newton's way never comes below the whole root. -/
theorem newton_ge (v x : Int) (h0 : 0 ≤ v) (hx : 0 < x) : rt v ≤ (x + v / x) / 2 := by
  obtain ⟨k0, k1, k2⟩ := rt_is v h0
  generalize rt v = r at *
  have a : 0 ≤ (r - x) * (r - x) := by
    by_cases c : 0 ≤ r - x
    · exact Int.mul_nonneg c c
    · have := Int.mul_nonneg (by omega : 0 ≤ x - r) (by omega : 0 ≤ x - r)
      have e : (x - r) * (x - r) = (r - x) * (r - x) := by grind
      omega
  have b : (2 * r - x) * x ≤ v := by
    have e : (2 * r - x) * x = r * r - (r - x) * (r - x) := by grind
    omega
  have c : 2 * r - x ≤ v / x := (Int.le_ediv_iff_mul_le hx).2 b
  omega
/-- Where a quotient is not below the divisor, that is not above the whole root. -/
theorem newton_end (v x : Int) (h0 : 0 ≤ v) (hx : 0 < x) (h : rt v ≤ x) (hq : x ≤ v / x) : x = rt v := by
  have b : x * x ≤ v := (Int.le_ediv_iff_mul_le hx).1 hq
  have := rt_ge v x h0 (by omega) b
  omega
/-- The high half of a number is below its root. -/
theorem high_lt (v : Int) (h0 : 0 < v) (h : v < 85070591730234615865843651857942052864) : v / 18446744073709551616 < rt v := by
  obtain ⟨k0, k1, k2⟩ := rt_is v (by omega)
  have l := rt_lt63 v (by omega) h
  have g := rt_ge v 1 (by omega) (by decide) (by omega)
  generalize rt v = r at *
  have a : (r + 1) * (r + 1) ≤ (r + 1) * 9223372036854775808 := Int.mul_le_mul_of_nonneg_left (by omega) (by omega)
  omega

theorem nr_nonneg (v : Int) : 0 ≤ nr v := by have := rt_nonneg v; unfold nr; split <;> omega
theorem nr_sq (m : Int) (h : 0 ≤ m) : nr (m * m) = m := by
  unfold nr; rw [rt_sq m h, if_neg (by omega)]
theorem nr_mono (v u : Int) (h0 : 0 ≤ v) (h : v ≤ u) : nr v ≤ nr u := by
  have a := rt_mono v u h0 h
  unfold nr
  by_cases c : rt v = rt u
  · rw [c]; split <;> split <;> omega
  · split <;> split <;> omega
/-- A nearest root's square, and half a step beside it, embraces its number. -/
theorem nr_high (v : Int) (h0 : 0 ≤ v) : v ≤ nr v * nr v + nr v := by
  obtain ⟨k0, k1, k2⟩ := rt_is v h0
  unfold nr
  generalize rt v = r at *
  split <;> omega
theorem nr_low (v : Int) (h0 : 0 ≤ v) (hn : nr v ≠ 0) : nr v * nr v + (1 - nr v) ≤ v := by
  obtain ⟨k0, k1, k2⟩ := rt_is v h0
  unfold nr at *
  generalize rt v = r at *
  split at hn
  · rw [if_pos (by assumption)]
    have e : (r + 1) * (r + 1) = r * r + 2 * r + 1 := by grind
    omega
  · rw [if_neg (by assumption)]; omega
theorem nr_lt (v x : Int) (h0 : 0 ≤ v) (hx : 0 < x) (h : v ≤ x * x - x) : nr v < x := by
  have a := rt_lt v x h0 (by omega) (by omega)
  unfold nr
  split
  · by_cases c : rt v = x - 1
    · have q : rt v * rt v + rt v < v := by assumption
      rw [c] at q
      have e : (x - 1) * (x - 1) + (x - 1) = x * x - x := by grind
      omega
    · omega
  · omega
theorem nr_fit (v : Int) (h : 85070591730234615865843651857942052864 ≤ v) : fitI (nr v) = 9223372036854775807 ∧ fitB (nr v) = true := by
  have a := rt_ge63 v h
  have b : 9223372036854775808 ≤ nr v := by unfold nr; split <;> omega
  unfold fitI fitB
  rw [if_pos (by omega)]
  simp; omega

end Go.Proofs.Wd

/- Package root's whole root: half, guess, newton and Whole, walked: what each returns, in whole numbers. -/
namespace Go.Proofs.Ytpanfppnkgokdaa
open Go.RowKit Go.Proofs.Wd
set_option linter.unusedVariables false
set_option linter.unusedSimpArgs false
set_option maxRecDepth 10000

/-- 2 to half of n, upwards. -/
def halfP (n : Int) : Int := 2 ^ ((n + 1) / 2).toNat
theorem halfP_pos (n : Int) : 0 < halfP n := Int.pow_pos (by decide)
theorem halfP_le (n : Int) (h : n ≤ 126) : halfP n ≤ 9223372036854775808 := by
  unfold halfP
  exact Int.le_trans (pow_le _ 63 (by omega)) (by decide)
theorem halfP_sq (n v : Int) (h0 : 0 ≤ n) (h : v < 2 ^ n.toNat) : v < halfP n * halfP n := by
  unfold halfP
  rw [← Int.pow_add]
  exact Int.lt_of_lt_of_le h (pow_le _ _ (by omega))

theorem len_le62 (h n : Int) (hh : h < 4611686018427387904) (hn : LenIs h n) : n ≤ 62 := by
  obtain ⟨a, b, c, d⟩ := hn
  by_cases g : n ≤ 62
  · exact g
  · have := pow_le 62 (n - 1).toNat (by omega)
    have e : (2 : Int) ^ 62 = 4611686018427387904 := by decide
    omega
theorem len_val (h l n : Int) (hl : U64 l) (hn : LenIs h n) : val h l < 2 ^ (64 + n).toNat := by
  obtain ⟨a, b, c, d⟩ := hn
  unfold U64 at hl
  unfold val
  rw [show (64 + n).toNat = n.toNat + 64 from by omega, Int.pow_add, show (2 : Int) ^ 64 = 18446744073709551616 from by decide]
  generalize (2 : Int) ^ n.toNat = p at *
  have : (h + 1) * 18446744073709551616 ≤ p * 18446744073709551616 := Int.mul_le_mul_of_nonneg_right (by omega) (by decide)
  omega

theorem val_high (h l : Int) (hl : U64 l) : val h l / 18446744073709551616 = h := by unfold U64 at hl; unfold val; omega

theorem keep1 {w W w1 : World} {b0 : Nat} {x0 x1 : Value} (h : Grown W w1)
    (hv : W.cell? ⟨b0, 0, none⟩ = some x0 ∧ W.cell? ⟨b0, 1, none⟩ = some x1 ∧ Grown w W) :
    w1.cell? ⟨b0, 0, none⟩ = some x0 ∧ w1.cell? ⟨b0, 1, none⟩ = some x1 ∧ Grown w w1 :=
  ⟨gat h hv.1, gat h hv.2.1, gtrans hv.2.2 h⟩

/-- What Whole answers: a number, and an error. -/
def whN (v : Int) : Int := if 0 ≤ v ∧ v < 85070591730234615865843651857942052864 then rt v else 0
def whE (v : Int) : Int := if 0 ≤ v ∧ v < 85070591730234615865843651857942052864 then 0 else 2
theorem wh_bad (v : Int) (h : ¬ (0 ≤ v ∧ v < 85070591730234615865843651857942052864)) : whN v = 0 ∧ whE v = 2 := by unfold whN whE; rw [if_neg h, if_neg h]; exact ⟨rfl, rfl⟩
theorem wh_good (v : Int) (h : 0 ≤ v ∧ v < 85070591730234615865843651857942052864) : whN v = rt v ∧ whE v = 0 := by unfold whN whE; rw [if_pos h, if_pos h]; exact ⟨rfl, rfl⟩

end Go.Proofs.Ytpanfppnkgokdaa

/- Package root's nearest, square, Sqrt and Hypot, walked: what each returns, in whole numbers. -/
namespace Go.Proofs.Ytpanfppnkgokdaa
open Go.RowKit Go.Proofs.Wd
set_option linter.unusedVariables false
set_option linter.unusedSimpArgs false
set_option maxRecDepth 10000

theorem cmpI_gt (x y : Int) (h : y < x) : cmpI x y = 1 := by unfold cmpI; rw [if_neg (by omega), if_neg (by omega)]
theorem cmpI_le (x y : Int) (h : x ≤ y) : cmpI x y ≤ 0 := by unfold cmpI; split; omega; split <;> omega

/-- What Sqrt answers. -/
def sqN (a : Int) : Int := if a < 0 then 0 else nr (a * 4294967296)
theorem sq_lt63 (a : Int) (h0 : 0 ≤ a) (h : I64 a) : nr (a * 4294967296) < 9223372036854775808 :=
  nr_lt _ 9223372036854775808 (by omega) (by decide) (by unfold I64 at h; omega)
/-- The sum of both squares. -/
def hyp (a b : Int) : Int := tk a * tk a + tk b * tk b
theorem sq_nonneg (x : Int) : 0 ≤ x * x := by
  by_cases c : 0 ≤ x
  · exact Int.mul_nonneg c c
  · have := Int.mul_nonneg (by omega : 0 ≤ -x) (by omega : 0 ≤ -x)
    have e : -x * -x = x * x := by grind
    omega
theorem hyp_range (a b : Int) (ha : I64 a) (hb : I64 b) : 0 ≤ hyp a b ∧ hyp a b ≤ 170141183460469231694793815568465002498 := by
  unfold hyp
  have x := prod_range (tk a) (tk a) (tk_Fx a ha) (tk_Fx a ha)
  have y := prod_range (tk b) (tk b) (tk_Fx b hb) (tk_Fx b hb)
  have := sq_nonneg (tk a)
  have := sq_nonneg (tk b)
  omega
end Go.Proofs.Ytpanfppnkgokdaa

/- A unit in memory, and what the small functions of package unit do to it. -/
namespace Go.Proofs.Ytpanfppnkgokdaa
open Go.RowKit Go.Proofs.Wd
set_option linter.unusedVariables false
set_option linter.unusedSimpArgs false
set_option maxRecDepth 10000

end Go.Proofs.Ytpanfppnkgokdaa

/- What the operations of package unit do: sums and products of lists, and the single ones. -/
namespace Go.Proofs.Ytpanfppnkgokdaa
open Go.RowKit Go.Proofs.Wd
set_option linter.unusedVariables false
set_option linter.unusedSimpArgs false
set_option maxRecDepth 10000

end Go.Proofs.Ytpanfppnkgokdaa

/- What the methods of package unit answer, of a unit that New made. -/
namespace Go.Proofs.Ytpanfppnkgokdaa
open Go.RowKit Go.Proofs.Wd
set_option linter.unusedVariables false
set_option linter.unusedSimpArgs false
set_option maxRecDepth 10000
attribute [local go_sem ↓] Go.wp_at_zero Go.wp_at_succ

end Go.Proofs.Ytpanfppnkgokdaa

/- What a unit that is none answers: 0, and ErrNil of Dot. -/
namespace Go.Proofs.Ytpanfppnkgokdaa
open Go.RowKit Go.Proofs.Wd
set_option linter.unusedVariables false
set_option linter.unusedSimpArgs false
set_option maxRecDepth 10000

end Go.Proofs.Ytpanfppnkgokdaa

/- Package mat: fits, Check, at, part, rows, dot; the laws' long. -/
namespace Go.Proofs.Ytpanfppnkgokdaa
open Go.RowKit Go.Proofs.Wd
set_option linter.unusedVariables false
set_option linter.unusedSimpArgs false
set_option maxRecDepth 10000

/-- A matrix has from 1 to 12 rows and columns, and as many numbers. -/
def okM (r c : Int) (len : Nat) : Prop := (1 ≤ r ∧ r ≤ 12) ∧ (1 ≤ c ∧ c ≤ 12) ∧ (len : Int) = r * c
open Classical in
noncomputable def chk (r c : Int) (len : Nat) : Int := if okM r c len then 0 else 3
theorem chk_ok {r c : Int} {len : Nat} (h : okM r c len) : chk r c len = 0 := if_pos h
theorem chk_bad {r c : Int} {len : Nat} (h : ¬ okM r c len) : chk r c len = 3 := if_neg h
theorem mul12 (r c : Int) (hr : 1 ≤ r ∧ r ≤ 12) (hc : 1 ≤ c ∧ c ≤ 12) : 1 ≤ r * c ∧ r * c ≤ 144 := by
  have h1 : 1 * 1 ≤ r * c := Int.mul_le_mul hr.1 hc.1 (by omega) (by omega)
  have h2 : r * c ≤ 12 * 12 := Int.mul_le_mul hr.2 hc.2 (by omega) (by omega)
  omega
theorem mul12n (r c : Nat) (hr : 1 ≤ r ∧ r ≤ 12) (hc : 1 ≤ c ∧ c ≤ 12) : 1 ≤ r * c ∧ r * c ≤ 144 := by
  have := mul12 r c (by omega) (by omega)
  rw [← Int.natCast_mul] at this
  omega

end Go.Proofs.Ytpanfppnkgokdaa

/- Package mat: at, part, rows, dot. -/
namespace Go.Proofs.Ytpanfppnkgokdaa
open Go.RowKit Go.Proofs.Wd
set_option linter.unusedVariables false
set_option linter.unusedSimpArgs false
set_option maxRecDepth 10000

theorem wrapP (a b p : Nat) (h : a * b = p) (hp : p ≤ 1000000) : wrap64 ((a : Int) * (b : Int)) = (p : Int) := by
  rw [← Int.natCast_mul, h]
  unfold wrap64
  omega
theorem wrapS (x : Int) (h : 0 ≤ x ∧ x ≤ 1000000) : wrap64 x = x := by
  unfold wrap64
  omega
theorem wrapQ (a b p : Nat) (h : (a + 1) * b = p) (hp : p ≤ 1000000) : wrap64 (((a : Int) + 1) * (b : Int)) = (p : Int) := by
  have h := wrapP (a + 1) b p h hp
  rwa [Int.natCast_add] at h
theorem wrapA (a b p : Nat) (h : a + b = p) (hp : p ≤ 1000000) : wrap64 ((a : Int) + (b : Int)) = (p : Int) := by
  rw [← Int.natCast_add, h]
  exact wrapS _ (by omega)
theorem place_le (i r c : Nat) (h : i < r) : i * c + c ≤ r * c := by
  have : (i + 1) * c ≤ r * c := Nat.mul_le_mul_right c h
  rwa [Nat.add_mul, Nat.one_mul] at this

theorem slice_part (b o len cap l h : Nat) (hl : l < h) (hh : h ≤ cap) (w : World) : (Instr.sliceAt 22 (.slice (some ⟨b, o, none⟩) len cap) (some (.int .i64 l)) (some (.int .i64 h)) (some (.int .i64 h))).run Try.prog w = .ok (.slice (some ⟨b, o + l, none⟩) (h - l) (h - l)) w := by
  have e : Try.prog.underlying 22 = some (.slice (Try.prog.elem 22)) := by kernel_rfl
  have s1 : (sizeOf (Try.prog.elem 22)).run Try.prog w = .ok 1 w := by kernel_rfl
  rw [run_sliceAt_slice w 22 _ _ _ _ e, run_slice_lhm w 22 _ len cap e .i64 .i64 .i64 l h h (by omega) (by omega) (by omega) (by omega), s1]
  show Result.ok (sliced _ (l : Int).toNat (h : Int).toNat (h : Int).toNat 1) w = _
  unfold sliced
  rw [Int.toNat_natCast, Int.toNat_natCast, if_neg (by omega)]
  show Result.ok (Value.slice (some ((⟨b, o, none⟩ : Addr).add (l * 1))) _ _) w = _
  rw [Go.WideShapes.add_plain, Nat.mul_one]

end Go.Proofs.Ytpanfppnkgokdaa

/- Package mat: the iterator over rows. -/
namespace Go.Proofs.Ytpanfppnkgokdaa
open Go.RowKit Go.Shelf Go.Proofs.Wd
set_option linter.unusedVariables false
set_option linter.unusedSimpArgs false
set_option maxRecDepth 10000

/-- A row's number, and the row. -/
def encR {r : Nat} (b o c : Nat) (x : Fin r) : Array Value := #[.int .i64 (x.1 : Int), .slice (some ⟨b, o + x.1 * c, none⟩) c c]
/-- A round keeps block Bs. -/
def KpR (Bs : Nat) (W W' : World) : Prop := W'.heap[Bs]? = W.heap[Bs]?
/-- All rows. -/
def allR (r : Nat) : List (Fin r) := List.finRange r
theorem allR_len (r : Nat) : (allR r).length = r := by simp [allR]
theorem allR_at (r k : Nat) (h : k < r) : (allR r)[k]? = some ⟨k, h⟩ := by
  unfold allR
  rw [List.getElem?_eq_getElem (by simpa using h)]
  simp
theorem allR_take (r k : Nat) (h : k < r) : (allR r).take k ++ [⟨k, h⟩] = (allR r).take (k + 1) := by
  rw [List.take_add_one, allR_at r k h]
  rfl
theorem grown_alloc (w : World) (o : Obj) : w.grownBy (w.alloc o) none := World.grownBy_alloc w o none

section
attribute [local go_sem] Oper.semAt_some

end

theorem kpR_t {Bs : Nat} {A B C : World} (h : KpR Bs A B) (k : KpR Bs B C) : KpR Bs A C := k.trans h
theorem kpR_b {Bs n : Nat} (hB : Bs < n) (W : World) (l : Nat) (o o' : Obj) (hl : n ≤ l) (_ : W.heap[l]? = some o) (_ : o.isCells = false) (_ : o.isWalk = false) : KpR Bs W (W.putObj l o') :=
  World.putObj_heap_other (by omega)

end Go.Proofs.Ytpanfppnkgokdaa

/- Package mat: made, over any func that tells the entries. -/
namespace Go.Proofs.Ytpanfppnkgokdaa
open Go.RowKit Go.Shelf Go.Proofs.Wd
set_option linter.unusedVariables false
set_option linter.unusedSimpArgs false
set_option maxRecDepth 10000

/-- Below n all is as it was; from n on all is as it was. -/
def SB (n : Nat) (a b : World) : Prop := b.os = a.os ∧ b.output = a.output ∧ (∀ k, k < n → b.heap[k]? = a.heap[k]?) ∧ a.heap.size ≤ b.heap.size
def SF (n : Nat) (a b : World) : Prop := (∀ k, n ≤ k → k < a.heap.size → b.heap[k]? = a.heap[k]?) ∧ a.heap.size ≤ b.heap.size
theorem SB.by {n : Nat} {a b : World} {row : Option Nat} (g : a.grownBy b row) (hn : n ≤ a.heap.size) (hr : ∀ k, row = some k → n ≤ k) : SB n a b :=
  ⟨g.os, g.output, fun k hk => g.block k (by omega) (fun e => by have := hr k e.symm; omega), g.size⟩
theorem SB.set {n : Nat} (a : World) (b o : Nat) (v : Value) (h : n ≤ b) : SB n a (a.setCell ⟨b, o, none⟩ v) :=
  ⟨rfl, rfl, fun k hk => Below.heap_setCell _ _ _ _ (by show k ≠ b; omega), by simp [World.setCell]⟩
theorem SF.blk {n U : Nat} {cs : Array Value} {T : TypeId} {a b : World} (h : SF n a b) (hb : Blk U cs T a) (hn : n ≤ U) : Blk U cs T b := (h.1 U hn (Blk.lt hb)).trans hb
theorem SF.keeps {n B : Nat} {a b : World} (h : SF n a b) (hB : n ≤ B) : KeepsFrom B a b :=
  ⟨h.2, fun k o hk e _ => (h.1 k (by omega) (Array.getElem?_eq_some_iff.1 e).1).trans e⟩

/-- The places gone through, where these rows have come. -/
def vis (c : Nat) {r : Nat} (pre : List (Fin r)) : List Nat := pre.flatMap fun x => (List.range c).map fun k => x.1 * c + k
theorem vis_snoc (c : Nat) {r : Nat} (pre : List (Fin r)) (x : Fin r) : vis c (pre ++ [x]) = vis c pre ++ (List.range c).map fun k => x.1 * c + k := by simp [vis]
theorem vis_len (c : Nat) {r : Nat} : ∀ pre : List (Fin r), (vis c pre).length = pre.length * c
  | [] => by simp [vis]
  | x :: pre => by
    have := vis_len c pre
    unfold vis at *
    rw [List.flatMap_cons, List.length_append, this, List.length_map, List.length_range, List.length_cons, Nat.add_mul, Nat.one_mul, Nat.add_comm]
theorem vis_take (r c : Nat) : ∀ k, k ≤ r → vis c ((allR r).take k) = List.range (k * c)
  | 0, _ => by simp [vis]
  | k + 1, h => by
    rw [← allR_take r k (by omega), vis_snoc, vis_take r c k (by omega), Nat.add_mul, Nat.one_mul, List.range_add]
theorem vis_all (r c : Nat) : vis c (allR r) = List.range (r * c) := by
  have := vis_take r c r (Nat.le_refl _)
  rwa [List.take_of_length_le (by rw [allR_len]; omega)] at this

/-- The numbers so far. -/
def soFar (Z : Nat → Int) (ps : List Nat) : Nat → Int := fun p => if p ∈ ps then Z p else 0
theorem soFar_snoc (n : Nat) (Z : Nat → Int) (ps : List Nat) (k : Nat) : ints n (fun i => if i = k then Z k else soFar Z ps i) = ints n (soFar Z (ps ++ [k])) := by
  refine ints_congr _ _ _ fun i hi => ?_
  unfold soFar
  by_cases e : i = k
  · subst e; simp
  · simp [e]
theorem soFar_all (n : Nat) (Z : Nat → Int) : ints n (soFar Z (List.range n)) = ints n Z := by
  refine ints_congr _ _ _ fun i hi => ?_
  unfold soFar
  rw [if_pos (List.mem_range.2 hi)]
theorem range_snoc (f : Nat → Nat) (ps : List Nat) (k : Nat) : (ps ++ (List.range k).map f) ++ [f k] = ps ++ (List.range (k + 1)).map f := by
  rw [List.range_succ, List.map_append, List.append_assoc]
  rfl

theorem blk_own {U : Nat} {cs : Array Value} {T : TypeId} {W W' : World} {row : Option Nat} (h : Blk U cs T W) (hg : W.grownBy W' row) (hr : ∀ r, row = some r → ∃ o : Obj, W.heap[r]? = some o ∧ o.isCells = false) : Blk U cs T W' :=
  Blk.by h hg (fun e => by
    obtain ⟨o, ho, hc⟩ := hr U e.symm
    rw [show W.heap[U]? = _ from h] at ho
    cases ho
    cases hc)
def encR0 {r : Nat} (b c : Nat) (x : Fin r) : Array Value := #[.int .i64 (x.1 : Int), .slice (some ⟨b, x.1 * c, none⟩) c c]
/-- What made tells. -/
def MadeP (r c : Nat) (Z : Nat → Int) (X : World → Prop) (w : World) (e : Ending) (w' : World) : Prop :=
  ∃ L, w.heap.size ≤ L ∧ e = .returned (.agg #[.int .i64 r, .int .i64 c, .slice (some ⟨L, 0, none⟩) (r * c) (r * c)]) ∧ Blk L (ints (r * c) Z) 3 w' ∧ X w'

section
attribute [local go_sem] Oper.semAt_some

end
end Go.Proofs.Ytpanfppnkgokdaa

/- But for one block, what was there is as it was: no word of the marks. -/
namespace Go.Proofs.Ytpanfppnkgokdaa
open Go.RowKit Go.Proofs.Wd
set_option linter.unusedVariables false
set_option linter.unusedSimpArgs false
set_option maxRecDepth 10000

/-- But for block U, what was there is as it was. -/
def Mk (U : Nat) (w w' : World) : Prop := w'.os = w.os ∧ w'.output = w.output ∧ (∀ k, k < w.heap.size → k ≠ U → w'.heap[k]? = w.heap[k]?) ∧ w.heap.size ≤ w'.heap.size
theorem Mk.of {U : Nat} {w w' : World} (m : Mod U w w') : Mk U w w' := ⟨m.1, m.2.1, m.2.2.1, m.2.2.2.2⟩
theorem Mk.refl (U : Nat) (w : World) : Mk U w w := ⟨rfl, rfl, fun _ _ _ => rfl, Nat.le_refl _⟩
theorem Mk.trans {U : Nat} {a b c : World} (h : Mk U a b) (k : Mk U b c) : Mk U a c :=
  ⟨k.1.trans h.1, k.2.1.trans h.2.1, fun i hi hu => (k.2.2.1 i (Nat.lt_of_lt_of_le hi h.2.2.2) hu).trans (h.2.2.1 i hi hu), Nat.le_trans h.2.2.2 k.2.2.2⟩
theorem Mk.grown {U : Nat} {a b c : World} (h : Mk U a b) (k : Grown b c) : Mk U a c := h.trans (Mk.of (Mod.of k))
theorem Mk.by {U : Nat} {a b c : World} {row : Option Nat} (h : Mk U a b) (m : b.grownBy c row) (hr : ∀ k, row = some k → a.heap.size ≤ k) : Mk U a c :=
  ⟨m.os.trans h.1, m.output.trans h.2.1, fun i hi hu => (m.block i (Nat.lt_of_lt_of_le hi h.2.2.2) (fun e => by have := hr i e.symm; omega)).trans (h.2.2.1 i hi hu), Nat.le_trans h.2.2.2 m.size⟩
theorem Mk.new {U L : Nat} {a b c : World} (h : Mk U a b) (k : Mod L b c) (hL : a.heap.size ≤ L) : Mk U a c :=
  ⟨k.1.trans h.1, k.2.1.trans h.2.1, fun i hi hu => (k.2.2.1 i (Nat.lt_of_lt_of_le hi h.2.2.2) (by omega)).trans (h.2.2.1 i hi hu), Nat.le_trans h.2.2.2 k.2.2.2.2⟩
theorem Mk.kp {U : Nat} {a b : World} (k : Kp a b) : Mk U a b := ⟨k.1, k.2.1, fun i hi _ => k.2.2.1 i hi, k.2.2.2⟩
theorem Kp.mk {W a b : World} {U : Nat} (h : Kp W a) (m : Mk U a b) (hU : W.heap.size ≤ U) : Kp W b :=
  ⟨m.1.trans h.1, m.2.1.trans h.2.1, fun i hi => (m.2.2.1 i (Nat.lt_of_lt_of_le hi h.2.2.2) (by omega)).trans (h.2.2.1 i hi), Nat.le_trans h.2.2.2 m.2.2.2⟩
theorem Blk.mk {U V : Nat} {cs : Array Value} {T : TypeId} {w w' : World} (h : Blk U cs T w) (m : Mk V w w') (hne : U ≠ V) : Blk U cs T w' := (m.2.2.1 U h.lt hne).trans h
theorem Mk.cell {U : Nat} {w w' : World} (m : Mk U w w') {b o : Nat} {v : Value} (h : w.cell? ⟨b, o, none⟩ = some v) (hb : b ≠ U) : w'.cell? ⟨b, o, none⟩ = some v :=
  (World.cell?_of_block (m.2.2.1 b (heap_gt h) hb)).trans h
theorem Row.mk {U : Nat} {w w' : World} {ao : Option Addr} {len : Nat} {Z : Nat → Int} (h : Row w ao len Z) (m : Mk U w w') (ho : Off U len ao) : Row w' ao len Z := by
  rcases h with h | ⟨b, o, rfl, hc⟩
  · exact Or.inl h
  · exact Or.inr ⟨b, o, rfl, fun i hi => m.cell (hc i hi) (ho (by omega) _ rfl)⟩
theorem owns_mod {U : Nat} {w w' : World} {base : Nat} {e : TypeId} {size : Nat} {v : Value} {n : Nat} {xs : List Value} (h : w.ownsRow base e size v n xs) (m : Mod U w w') (hU : U < base) : w'.ownsRow base e size v n xs := by
  refine ⟨h.1, ?_⟩
  rcases h.2 with h2 | ⟨g, cap, cur, rfl, hb, hg, r⟩
  · exact Or.inl h2
  · exact Or.inr ⟨g, cap, cur, rfl, hb, (m.2.2.1 g (Array.getElem?_eq_some_iff.1 hg).1 (by omega)).trans hg, r⟩

end Go.Proofs.Ytpanfppnkgokdaa

/- The law's helper 'awake', and the walk of UnitKnown: the chapter's examples. -/
namespace Go.Proofs.Ytpanfppnkgokdaa
open Go.RowKit Go.Proofs.Wd
set_option linter.unusedVariables false
set_option linter.unusedSimpArgs false
set_option maxRecDepth 10000

def ix (l : List Int) (i : Nat) : Int := l.getD i 0
theorem row_lit {w : World} {b : Nat} {l : List Int} {t : TypeId} (h : Blk b (l.map (Value.int .i64)).toArray t w) : Row w (some ⟨b, 0, none⟩) l.length (ix l) := by
  refine Or.inr ⟨b, 0, rfl, fun i hi => ?_⟩
  rw [Blk.cell h]
  simp [ix, hi]
theorem off_lit {U b len : Nat} (h : b ≠ U) : Off U len (some ⟨b, 0, none⟩) := by
  intro _ a ha
  cases ha
  exact h
theorem off_none (U len : Nat) : Off U len none := by
  intro _ a ha
  cases ha
theorem ix_I64 {l : List Int} (h : ∀ x ∈ l, I64 x) : ∀ i, i < l.length → I64 (ix l i) := by
  intro i hi
  simp only [ix, List.getD, List.getElem?_eq_getElem hi]
  exact h _ (List.getElem_mem _)

theorem blk_new2 (w : World) (A : Obj) (cs : Array Value) (t : TypeId) : Blk (w.heap.size + 1) cs t ((w.alloc A).alloc (.cells cs t)) := by
  have := heap_alloc_new (w.alloc A) (.cells cs t)
  simpa [Blk] using this

theorem i64_lits : (∀ x ∈ [4294967296, 4294967296, (4294967296 : Int)], I64 x) ∧ (∀ x ∈ [2147483648, (2147483648 : Int)], I64 x) ∧ (∀ x ∈ [4294967296, (8589934592 : Int)], I64 x) ∧ (∀ x ∈ [12884901888, (2147483648 : Int)], I64 x) ∧ (∀ x ∈ [9223372036854775807, 4294967296, (-4294967296 : Int)], I64 x) ∧ (∀ x ∈ [(1 : Int)], I64 x) := by
  refine ⟨?_, ?_, ?_, ?_, ?_, ?_⟩ <;> (intro x hx; simp at hx; unfold I64; omega)

end Go.Proofs.Ytpanfppnkgokdaa

/- Package mat: made, for funcs that only read, and for funcs by which a unit reckons; what the calls tell. -/
namespace Go.Proofs.Ytpanfppnkgokdaa
open Go.RowKit Go.Shelf Go.Proofs.Wd
set_option linter.unusedVariables false
set_option linter.unusedSimpArgs false
set_option maxRecDepth 10000

theorem orC_any (G : Nat → Bool) : ∀ n, (List.range n).any G = orC G n
  | 0 => rfl
  | n + 1 => by
    rw [List.range_succ, List.any_append, orC_any G n]
    simp [orC]

/-- A matrix and an error that a call tells: new memory. -/
def MatP (r c : Int) (len : Nat) (Z : Nat → Int) (err : Int) (X : World → Prop) (w : World) (e : Ending) (w' : World) : Prop :=
  ∃ ao cap B, e = .returned (.tuple #[.agg #[.int .i64 r, .int .i64 c, .slice ao len cap], .int .i64 err]) ∧ w.heap.size ≤ B ∧ (len = 0 ∨ (ao = some ⟨B, 0, none⟩ ∧ Blk B (ints len Z) 3 w')) ∧ len ≤ cap ∧ X w'
theorem MatP.congr {r c : Int} {len : Nat} {Z Y : Nat → Int} {err : Int} {X : World → Prop} {w : World} {e : Ending} {w' : World} (h : MatP r c len Z err X w e w') (hz : ∀ i, i < len → Z i = Y i) : MatP r c len Y err X w e w' := by
  obtain ⟨ao, cap, B, h1, h2, h3, h4, h5⟩ := h
  rw [ints_congr len Z Y hz] at h3
  exact ⟨ao, cap, B, h1, h2, h3, h4, h5⟩
/-- Of a matrix that is one: where its numbers lie. -/
theorem Row.some {w : World} {ao : Option Addr} {len : Nat} {Z : Nat → Int} (h : Row w ao len Z) (hl : 1 ≤ len) : ∃ b o, ao = some ⟨b, o, none⟩ ∧ ∀ i, i < len → w.cell? ⟨b, o + i, none⟩ = some (.int .i64 (Z i)) := by
  rcases h with h | h
  · omega
  · exact h

/-- The answer is put into the result's cells. -/
theorem putM {Br : Nat} {T : TypeId} {v0 v1 v2 : Value} {w : World} (h : Blk Br #[v0, v1, v2] T w) (x y z : Value) :
    Blk Br #[x, y, z] T (((w.setCell ⟨Br, 0, none⟩ x).setCell ⟨Br, 1, none⟩ y).setCell ⟨Br, 2, none⟩ z) ∧ Mod Br w (((w.setCell ⟨Br, 0, none⟩ x).setCell ⟨Br, 1, none⟩ y).setCell ⟨Br, 2, none⟩ z) :=
  ⟨Blk.set (Blk.set (Blk.set h 0 x) 1 y) 2 z, (((Mod.refl _ _).setCell 0 _).setCell 1 _).setCell 2 _⟩

end Go.Proofs.Ytpanfppnkgokdaa

/- Package mat: refuse, of one matrix and of two. -/
namespace Go.Proofs.Ytpanfppnkgokdaa
open Go.RowKit Go.Shelf Go.Proofs.Wd
set_option linter.unusedVariables false
set_option linter.unusedSimpArgs false
set_option maxRecDepth 10000

end Go.Proofs.Ytpanfppnkgokdaa

/- Package vec: refuse, two and its func, both, reckon. -/
namespace Go.Proofs.Ytpanfppnkgokdaa
open Go.RowKit Go.Proofs.Wd
set_option linter.unusedVariables false
set_option linter.unusedSimpArgs false
set_option maxRecDepth 10000

/-- A unit as a pointer; an operation of it as a method value. -/
def ptr (U : Nat) : Value := .pointer (some ⟨U, 0, none⟩)

end Go.Proofs.Ytpanfppnkgokdaa

/- Package vec: both, over a func that two made, and over a method value. -/
namespace Go.Proofs.Ytpanfppnkgokdaa
open Go.RowKit Go.Proofs.Wd
set_option linter.unusedVariables false
set_option linter.unusedSimpArgs false
set_option maxRecDepth 10000

end Go.Proofs.Ytpanfppnkgokdaa

/- Package vec: reckon, Sum, Less, Dot, of a unit that New made, and of none. -/
namespace Go.Proofs.Ytpanfppnkgokdaa
open Go.RowKit Go.Proofs.Wd
set_option linter.unusedVariables false
set_option linter.unusedSimpArgs false
set_option maxRecDepth 10000

end Go.Proofs.Ytpanfppnkgokdaa

/- Package slices: Repeat, of one number; package vec: Scale, Most. -/
namespace Go.Proofs.Ytpanfppnkgokdaa
open Go.RowKit Go.Proofs.Wd
set_option linter.unusedVariables false
set_option linter.unusedSimpArgs false
set_option maxRecDepth 10000

/-- The first k are s, what is behind them 0. -/
def fst0 (s : Int) (k : Nat) (i : Nat) : Int := if i < k then s else 0
theorem splice_fst (n k m : Nat) (s : Int) (h : k + m ≤ n) : splice (ints n (fst0 s k)).toList k (List.replicate m (Value.int .i64 s)) = (ints n (fst0 s (k + m))).toList := by
  apply List.ext_getElem?
  intro i
  have E : ∀ (Z : Nat → Int), (ints n Z).toList[i]? = (ints n Z)[i]? := fun Z => by simp
  rw [E]
  unfold splice
  have l1 : ((ints n (fst0 s k)).toList.take k).length = k := by simp [ints_size]; omega
  by_cases h1 : i < k
  · rw [List.getElem?_append_left (by omega), List.getElem?_take, if_pos h1, E, ints_at n _ i (by omega), ints_at n _ i (by omega)]
    unfold fst0
    rw [if_pos h1, if_pos (by omega)]
  · rw [List.getElem?_append_right (by omega), l1]
    by_cases h2 : i < k + m
    · rw [List.getElem?_append_left (by simp; omega), ints_at n _ i (by omega), List.getElem?_replicate, if_pos (by omega)]
      unfold fst0
      rw [if_pos (by omega)]
    · rw [List.getElem?_append_right (by simp; omega), List.getElem?_drop]
      simp only [List.length_replicate]
      rw [show k + m + (i - k - m) = i by omega, E]
      by_cases h3 : i < n
      · rw [ints_at n _ i h3, ints_at n _ i h3]
        unfold fst0
        rw [if_neg h1, if_neg h2]
      · rw [ints_none n _ i h3, ints_none n _ i h3]

theorem slice_from (g len cap k : Nat) (h : k < cap) (hl : k ≤ len) (w : World) : (Instr.sliceAt 22 (.slice (some ⟨g, 0, none⟩) len cap) (some (.int .i64 k)) none none).run Try.prog w = .ok (.slice (some ⟨g, k, none⟩) (len - k) (cap - k)) w := by
  have e : Try.prog.underlying 22 = some (.slice (Try.prog.elem 22)) := by kernel_rfl
  have s1 : (sizeOf (Try.prog.elem 22)).run Try.prog w = .ok 1 w := by kernel_rfl
  rw [run_sliceAt_slice w 22 _ _ _ _ e, run_slice_l w 22 _ len cap e .i64 k (by omega) (by omega), s1]
  show Result.ok (sliced _ (k : Int).toNat len cap 1) w = _
  unfold sliced
  rw [Int.toNat_natCast, if_neg (by omega)]
  show Result.ok (Value.slice (some ((⟨g, 0, none⟩ : Addr).add (k * 1))) _ _) w = _
  rw [Go.WideShapes.add_plain, Nat.zero_add, Nat.mul_one]

theorem infoSize : (Try.prog.info? 3).map (·.size) = some 1 := by kernel_rfl
/-- Cells of one block, copied behind the first k of it. -/
theorem run_copy_ints (w : World) (ty : TypeId) (g N k m dLen dCap sLen sCap xb : Nat) (s : Int) (hb : Blk g (ints N (fst0 s k)) 3 w) (hm : m = Nat.min sLen dLen) (hk : k + m ≤ N) (hx : ∀ j, j < m → w.cell? ⟨xb, j, none⟩ = some (.int .i64 s)) :
    ∃ w', (Builtin.copy_ #[22, 22] ty #[.slice (some ⟨g, k, none⟩) dLen dCap, .slice (some ⟨xb, 0, none⟩) sLen sCap]).run Try.prog w = .ok (.int .i64 m) w' ∧ Blk g (ints N (fst0 s (k + m))) 3 w' ∧ Mod g w w' := by
  have hl : (List.replicate m (Value.int .i64 s)).length = m := List.length_replicate
  have := run_copy_row (P := Try.prog) w 22 22 ty 3 g k dLen dCap ⟨xb, 0, none⟩ sLen sCap (ints N (fst0 s k)) 3 (List.replicate m (.int .i64 s)) Try.underlying22 infoSize hb (by rw [hl]; exact hm)
    (fun j v hv => by
      rw [List.getElem?_replicate] at hv
      split at hv
      · next hj =>
        cases hv
        rw [Go.WideShapes.add_plain, Nat.zero_add]
        exact hx j hj
      · simp at hv)
    (by rw [hl, ints_size]; exact hk) (fun v hv => by rw [List.eq_of_mem_replicate hv]; rfl)
  rw [hl] at this
  refine ⟨_, this, ?_, Mod.setRow _ _ _⟩
  have e := splice_fst N k m s hk
  unfold splice at e
  rw [hl] at e
  have e2 := setRow_heap w g (ints N (fst0 s k)) ((ints N (fst0 s k)).toList.take k ++ List.replicate m (Value.int .i64 s) ++ (ints N (fst0 s k)).toList.drop (k + m)).toArray 3 (0, 0) hb
  rw [List.append_assoc, e] at e2
  rw [List.append_assoc, e]
  exact e2
theorem wpList_copy_ints {w : World} {ops : Array Oper} {rest : List Oper} {o : Oper} {a : Act} {Q : Exit → Act → World → Prop} (hgd : o.guard = none) (d s : Operand) (ho : o.op = .call { callee := .builtin .copy, args := #[d, s], argTypes := #[22, 22] })
    (g N k m dLen dCap sLen sCap xb : Nat) (x : Int) (hd : a.eval d = .slice (some ⟨g, k, none⟩) dLen dCap) (hs : a.eval s = .slice (some ⟨xb, 0, none⟩) sLen sCap) (hb : Blk g (ints N (fst0 x k)) 3 w) (hm : m = Nat.min sLen dLen) (hk : k + m ≤ N) (hx : ∀ j, j < m → w.cell? ⟨xb, j, none⟩ = some (.int .i64 x))
    (h : ∀ w', Hid (Blk g (ints N (fst0 x (k + m))) 3 w' ∧ Mod g w w') → wpList Try.prog ops Q rest (a.put o.dst (.int .i64 m)) w') : wpList Try.prog ops Q (o :: rest) a w := by
  refine wpList_plain hgd fun K hK => ?_
  obtain ⟨w', hrun, h1, h2⟩ := run_copy_ints w o.type g N k m dLen dCap sLen sCap xb x hb hm hk hx
  unfold Oper.wp
  simp [execOp, ho, resolve, invoke, builtin, hd, hs, hrun, Result.andThen]
  exact hK _ _ (h w' ⟨h1, h2⟩)
theorem step_copy_ints {ops : Array Oper} {o : Oper} {a : Act} {w : World} {K : Act → World → Prop} {Q : Exit → Act → World → Prop} {E : Prop} (hgd : o.guard = none) (d s : Operand) (ho : o.op = .call { callee := .builtin .copy, args := #[d, s], argTypes := #[22, 22] })
    (g N k m dLen dCap sLen sCap xb : Nat) (x : Int) (hd : a.eval d = .slice (some ⟨g, k, none⟩) dLen dCap) (hs : a.eval s = .slice (some ⟨xb, 0, none⟩) sLen sCap) (hb : Blk g (ints N (fst0 x k)) 3 w) (hm : m = Nat.min sLen dLen) (hk : k + m ≤ N) (hx : ∀ j, j < m → w.cell? ⟨xb, j, none⟩ = some (.int .i64 x))
    (h : ∀ w', Hid (Blk g (ints N (fst0 x (k + m))) 3 w' ∧ Mod g w w') → K (a.put o.dst (.int .i64 m)) w') : if Region.wanted o (yielded ops a.tmps) = true then Oper.wp Try.prog o a w K Q else E := by
  have hw : Region.wanted o (yielded ops a.tmps) = true := by simp [Region.wanted, hgd]
  rw [if_pos hw]
  obtain ⟨w', hrun, h1, h2⟩ := run_copy_ints w o.type g N k m dLen dCap sLen sCap xb x hb hm hk hx
  unfold Oper.wp
  simp [execOp, ho, resolve, invoke, builtin, hd, hs, hrun, Result.andThen]
  exact h w' ⟨h1, h2⟩

end Go.Proofs.Ytpanfppnkgokdaa

/- Package mat: turned, Turn, Eye. -/
namespace Go.Proofs.Ytpanfppnkgokdaa
open Go.RowKit Go.Shelf Go.Proofs.Wd
set_option linter.unusedVariables false
set_option linter.unusedSimpArgs false
set_option maxRecDepth 10000

end Go.Proofs.Ytpanfppnkgokdaa

/- Package mat: the func that Mul hands on. -/
namespace Go.Proofs.Ytpanfppnkgokdaa
open Go.RowKit Go.Shelf Go.Proofs.Wd
set_option linter.unusedVariables false
set_option linter.unusedSimpArgs false
set_option maxRecDepth 10000

theorem mod_drew (U : Nat) (w : World) : Mod U w w.drew := ⟨rfl, rfl, fun _ _ _ => rfl, fun _ => rfl, Nat.le_refl _⟩
/-- A row of a matrix. -/
theorem row_part {w : World} {b o c i r : Nat} {Z : Nat → Int} (hi : i < r) (hz : ∀ j, j < r * c → w.cell? ⟨b, o + j, none⟩ = some (.int .i64 (Z j))) : Row w (some ⟨b, o + i * c, none⟩) c (rowZ Z c i) := by
  refine Or.inr ⟨b, o + i * c, rfl, fun k hk => ?_⟩
  rw [Nat.add_assoc]
  exact hz _ (place_in _ _ _ _ hi hk)

end Go.Proofs.Ytpanfppnkgokdaa

/- Package mat: blocks laid one behind the other; Mul. -/
namespace Go.Proofs.Ytpanfppnkgokdaa
open Go.RowKit Go.Shelf Go.Proofs.Wd
set_option linter.unusedVariables false
set_option linter.unusedSimpArgs false
set_option maxRecDepth 10000

theorem alloc3 (w : World) (c1 : Array Value) (t1 : TypeId) (c2 : Array Value) (t2 : TypeId) (c3 : Array Value) (t3 : TypeId) : Grown w (((w.alloc (.cells c1 t1)).alloc (.cells c2 t2)).alloc (.cells c3 t3)) ∧ (((w.alloc (.cells c1 t1)).alloc (.cells c2 t2)).alloc (.cells c3 t3)).heap.size = w.heap.size + 1 + 1 + 1 ∧ Blk (w.heap.size) c1 t1 (((w.alloc (.cells c1 t1)).alloc (.cells c2 t2)).alloc (.cells c3 t3)) ∧ Blk (w.heap.size + 1) c2 t2 (((w.alloc (.cells c1 t1)).alloc (.cells c2 t2)).alloc (.cells c3 t3)) ∧ Blk (w.heap.size + 1 + 1) c3 t3 (((w.alloc (.cells c1 t1)).alloc (.cells c2 t2)).alloc (.cells c3 t3)) := by
  have g1 : Grown w (w.alloc (.cells c1 t1)) := (Grown.refl _).alloc _ _
  have b1 := Blk.new w c1 t1
  have s1 : (w.alloc (.cells c1 t1)).heap.size = w.heap.size + 1 := by rw [World.size_alloc]
  generalize w.alloc (.cells c1 t1) = w1 at *
  have g2 : Grown w1 (w1.alloc (.cells c2 t2)) := (Grown.refl _).alloc _ _
  have b2 := Blk.new w1 c2 t2
  have s2 : (w1.alloc (.cells c2 t2)).heap.size = w.heap.size + 1 + 1 := by rw [World.size_alloc, s1]
  rw [s1] at b2
  generalize w1.alloc (.cells c2 t2) = w2 at *
  have g3 : Grown w2 (w2.alloc (.cells c3 t3)) := (Grown.refl _).alloc _ _
  have b3 := Blk.new w2 c3 t3
  have s3 : (w2.alloc (.cells c3 t3)).heap.size = w.heap.size + 1 + 1 + 1 := by rw [World.size_alloc, s2]
  rw [s2] at b3
  generalize w2.alloc (.cells c3 t3) = w3 at *
  refine ⟨gtrans (gtrans g1 g2) g3, s3, (Blk.grown (Blk.grown b1 g2) g3), (Blk.grown b2 g3), b3⟩
theorem alloc4 (w : World) (c1 : Array Value) (t1 : TypeId) (c2 : Array Value) (t2 : TypeId) (c3 : Array Value) (t3 : TypeId) (c4 : Array Value) (t4 : TypeId) : Grown w ((((w.alloc (.cells c1 t1)).alloc (.cells c2 t2)).alloc (.cells c3 t3)).alloc (.cells c4 t4)) ∧ ((((w.alloc (.cells c1 t1)).alloc (.cells c2 t2)).alloc (.cells c3 t3)).alloc (.cells c4 t4)).heap.size = w.heap.size + 1 + 1 + 1 + 1 ∧ Blk (w.heap.size) c1 t1 ((((w.alloc (.cells c1 t1)).alloc (.cells c2 t2)).alloc (.cells c3 t3)).alloc (.cells c4 t4)) ∧ Blk (w.heap.size + 1) c2 t2 ((((w.alloc (.cells c1 t1)).alloc (.cells c2 t2)).alloc (.cells c3 t3)).alloc (.cells c4 t4)) ∧ Blk (w.heap.size + 1 + 1) c3 t3 ((((w.alloc (.cells c1 t1)).alloc (.cells c2 t2)).alloc (.cells c3 t3)).alloc (.cells c4 t4)) ∧ Blk (w.heap.size + 1 + 1 + 1) c4 t4 ((((w.alloc (.cells c1 t1)).alloc (.cells c2 t2)).alloc (.cells c3 t3)).alloc (.cells c4 t4)) := by
  have g1 : Grown w (w.alloc (.cells c1 t1)) := (Grown.refl _).alloc _ _
  have b1 := Blk.new w c1 t1
  have s1 : (w.alloc (.cells c1 t1)).heap.size = w.heap.size + 1 := by rw [World.size_alloc]
  generalize w.alloc (.cells c1 t1) = w1 at *
  have g2 : Grown w1 (w1.alloc (.cells c2 t2)) := (Grown.refl _).alloc _ _
  have b2 := Blk.new w1 c2 t2
  have s2 : (w1.alloc (.cells c2 t2)).heap.size = w.heap.size + 1 + 1 := by rw [World.size_alloc, s1]
  rw [s1] at b2
  generalize w1.alloc (.cells c2 t2) = w2 at *
  have g3 : Grown w2 (w2.alloc (.cells c3 t3)) := (Grown.refl _).alloc _ _
  have b3 := Blk.new w2 c3 t3
  have s3 : (w2.alloc (.cells c3 t3)).heap.size = w.heap.size + 1 + 1 + 1 := by rw [World.size_alloc, s2]
  rw [s2] at b3
  generalize w2.alloc (.cells c3 t3) = w3 at *
  have g4 : Grown w3 (w3.alloc (.cells c4 t4)) := (Grown.refl _).alloc _ _
  have b4 := Blk.new w3 c4 t4
  have s4 : (w3.alloc (.cells c4 t4)).heap.size = w.heap.size + 1 + 1 + 1 + 1 := by rw [World.size_alloc, s3]
  rw [s3] at b4
  generalize w3.alloc (.cells c4 t4) = w4 at *
  refine ⟨gtrans (gtrans (gtrans g1 g2) g3) g4, s4, (Blk.grown (Blk.grown (Blk.grown b1 g2) g3) g4), (Blk.grown (Blk.grown b2 g3) g4), (Blk.grown b3 g4), b4⟩
theorem alloc5 (w : World) (c1 : Array Value) (t1 : TypeId) (c2 : Array Value) (t2 : TypeId) (c3 : Array Value) (t3 : TypeId) (c4 : Array Value) (t4 : TypeId) (c5 : Array Value) (t5 : TypeId) : Grown w (((((w.alloc (.cells c1 t1)).alloc (.cells c2 t2)).alloc (.cells c3 t3)).alloc (.cells c4 t4)).alloc (.cells c5 t5)) ∧ (((((w.alloc (.cells c1 t1)).alloc (.cells c2 t2)).alloc (.cells c3 t3)).alloc (.cells c4 t4)).alloc (.cells c5 t5)).heap.size = w.heap.size + 1 + 1 + 1 + 1 + 1 ∧ Blk (w.heap.size) c1 t1 (((((w.alloc (.cells c1 t1)).alloc (.cells c2 t2)).alloc (.cells c3 t3)).alloc (.cells c4 t4)).alloc (.cells c5 t5)) ∧ Blk (w.heap.size + 1) c2 t2 (((((w.alloc (.cells c1 t1)).alloc (.cells c2 t2)).alloc (.cells c3 t3)).alloc (.cells c4 t4)).alloc (.cells c5 t5)) ∧ Blk (w.heap.size + 1 + 1) c3 t3 (((((w.alloc (.cells c1 t1)).alloc (.cells c2 t2)).alloc (.cells c3 t3)).alloc (.cells c4 t4)).alloc (.cells c5 t5)) ∧ Blk (w.heap.size + 1 + 1 + 1) c4 t4 (((((w.alloc (.cells c1 t1)).alloc (.cells c2 t2)).alloc (.cells c3 t3)).alloc (.cells c4 t4)).alloc (.cells c5 t5)) ∧ Blk (w.heap.size + 1 + 1 + 1 + 1) c5 t5 (((((w.alloc (.cells c1 t1)).alloc (.cells c2 t2)).alloc (.cells c3 t3)).alloc (.cells c4 t4)).alloc (.cells c5 t5)) := by
  have g1 : Grown w (w.alloc (.cells c1 t1)) := (Grown.refl _).alloc _ _
  have b1 := Blk.new w c1 t1
  have s1 : (w.alloc (.cells c1 t1)).heap.size = w.heap.size + 1 := by rw [World.size_alloc]
  generalize w.alloc (.cells c1 t1) = w1 at *
  have g2 : Grown w1 (w1.alloc (.cells c2 t2)) := (Grown.refl _).alloc _ _
  have b2 := Blk.new w1 c2 t2
  have s2 : (w1.alloc (.cells c2 t2)).heap.size = w.heap.size + 1 + 1 := by rw [World.size_alloc, s1]
  rw [s1] at b2
  generalize w1.alloc (.cells c2 t2) = w2 at *
  have g3 : Grown w2 (w2.alloc (.cells c3 t3)) := (Grown.refl _).alloc _ _
  have b3 := Blk.new w2 c3 t3
  have s3 : (w2.alloc (.cells c3 t3)).heap.size = w.heap.size + 1 + 1 + 1 := by rw [World.size_alloc, s2]
  rw [s2] at b3
  generalize w2.alloc (.cells c3 t3) = w3 at *
  have g4 : Grown w3 (w3.alloc (.cells c4 t4)) := (Grown.refl _).alloc _ _
  have b4 := Blk.new w3 c4 t4
  have s4 : (w3.alloc (.cells c4 t4)).heap.size = w.heap.size + 1 + 1 + 1 + 1 := by rw [World.size_alloc, s3]
  rw [s3] at b4
  generalize w3.alloc (.cells c4 t4) = w4 at *
  have g5 : Grown w4 (w4.alloc (.cells c5 t5)) := (Grown.refl _).alloc _ _
  have b5 := Blk.new w4 c5 t5
  have s5 : (w4.alloc (.cells c5 t5)).heap.size = w.heap.size + 1 + 1 + 1 + 1 + 1 := by rw [World.size_alloc, s4]
  rw [s4] at b5
  generalize w4.alloc (.cells c5 t5) = w5 at *
  refine ⟨gtrans (gtrans (gtrans (gtrans g1 g2) g3) g4) g5, s5, (Blk.grown (Blk.grown (Blk.grown (Blk.grown b1 g2) g3) g4) g5), (Blk.grown (Blk.grown (Blk.grown b2 g3) g4) g5), (Blk.grown (Blk.grown b3 g4) g5), (Blk.grown b4 g5), b5⟩

end Go.Proofs.Ytpanfppnkgokdaa

/- A region that draws its order, in a round of a range over a function: it goes by what holds in every order outside a round. -/
namespace Go.Proofs.Ytpanfppnkgokdaa
open Go.RowKit Go.Shelf Go.Proofs.Wd
set_option linter.unusedVariables false
set_option linter.unusedSimpArgs false
set_option maxRecDepth 10000

/-- Q where the end is reached, and no other end. -/
def OnlyN (Q : Exit → Act → World → Prop) : Exit → Act → World → Prop
  | .normal, a, w => Q .normal a w
  | _, _, _ => False
theorem OnlyN.imp {Q : Exit → Act → World → Prop} : ∀ (e : Exit) (a : Act) (w : World), OnlyN Q e a w → Q e a w := fun e a w h => by
  cases e <;> first | exact h | exact (h : False).elim
theorem OnlyN.out {Q : Exit → Act → World → Prop} : ¬ LetsOut (OnlyN Q) := fun ⟨_, _, h⟩ => h
theorem rowsIn_wide {n : Nat} {P : Program} {row : String} {args : Array Value} {w : World} {R : Value → World → Prop} (h : Rows P row args w R) : RowsIn Fence.wide n P row args w R :=
  fun c cs _ => let ⟨v, w', r, s⟩ := h c cs; ⟨v, w', r, stepsIn_wide.2 s⟩

theorem wpOpIn_of {P : Program} {ops : Array Oper} {Q : Exit → Act → World → Prop} {i l n : Nat} {K : Act → World → Prop} {a : Act} {w : World} (hd : ∀ (j : Nat) (o : Oper), ops[j]? = some o → ∀ c, o.op ≠ .defer c) (hq : ¬ LetsOut Q) (h : wpOp P ops Q i K a w) : wpOpIn (Fence.wide.inRound l) n P ops Q i K a w := by
  unfold wpOp at h
  unfold wpOpIn
  cases ho : ops[i]? with
  | none => simpa [ho] using h
  | some o =>
    simp only [ho] at h ⊢
    by_cases hw : Region.wanted o (yielded ops a.tmps) = true
    · rw [if_pos hw] at h ⊢
      rcases h with h | h
      · refine ⟨fun _ _ => trivial, ?_⟩
        rw [Fence.inRound_round, Oper.semAt_some l _ o (hd i o ho)]
        unfold Oper.wp at h
        generalize (execOp a.eval o).run P w = r at *
        cases r with
        | ok x w' =>
          cases x <;> simp only [Oper.upon, Oper.uponIn] at h ⊢ <;>
            first
              | exact h
              | exact ⟨fun e => (by cases e), CallsIn.inRound l (callsIn_wide.2 h)⟩
              | exact ⟨fun e => (by cases e), rowsIn_wide h⟩
        | halt x w' => cases x <;> simp only [Oper.upon, Oper.uponIn] at h ⊢ <;> exact h
      · exact absurd h.2 hq
    · rw [if_neg hw] at h ⊢
      exact ⟨fun _ _ => trivial, h⟩
theorem wpAnyIn_of {P : Program} {ops : Array Oper} {Q : Exit → Act → World → Prop} {l n : Nat} {md : Region.Mode} {S : World → Prop} (hd : ∀ (j : Nat) (o : Oper), ops[j]? = some o → ∀ c, o.op ≠ .defer c) (hq : ¬ LetsOut Q) :
    ∀ (fuel : Nat) (listed : Array Bool) (a : Act) (w : World), wpAnyH P md ops Q S fuel listed a w → wpAnyIn (Fence.wide.inRound l) n P md ops Q fuel listed a w
  | 0, _, _, _, h => h
  | fuel + 1, _, _, _, h => ⟨h.1, fun i hi => wpOpIn_mono (fun a' w' h' => wpAnyIn_of hd hq fuel _ a' w' h'.2) (wpOpIn_of hd hq (h.2 i hi))⟩

/-- The beginning. -/
theorem region_in {P : Program} {ops : Array Oper} {Q : Exit → Act → World → Prop} {id l n : Nat} {a : Act} {w : World} (S : World → Prop) (hm : P.follows .mixedOrders = true) (hd : (ops.all fun o => match o.op with | .defer _ => false | _ => true) = true) (hS : S w.drew)
    (h : S w.drew → wpAnyH P .any ops (OnlyN Q) S ops.size (Array.replicate ops.size false) a w.drew) : (Code.region id ops true).wpIn (Fence.wide.inRound l) n P Q a w := by
  refine Code.wpIn_mono OnlyN.imp (wpIn_region_any hm (wpAnyIn_of (fun j o ho c e => ?_) OnlyN.out _ _ _ _ (h hS)))
  rw [Array.all_eq_true] at hd
  obtain ⟨hj, hjo⟩ := Array.getElem?_eq_some_iff.1 ho
  have := hd j hj
  rw [hjo, e] at this
  cases this

/-- An operation that is taken first: its slot written out. -/
theorem take_slotN {P : Program} {ops : Array Oper} {Q : Exit → Act → World → Prop} {md : Region.Mode} {S : World → Prop} {i d : Nat} {oi : Oper} {v : Value} {fuel : Nat} {listed : Array Bool} {a : Act} {w : World} (hi : ops[i]? = some oi) (hd : oi.dst = some d)
    (hs : Region.noSelect ops = true) (hf : Region.free md ops listed i = true) (hr : (Region.ready md ops listed).contains i = true)
    (hy : YieldsIf P ops S oi v a) (hS : S w)
    (h : wpAnyH P md ops (OnlyN Q) S fuel (listed.setIfInBounds i true) (a.put (some d) v) w) : wpAnyH P md ops (OnlyN Q) S (fuel + 1) listed a w :=
  wpAnyH_take hi hs hf hr (fun _ _ _ h => h) hy hS (by rw [hd]; exact h)

end Go.Proofs.Ytpanfppnkgokdaa

/- Package mat: Apply. -/
namespace Go.Proofs.Ytpanfppnkgokdaa
open Go.RowKit Go.Shelf Go.Proofs.Wd
set_option linter.unusedVariables false
set_option linter.unusedSimpArgs false
set_option maxRecDepth 10000

def nums {r : Nat} (pre : List (Fin r)) : List Nat := pre.map fun x => x.1
theorem nums_all (r : Nat) : nums (allR r) = List.range r := by
  have : nums (allR r) = vis 1 (allR r) := by
    unfold nums vis
    simp [List.range_succ, List.flatMap_singleton', List.map_eq_flatMap]
  rw [this, vis_all, Nat.mul_one]
def encRo {r : Nat} (b o c : Nat) (x : Fin r) : Array Value := encR b o c x
/-- A list and an error that a call tells. -/
def ListP (len : Nat) (Z : Nat → Int) (err : Int) (X : World → Prop) (w : World) (e : Ending) (w' : World) : Prop :=
  ∃ ao cap B, e = .returned (.tuple #[.slice ao len cap, .int .i64 err]) ∧ w.heap.size ≤ B ∧ (len = 0 ∨ (ao = some ⟨B, 0, none⟩ ∧ Blk B (ints len Z) 3 w')) ∧ len ≤ cap ∧ X w'

section
attribute [local go_sem] Oper.semAt_some


end


end Go.Proofs.Ytpanfppnkgokdaa

/- The laws' kit: a list's copy, and lists side by side. -/
namespace Go.Proofs.Ytpanfppnkgokdaa
open Go.RowKit Go.Proofs.Wd
set_option linter.unusedVariables false
set_option linter.unusedSimpArgs false
set_option maxRecDepth 10000
attribute [local go_sem ↓] Go.wp_at_zero Go.wp_at_succ

/-- What comes of a copy. -/
def CopyP (n : Nat) (Z : Nat → Int) (w : World) (e : Ending) (w' : World) : Prop := ∃ ao cap, e = .returned (.slice ao n cap) ∧ Row w' ao n Z ∧ (∀ U, U < w.heap.size → Off U n ao) ∧ Kp w w'

set_option maxHeartbeats 1000000 in
theorem kitCopy (ao : Option Addr) (n cap : Nat) (Z : Nat → Int) (hn : n ≤ 1000000) (h0 : ao = none → n = 0 ∧ cap = 0) (w : World) (hr : Row w ao n Z) :
    Calls Try.prog 27 #[.slice ao n cap] w fun e w' => CopyP n Z w e w' := by
  have HR := hide hr
  clear hr
  obtain ⟨i0, hi, hz0, hz1, hz2⟩ := info_parts Try.infoInt
  have OM := hide (World.ownsRow_made (base := w.heap.size) (e := 3) (size := 1) w #[] 0 (Nat.le_refl _) (by unfold maxLen; omega) (by simp))
  cases ao with
  | none =>
    obtain ⟨rfl, rfl⟩ := h0 rfl
    clear h0
    go_enter Try.func27, Try.ntmps27
    go_wp2_with (at_builtin; refine wpList_append_own_none rfl _ _ 22 rfl w.heap.size 3 i0 1 Try.underlying22 hi _ _ _ rfl (unhide OM) rfl ?_)
    go_ret
    exact (show CopyP _ _ _ _ _ from ⟨_, _, rfl, Or.inl rfl, fun U hU h => absurd h (Nat.lt_irrefl _), (Kp.refl _).alloc _ _⟩)
  | some a =>
    clear h0
    have NEW : ∀ j u, ((List.range n).map fun i => Value.int .i64 (Z i))[j]? = some u → (w.alloc (.cells #[] 3)).cell? (a.add j) = some u := by
      intro j u hu
      rw [List.getElem?_map] at hu
      by_cases hj : j < n
      · rw [List.getElem?_range hj] at hu
        simp at hu
        subst hu
        obtain ⟨b, o, e, hc⟩ := (unhide HR).at hj
        cases e
        rw [Go.WideShapes.add_plain]
        exact gat ((Grown.refl _).alloc _ _) hc
      · rw [List.getElem?_eq_none (by simpa using hj)] at hu
        simp at hu
    have NEWH := hide NEW
    clear NEW
    go_enter Try.func27, Try.ntmps27
    go_wp2_with (at_builtin; refine wpList_append_own _ rfl _ _ 22 rfl w.heap.size 3 i0 (.int .i64 0) 1 8 Try.underlying22 hi hz0 hz1 hz2 rfl (by decide) _ _ _ rfl (unhide OM) a n cap ((List.range n).map fun i => Value.int .i64 (Z i)) rfl (by simp) (unhide NEWH) (cells_one _ _) (by unfold maxLen; omega) (by omega) (by simp) ?_; intro v' w1 hown' hgrow _)
    rw [Nat.zero_add, List.nil_append] at hown'
    obtain ⟨ao2, cap2, rfl, row2, off2⟩ := owns_row hown'
    have K1 : Hid (Kp w w1) := Kp.by ((Kp.refl _).alloc _ _) hgrow (fun k e => by have := ((unhide OM).lt k e).1; omega)
    have R1 := hide (And.intro row2 off2)
    clear hown' hgrow row2 off2
    go_wp2
    go_ret
    exact (show CopyP _ _ _ _ _ from ⟨_, _, rfl, (unhide R1).1, (unhide R1).2, unhide K1⟩)

set_option maxHeartbeats 1000000 in
theorem kitSameQ (ao bo : Option Addr) (len c1 c2 : Nat) (X : Nat → Int) (hl : len ≤ 1000000) (w : World) (hr : Row w ao len X) (ht : Row w bo len X) :
    Calls Try.prog 49 #[.slice ao len c1, .slice bo len c2] w fun e w' => e = .returned (.bool true) ∧ ∃ n, w' = w.drewN n := by
  have HR := hide hr
  have HT := hide ht
  clear hr ht
  go_enter Try.func49, Try.ntmps49
  go_wp2
  go_loopw [5] (fun i wr => ∃ k : Nat, k ≤ len ∧ i = .int .i64 k ∧ Hid (∃ n, wr = w.drewN n)) (fun i _ => len - (intOf i).toNat)
  case atStart => exact ⟨0, Nat.zero_le _, rfl, 0, rfl⟩
  case round =>
    obtain ⟨k, hk, rfl, nn, rfl⟩ := hrel
    by_cases hlt : k < len
    · obtain ⟨b1, o1, rfl, hc1⟩ := (unhide HR).at hlt
      obtain ⟨b2, o2, rfl, hc2⟩ := (unhide HT).at hlt
      generalize X k = x at *
      have i0 : (0 : Int) ≤ (k : Int) := by omega
      have i1 : (k : Int) < (len : Int) := by omega
      go_wp2
      go_quiet (fail)
      go_wp2
      go_roundw
      case rel => exact ⟨k + 1, by omega, by go_num, _, rfl⟩
      case measure => simp [intOf]; omega
    · obtain rfl : k = len := by omega
      go_wp2
      go_ret
      exact ⟨rfl, _, rfl⟩

end Go.Proofs.Ytpanfppnkgokdaa

/- The laws' kit: Pick. -/
namespace Go.Proofs.Ytpanfppnkgokdaa
open Go.RowKit Go.Proofs.Wd
set_option linter.unusedVariables false
set_option linter.unusedSimpArgs false
set_option maxRecDepth 10000

theorem tmod_of (x n : Int) (hn : 0 < n) : (0 ≤ x.tmod n → x.tmod n = x % n) ∧ (x.tmod n < 0 → x.tmod n + n = x % n) ∧ -n < x.tmod n ∧ x.tmod n < n := by
  have e := @Int.tmod_eq_emod x n
  have h1 := Int.emod_nonneg x (show n ≠ 0 by omega)
  have h2 := Int.emod_lt_of_pos x hn
  have h3 : (n.natAbs : Int) = n := by omega
  rw [e]
  split <;> omega
theorem wrap_id (y : Int) (h : -9223372036854775808 ≤ y ∧ y ≤ 9223372036854775807) : wrap64 y = y := by
  unfold wrap64
  omega

set_option maxHeartbeats 1000000 in
theorem kitPick (x n : Int) (hx : I64 x) (hn : 0 < n ∧ n ≤ 4611686018427387904) (w : World) : Calls Try.prog 26 #[.int .i64 x, .int .i64 n] w fun e w' => e = .returned (.int .i64 (x % n)) ∧ Kp w w' := by
  obtain ⟨h0, h1⟩ := hn
  have c0 : ¬ n ≤ 0 := by omega
  have T := hide (tmod_of x n h0)
  unfold I64 at hx
  go_enter Try.func26, Try.ntmps26
  go_wp2
  · rename_i hh
    go_ret
    exact ⟨congrArg (fun v => Ending.returned (Value.int .i64 v)) ((wrap_id _ (by have := unhide T; omega)).trans ((unhide T).2.1 hh)), Kp.refl _⟩
  · rename_i hh
    go_ret
    exact ⟨congrArg (fun v => Ending.returned (Value.int .i64 v)) ((unhide T).1 hh), Kp.refl _⟩

end Go.Proofs.Ytpanfppnkgokdaa

/- Package slices: Clone; package mat: Row. -/
namespace Go.Proofs.Ytpanfppnkgokdaa
open Go.RowKit Go.Shelf Go.Proofs.Wd
set_option linter.unusedVariables false
set_option linter.unusedSimpArgs false
set_option maxRecDepth 10000

/-- Numbers at the beginning of a block that is known whole. -/
def Own (B len : Nat) (Z : Nat → Int) (w : World) : Prop := ∃ cur, Blk B cur 3 w ∧ ∀ i, i < len → cur[i]? = some (.int .i64 (Z i))
theorem Own.of {B len : Nat} {Z : Nat → Int} {w : World} (h : Blk B (ints len Z) 3 w) : Own B len Z w := ⟨_, h, fun i hi => ints_at len Z i hi⟩
theorem Own.row {B len : Nat} {Z : Nat → Int} {w : World} (h : Own B len Z w) : Row w (some ⟨B, 0, none⟩) len Z := by
  obtain ⟨cur, h1, h2⟩ := h
  refine Or.inr ⟨B, 0, rfl, fun i hi => ?_⟩
  rw [Nat.zero_add, Blk.cell h1, h2 i hi]
theorem Own.kp {B len : Nat} {Z : Nat → Int} {w w' : World} (h : Own B len Z w) (k : Kp w w') : Own B len Z w' := let ⟨cur, h1, h2⟩ := h; ⟨cur, Blk.kp h1 k, h2⟩
theorem Own.mk {B len U : Nat} {Z : Nat → Int} {w w' : World} (h : Own B len Z w) (k : Mk U w w') (hne : B ≠ U) : Own B len Z w' := let ⟨cur, h1, h2⟩ := h; ⟨cur, Blk.mk h1 k hne, h2⟩
theorem Own.by {B len : Nat} {Z : Nat → Int} {w w' : World} {row : Option Nat} (h : Own B len Z w) (k : w.grownBy w' row) (hne : some B ≠ row) : Own B len Z w' := let ⟨cur, h1, h2⟩ := h; ⟨cur, Blk.by h1 k hne, h2⟩
theorem owns_own {w : World} {base n : Nat} {v : Value} {Z : Nat → Int} (hn : 1 ≤ n) (h : w.ownsRow base 3 1 v n ((List.range n).map fun i => Value.int .i64 (Z i))) : ∃ B cap, v = .slice (some ⟨B, 0, none⟩) n cap ∧ base ≤ B ∧ Own B n Z w := by
  rcases h.2 with ⟨rfl, rfl⟩ | ⟨g, cap, cur, rfl, hb, hg, hn', _, hsz, hxs⟩
  · omega
  · refine ⟨g, cap, rfl, hb, cur, hg, fun i hi => ?_⟩
    have e : (cur.toList.take (n * 1))[i]? = some (.int .i64 (Z i)) := by rw [hxs]; simp [hi]
    rw [List.getElem?_take, if_pos (by omega)] at e
    simpa using e

set_option maxRecDepth 50000 in
set_option maxHeartbeats 1000000 in
theorem sliceClone (b o n cap : Nat) (Z : Nat → Int) (h1 : 1 ≤ n) (hn : n ≤ 1000000) (w : World) (hr : Row w (some ⟨b, o, none⟩) n Z) :
    Calls Try.prog 29 #[.slice (some ⟨b, o, none⟩) n cap] w fun e w' => ∃ B cap', e = .returned (.slice (some ⟨B, 0, none⟩) n cap') ∧ w.heap.size ≤ B ∧ Own B n Z w' ∧ Kp w w' := by
  obtain ⟨i0, hi, hz0, hz1, hz2⟩ := info_parts Try.infoInt
  have OM := hide (World.ownsRow_made (base := w.heap.size) (e := 3) (size := 1) w #[] 0 (Nat.le_refl _) (by unfold maxLen; omega) (by simp))
  have NEWH : Hid (∀ j u, ((List.range n).map fun i => Value.int .i64 (Z i))[j]? = some u → (w.alloc (.cells #[] 3)).cell? ((⟨b, o, none⟩ : Addr).add j) = some u) := by
    intro j u hu
    rw [List.getElem?_map] at hu
    by_cases hj : j < n
    · rw [List.getElem?_range hj] at hu
      simp at hu
      subst hu
      obtain ⟨b', o', e, hc⟩ := hr.at hj
      cases e
      rw [Go.WideShapes.add_plain]
      exact gat ((Grown.refl _).alloc _ _) hc
    · rw [List.getElem?_eq_none (by simpa using hj)] at hu
      simp at hu
  have H1 := hide h1
  have q22 : ∀ w : World, (binOp .eql 22 (.slice (some ⟨b, o, none⟩) n cap) (.slice none 0 0)).run Try.prog w = .ok (.bool false) w := fun w => Lib.run_eql_slice_nil w _ _ _ n cap 0 0 Try.underlying22
  clear hr h1
  go_enter Try.func29, Try.ntmps29
  go_wp2_with (at_builtin; refine wpList_append_own _ rfl _ _ 22 rfl w.heap.size 3 i0 (.int .i64 0) 1 8 Try.underlying22 hi hz0 hz1 hz2 rfl (by decide) _ _ _ rfl (unhide OM) ⟨b, o, none⟩ n cap ((List.range n).map fun i => Value.int .i64 (Z i)) rfl (by simp) (unhide NEWH) (cells_one _ _) (by unfold maxLen; omega) (by omega) (by simp) ?_; intro v' w1 hown' hgrow _)
  rw [Nat.zero_add, List.nil_append] at hown'
  obtain ⟨B, cap2, rfl, hB, own2⟩ := owns_own (unhide H1) hown'
  have K1 : Hid (Kp w w1) := Kp.by ((Kp.refl _).alloc _ _) hgrow (fun k e => by have := ((unhide OM).lt k e).1; omega)
  have R1 := hide (And.intro hB own2)
  clear hown' hgrow hB own2
  go_wp2
  go_ret
  exact ⟨_, _, rfl, (unhide R1).1, (unhide R1).2, unhide K1⟩

/-- A list and an error: where it lies. -/
def RowP (len : Nat) (Z : Nat → Int) (err : Int) (w : World) (e : Ending) (w' : World) : Prop :=
  ∃ ao cap B, e = .returned (.tuple #[.slice ao len cap, .int .i64 err]) ∧ w.heap.size ≤ B ∧ (len = 0 ∨ (ao = some ⟨B, 0, none⟩ ∧ Own B len Z w')) ∧ Kp w w'

/-- What a round that leaves knows. -/
def RwX (w : World) (c : Nat) (Z : Nat → Int) (i : Int) {r : Nat} (cd : Code) (pre : List (Fin r)) (W : World) : Prop :=
  cd = .ret ∧ ∃ k : Nat, k < r ∧ (k : Int) = i ∧ ∃ B cap, w.heap.size ≤ B ∧ Own B c (rowZ Z c k) W ∧ Blk (w.heap.size + 1 + 1) #[.slice (some ⟨B, 0, none⟩) c cap] 22 W ∧ Blk (w.heap.size + 1 + 1 + 1) #[.int .i64 0] 34 W ∧ Kp w W
def RwI (W0 : World) (i : Int) {r : Nat} (pre : List (Fin r)) (W : World) : Prop := Kp W0 W ∧ ∀ x ∈ pre, (x.1 : Int) ≠ i
theorem blk_own2 {U : Nat} {cs : Array Value} {T : TypeId} {W W' : World} {row : Option Nat} (h : Blk U cs T W) (hg : W.grownBy W' row) (hr : ∀ r, row = some r → ∃ o : Obj, W.heap[r]? = some o ∧ o.isCells = false) : Blk U cs T W' := blk_own h hg hr
theorem own_own {B len : Nat} {Z : Nat → Int} {W W' : World} {row : Option Nat} (h : Own B len Z W) (hg : W.grownBy W' row) (hr : ∀ r, row = some r → ∃ o : Obj, W.heap[r]? = some o ∧ o.isCells = false) : Own B len Z W' := let ⟨cur, h1, h2⟩ := h; ⟨cur, blk_own h1 hg hr, h2⟩
theorem rwX_own (w : World) (c : Nat) (Z : Nat → Int) (i : Int) (r B : Nat) (hB : w.heap.size ≤ B) (cd : Code) : OwnFrom B (RwX w c Z i (r := r) cd) := by
  rintro pre W W' row ⟨hc, k, hk, hi, b, cap, h1, h2, h3, h4, h5⟩ hg hr
  have hr' : ∀ r, row = some r → ∃ o : Obj, W.heap[r]? = some o ∧ o.isCells = false := fun r e => (hr r e).2
  exact ⟨hc, k, hk, hi, b, cap, h1, own_own h2 hg hr', blk_own h3 hg hr', blk_own h4 hg hr', h5.by hg (fun k e => Nat.le_trans hB (hr k e).1)⟩
theorem rwI_own (W0 : World) (i : Int) (r : Nat) : OwnFrom W0.heap.size (RwI W0 i (r := r)) := by
  rintro pre W W' row ⟨h1, h2⟩ hg hr
  exact ⟨h1.by hg (fun k e => (hr k e).1), h2⟩

section
attribute [local go_sem] Oper.semAt_some

end

end Go.Proofs.Ytpanfppnkgokdaa

/- The laws' kit: matrices' copies, matrices side by side, lists written over; the laws' long. -/
namespace Go.Proofs.Ytpanfppnkgokdaa
open Go.RowKit Go.Shelf Go.Proofs.Wd
set_option linter.unusedVariables false
set_option linter.unusedSimpArgs false
set_option maxRecDepth 10000

/-- Numbers that the call itself has gathered, and how much room there is. -/
theorem owns_rowC {w : World} {base n : Nat} {v : Value} {Z : Nat → Int} (h : w.ownsRow base 3 1 v n ((List.range n).map fun i => Value.int .i64 (Z i))) : ∃ ao cap, v = .slice ao n cap ∧ n ≤ cap ∧ Row w ao n Z ∧ ∀ U, U < base → Off U n ao := by
  obtain ⟨ao, cap, rfl, h1, h2⟩ := owns_row h
  rcases h.2 with ⟨e, rfl⟩ | ⟨g, cap', cur, e, hb, hg, hn, _⟩
  · exact ⟨ao, cap, rfl, Nat.zero_le _, h1, h2⟩
  · injection e with e1 e2 e3
    exact ⟨ao, cap, rfl, by omega, h1, h2⟩
def CopyQ (n : Nat) (Z : Nat → Int) (w : World) (e : Ending) (w' : World) : Prop := ∃ ao cap, e = .returned (.slice ao n cap) ∧ n ≤ cap ∧ Row w' ao n Z ∧ (∀ U, U < w.heap.size → Off U n ao) ∧ Kp w w'

set_option maxRecDepth 20000 in
set_option maxHeartbeats 1000000 in
theorem kitCopyC (ao : Option Addr) (n cap : Nat) (Z : Nat → Int) (hn : n ≤ 1000000) (h0 : ao = none → n = 0 ∧ cap = 0) (w : World) (hr : Row w ao n Z) :
    Calls Try.prog 27 #[.slice ao n cap] w fun e w' => CopyQ n Z w e w' := by
  have HR := hide hr
  clear hr
  obtain ⟨i0, hi, hz0, hz1, hz2⟩ := info_parts Try.infoInt
  have OM := hide (World.ownsRow_made (base := w.heap.size) (e := 3) (size := 1) w #[] 0 (Nat.le_refl _) (by unfold maxLen; omega) (by simp))
  cases ao with
  | none =>
    obtain ⟨rfl, rfl⟩ := h0 rfl
    clear h0
    go_enter Try.func27, Try.ntmps27
    go_wp2_with (at_builtin; refine wpList_append_own_none rfl _ _ 22 rfl w.heap.size 3 i0 1 Try.underlying22 hi _ _ _ rfl (unhide OM) rfl ?_)
    go_ret
    exact (show CopyQ _ _ _ _ _ from ⟨_, _, rfl, Nat.zero_le _, Or.inl rfl, fun U hU h => absurd h (Nat.lt_irrefl _), (Kp.refl _).alloc _ _⟩)
  | some a =>
    clear h0
    have NEW : ∀ j u, ((List.range n).map fun i => Value.int .i64 (Z i))[j]? = some u → (w.alloc (.cells #[] 3)).cell? (a.add j) = some u := by
      intro j u hu
      rw [List.getElem?_map] at hu
      by_cases hj : j < n
      · rw [List.getElem?_range hj] at hu
        simp at hu
        subst hu
        obtain ⟨b, o, e, hc⟩ := (unhide HR).at hj
        cases e
        rw [Go.WideShapes.add_plain]
        exact gat ((Grown.refl _).alloc _ _) hc
      · rw [List.getElem?_eq_none (by simpa using hj)] at hu
        simp at hu
    have NEWH := hide NEW
    clear NEW
    go_enter Try.func27, Try.ntmps27
    go_wp2_with (at_builtin; refine wpList_append_own _ rfl _ _ 22 rfl w.heap.size 3 i0 (.int .i64 0) 1 8 Try.underlying22 hi hz0 hz1 hz2 rfl (by decide) _ _ _ rfl (unhide OM) a n cap ((List.range n).map fun i => Value.int .i64 (Z i)) rfl (by simp) (unhide NEWH) (cells_one _ _) (by unfold maxLen; omega) (by omega) (by simp) ?_; intro v' w1 hown' hgrow _)
    rw [Nat.zero_add, List.nil_append] at hown'
    obtain ⟨ao2, cap2, rfl, hc2, row2, off2⟩ := owns_rowC hown'
    have K1 : Hid (Kp w w1) := Kp.by ((Kp.refl _).alloc _ _) hgrow (fun k e => by have := ((unhide OM).lt k e).1; omega)
    have R1 := hide (And.intro hc2 (And.intro row2 off2))
    clear hown' hgrow row2 off2 hc2
    go_wp2
    go_ret
    exact (show CopyQ _ _ _ _ _ from ⟨_, _, rfl, (unhide R1).1, (unhide R1).2.1, (unhide R1).2.2, unhide K1⟩)

/-- A matrix's copy. -/
def CopyM (r c : Int) (n : Nat) (Z : Nat → Int) (w : World) (e : Ending) (w' : World) : Prop := ∃ ao cap, e = .returned (.agg #[.int .i64 r, .int .i64 c, .slice ao n cap]) ∧ n ≤ cap ∧ Row w' ao n Z ∧ (∀ U, U < w.heap.size → Off U n ao) ∧ Kp w w'

end Go.Proofs.Ytpanfppnkgokdaa

/- Small facts: sums and products of places, an owned list's cells, a region's end. -/
namespace Go.Proofs.Ytpanfppnkgokdaa
open Go.RowKit Go.Shelf Go.Proofs.Wd
set_option linter.unusedVariables false
set_option linter.unusedSimpArgs false
set_option maxRecDepth 10000

theorem noPanic_normalE {Q : Exit → Act → World → Prop} {a : Act} {w : World} (h : Q .normal a w) : NoPanic Q .normal a w := h
theorem wrapPi (a b p : Nat) (h : a * b = p) (hp : p ≤ 1000000) : IntKind.i64.wrap ((a : Int) * (b : Int)) = (p : Int) := by
  rw [IntKind.wrap_i64, ← Int.natCast_mul, h]
  omega
theorem wrapAi (a b p : Nat) (h : a + b = p) (hp : p ≤ 1000000) : IntKind.i64.wrap ((a : Int) + (b : Int)) = (p : Int) := by
  rw [IntKind.wrap_i64, ← Int.natCast_add, h]
  omega
theorem Own.congr {B len : Nat} {Z Y : Nat → Int} {w : World} (h : Own B len Z w) (e : ∀ i, i < len → Z i = Y i) : Own B len Y w := let ⟨cur, h1, h2⟩ := h; ⟨cur, h1, fun i hi => by rw [h2 i hi, e i hi]⟩
theorem Own.cellAt {B len : Nat} {Z : Nat → Int} {w : World} (h : Own B len Z w) (k : Nat) (hk : k < len) : w.cell? ⟨B, k, none⟩ = some (.int .i64 (Z k)) := let ⟨cur, h1, h2⟩ := h; by rw [Blk.cell h1, h2 k hk]
theorem Own.freeAt {B len : Nat} {Z : Nat → Int} {w : World} (h : Own B len Z w) (k : Nat) : w.frozen? ⟨B, k, none⟩ = false := let ⟨cur, h1, h2⟩ := h; Blk.free h1 k
theorem owns_ownC {w : World} {base n : Nat} {v : Value} {Z : Nat → Int} (hn : 1 ≤ n) (h : w.ownsRow base 3 1 v n ((List.range n).map fun i => Value.int .i64 (Z i))) : ∃ B cap, v = .slice (some ⟨B, 0, none⟩) n cap ∧ n ≤ cap ∧ base ≤ B ∧ Own B n Z w := by
  obtain ⟨B, cap, rfl, h1, h2⟩ := owns_own hn h
  obtain ⟨ao, cap', e, h3, _⟩ := owns_rowC h
  cases e
  exact ⟨B, cap, rfl, h3, h1, h2⟩

end Go.Proofs.Ytpanfppnkgokdaa

/- Package mat: what each call comes to, whatever is handed in. -/
namespace Go.Proofs.Ytpanfppnkgokdaa
open Go.RowKit Go.Shelf Go.Proofs.Wd
set_option linter.unusedVariables false
set_option linter.unusedSimpArgs false
set_option maxRecDepth 10000

theorem off_at {U len : Nat} {b o : Nat} (h : Off U len (some ⟨b, o, none⟩)) (hl : 1 ≤ len) : b ≠ U := h (by omega) _ rfl
/-- A matrix that is one, in natural numbers. -/
theorem okM.nat {R C : Int} {len : Nat} (h : okM R C len) : ∃ r c : Nat, R = r ∧ C = c ∧ (1 ≤ r ∧ r ≤ 12) ∧ (1 ≤ c ∧ c ≤ 12) ∧ len = r * c ∧ 1 ≤ len ∧ len ≤ 144 := by
  obtain ⟨h1, h2, h3⟩ := h
  refine ⟨R.toNat, C.toNat, by omega, by omega, by omega, by omega, ?_⟩
  have e : len = R.toNat * C.toNat := by
    have : ((R.toNat * C.toNat : Nat) : Int) = R * C := by rw [Int.natCast_mul, Int.toNat_of_nonneg (by omega), Int.toNat_of_nonneg (by omega)]
    omega
  exact ⟨e, by have := mul12n R.toNat C.toNat (by omega) (by omega); omega, by have := mul12n R.toNat C.toNat (by omega) (by omega); omega⟩

/-- What comes of a call: rows, columns, numbers, an error; whether something was cut, how many operations. -/
structure MO where
  r : Int
  c : Int
  len : Nat
  Z : Nat → Int
  err : Int
  cut : Bool
  n : Int
open Classical in
noncomputable def mulO (R1 C1 R2 C2 : Int) (l1 l2 : Nat) (A B : Nat → Int) (c0 : Bool) (n0 : Int) : MO :=
  if okM R1 C1 l1 ∧ okM R2 C2 l2 ∧ C1 = R2 then ⟨R1, C2, R1.toNat * C2.toNat, mulZ A B C1.toNat C2.toNat, 0, c0 || orC (mulG A B C1.toNat C2.toNat) (R1.toNat * C2.toNat), n0 + 2 * C1.toNat * ((R1.toNat * C2.toNat : Nat) : Int)⟩
  else ⟨0, 0, 0, A, 3, c0, n0⟩
open Classical in
noncomputable def turnO (R C : Int) (len : Nat) (A : Nat → Int) : MO :=
  if okM R C len then ⟨C, R, C.toNat * R.toNat, turnZ A R.toNat C.toNat, 0, false, 0⟩ else ⟨0, 0, 0, A, 3, false, 0⟩
open Classical in
noncomputable def eyeO (n : Int) : MO := if 1 ≤ n ∧ n ≤ 12 then ⟨n, n, n.toNat * n.toNat, diagZ oneZ n.toNat, 0, false, 0⟩ else ⟨0, 0, 0, oneZ, 3, false, 0⟩
open Classical in
noncomputable def diagO (n : Nat) (L : Nat → Int) : MO := if 1 ≤ n ∧ n ≤ 12 then ⟨n, n, n * n, diagZ L n, 0, false, 0⟩ else ⟨0, 0, 0, L, 3, false, 0⟩
open Classical in
noncomputable def rowO (R C : Int) (len : Nat) (A : Nat → Int) (i : Int) : MO :=
  if okM R C len ∧ 0 ≤ i ∧ i < R then ⟨0, 0, C.toNat, rowZ A C.toNat i.toNat, 0, false, 0⟩ else ⟨0, 0, 0, A, 3, false, 0⟩
open Classical in
noncomputable def appO (R C : Int) (len xl : Nat) (A X : Nat → Int) (c0 : Bool) (n0 : Int) : MO :=
  if okM R C len ∧ (xl : Int) = C then ⟨0, 0, R.toNat, appZ A X xl, 0, c0 || orC (appG A X xl) R.toNat, n0 + 2 * xl * (R.toNat : Int)⟩ else ⟨0, 0, 0, A, 3, c0, n0⟩

theorem mulO_of {R1 C1 R2 C2 : Int} {l1 l2 : Nat} {A B : Nat → Int} {c0 : Bool} {n0 : Int} (h1 : okM R1 C1 l1) (h2 : okM R2 C2 l2) (h3 : C1 = R2) : mulO R1 C1 R2 C2 l1 l2 A B c0 n0 = ⟨R1, C2, R1.toNat * C2.toNat, mulZ A B C1.toNat C2.toNat, 0, c0 || orC (mulG A B C1.toNat C2.toNat) (R1.toNat * C2.toNat), n0 + 2 * C1.toNat * ((R1.toNat * C2.toNat : Nat) : Int)⟩ := if_pos ⟨h1, h2, h3⟩
theorem turnO_of {R C : Int} {len : Nat} {A : Nat → Int} (h : okM R C len) : turnO R C len A = ⟨C, R, C.toNat * R.toNat, turnZ A R.toNat C.toNat, 0, false, 0⟩ := if_pos h
/-! What the laws have under way: blocks that may be written (E), matrices in cells, lists. -/
section
variable {w : World} {E : List Nat} {bx : List (Nat × Array Value)} {rows : List (Option Addr × Nat × (Nat → Int))} {wx w' : World}
end

end Go.Proofs.Ytpanfppnkgokdaa

/- Polynomials of matrices, in whole numbers: terms, values by Horner's way, and what is strictly upper. -/
namespace Go.Proofs.Wd
set_option linter.unusedVariables false

/-- Each entry by m. -/
def dvZ (Y : Nat → Int) (m : Nat) : Nat → Int := fun j => divN (Y j) (whoN (m : Int))
def dvG (Y : Nat → Int) (m : Nat) : Nat → Bool := fun j => whoC (m : Int) || divC (Y j) (whoN (m : Int))
def oneF : Nat → Int := fun _ => 4294967296
def termZ (A : Nat → Int) (n : Nat) : Nat → Nat → Int
  | 0 => diagZ oneF n
  | m + 1 => dvZ (mulZ (termZ A n m) A n n) (m + 1)
/-- Was something cut up to the m-th? -/
def termC (A : Nat → Int) (n : Nat) : Nat → Bool
  | 0 => false
  | m + 1 => termC A n m || orC (mulG (termZ A n m) A n n) (n * n) || orC (dvG (mulZ (termZ A n m) A n n) (m + 1)) (n * n)
theorem divN_I64 (a b : Int) : I64 (divN a b) := fitI_I64 _
theorem whoN_I64 (a : Int) : I64 (whoN a) := fitI_I64 _
theorem termZ_I64 (A : Nat → Int) (n : Nat) : ∀ m p, p < n * n → I64 (termZ A n m p)
  | 0, p, hp => diagZ_I64 _ n (fun _ _ => by show I64 4294967296; unfold I64; omega) p hp
  | m + 1, p, _ => divN_I64 _ _

/-- One round of Horner's way, and all. -/
def hoZ (V M : Nat → Int) (t : Int) : Nat → Int := fun p => s2N (m2N (V p) t) (M p)
def hoC (V M : Nat → Int) (t : Int) (nn : Nat) : Bool := orC (fun p => m2C (V p) t) nn || orC (fun p => s2C (m2N (V p) t) (M p)) nn
/-- What there is behind the last k + 1 of n + 1 matrices. -/
def horZ (X : Nat → Nat → Int) (n : Nat) (t : Int) : Nat → Nat → Int
  | 0 => X n
  | k + 1 => hoZ (horZ X n t k) (X (n - (k + 1))) t
def horC (X : Nat → Nat → Int) (n : Nat) (t : Int) (nn : Nat) : Nat → Bool
  | 0 => false
  | k + 1 => horC X n t nn k || hoC (horZ X n t k) (X (n - (k + 1))) t nn
theorem horZ_I64 (X : Nat → Nat → Int) (n : Nat) (t : Int) (nn : Nat) (h : ∀ p, p < nn → I64 (X n p)) : ∀ k p, p < nn → I64 (horZ X n t k p)
  | 0, p, hp => h p hp
  | k + 1, p, _ => s2N_I64 _ _
theorem hor_congr (X Y : Nat → Nat → Int) (n : Nat) (t : Int) (nn : Nat) (h : ∀ i, i ≤ n → ∀ p, p < nn → X i p = Y i p) : ∀ k, (∀ p, p < nn → horZ X n t k p = horZ Y n t k p) ∧ horC X n t nn k = horC Y n t nn k
  | 0 => ⟨h n (Nat.le_refl _), rfl⟩
  | k + 1 => by
    obtain ⟨h1, h2⟩ := hor_congr X Y n t nn h k
    refine ⟨fun p hp => ?_, ?_⟩
    · show s2N (m2N (horZ X n t k p) t) (X (n - (k + 1)) p) = s2N (m2N (horZ Y n t k p) t) (Y (n - (k + 1)) p)
      rw [h1 p hp, h (n - (k + 1)) (by omega) p hp]
    · show (horC X n t nn k || (orC _ nn || orC _ nn)) = (horC Y n t nn k || (orC _ nn || orC _ nn))
      rw [h2, orC_congr (fun p => m2C (horZ X n t k p) t) (fun p => m2C (horZ Y n t k p) t) nn (fun p hp => by rw [h1 p hp]), orC_congr (fun p => s2C (m2N (horZ X n t k p) t) (X (n - (k + 1)) p)) (fun p => s2C (m2N (horZ Y n t k p) t) (Y (n - (k + 1)) p)) nn (fun p hp => by rw [h1 p hp, h (n - (k + 1)) (by omega) p hp])]

/-- The first entry in or below the diagonal that is not 0, row by row: is there none? -/
def upRow (A : Nat → Int) (c i : Nat) : Nat → Bool
  | 0 => true
  | k + 1 => upRow A c i k && A (i * c + k) == 0
def upTo (A : Nat → Int) (c : Nat) : Nat → Bool
  | 0 => true
  | i + 1 => upTo A c i && upRow A c i (i + 1)
theorem upRow_true (A : Nat → Int) (c i : Nat) : ∀ k, upRow A c i k = true ↔ ∀ j, j < k → A (i * c + j) = 0
  | 0 => by simp [upRow]
  | k + 1 => by
    show (upRow A c i k && A (i * c + k) == 0) = true ↔ _
    rw [Bool.and_eq_true, upRow_true A c i k, beq_iff_eq]
    refine ⟨fun h j hj => ?_, fun h => ⟨fun j hj => h j (by omega), h k (by omega)⟩⟩
    by_cases e : j = k
    · subst e; exact h.2
    · exact h.1 j (by omega)
theorem upTo_true (A : Nat → Int) (c : Nat) : ∀ n, upTo A c n = true ↔ ∀ i, i < n → ∀ j, j ≤ i → A (i * c + j) = 0
  | 0 => by simp [upTo]
  | n + 1 => by
    show (upTo A c n && upRow A c n (n + 1)) = true ↔ _
    rw [Bool.and_eq_true, upTo_true A c n, upRow_true A c n]
    refine ⟨fun h i hi j hj => ?_, fun h => ⟨fun i hi => h i (by omega), fun j hj => h n (by omega) j (by omega)⟩⟩
    by_cases e : i = n
    · subst e; exact h.2 j (by omega)
    · exact h.1 i (by omega) j hj

end Go.Proofs.Wd

/- Objects that may be written, each over blocks of its own, and facts that hang on blocks that are not: the state of a law under way. Matrices in a list. -/
namespace Go.Proofs.Ytpanfppnkgokdaa
open Go.RowKit Go.Shelf Go.Proofs.Wd
set_option linter.unusedVariables false
set_option linter.unusedSimpArgs false
set_option maxRecDepth 10000

/-- What p says hangs on D's blocks alone. -/
def DepL (D : List Nat) (p : World → Prop) : Prop := ∀ w w' : World, (∀ k ∈ D, w'.heap[k]? = w.heap[k]?) → p w → p w'
/-- But for D's blocks, and new ones, the world is as it was. -/
def MkL (D : List Nat) (w w' : World) : Prop := w'.os = w.os ∧ w'.output = w.output ∧ (∀ k, k < w.heap.size → k ∉ D → w'.heap[k]? = w.heap[k]?) ∧ w.heap.size ≤ w'.heap.size
theorem MkL.one {U : Nat} {w w' : World} (m : Mk U w w') : MkL [U] w w' := ⟨m.1, m.2.1, fun k hk h => m.2.2.1 k hk (fun e => h (by rw [e]; simp)), m.2.2.2⟩
theorem MkL.kp {w w' : World} (m : Kp w w') (D : List Nat) : MkL D w w' := ⟨m.1, m.2.1, fun k hk _ => m.2.2.1 k hk, m.2.2.2⟩
theorem MkL.trans {D : List Nat} {a b c : World} (h : MkL D a b) (k : MkL D b c) : MkL D a c := ⟨k.1.trans h.1, k.2.1.trans h.2.1, fun i hi hd => (k.2.2.1 i (Nat.lt_of_lt_of_le hi h.2.2.2) hd).trans (h.2.2.1 i hi hd), Nat.le_trans h.2.2.2 k.2.2.2⟩
theorem MkL.cell {D : List Nat} {b o : Nat} (w : World) (v : Value) (hb : b ∈ D) : MkL D w (w.setCell ⟨b, o, none⟩ v) :=
  ⟨rfl, rfl, fun k hk hd => Below.heap_setCell _ _ _ _ (fun e => hd (by rw [e]; exact hb)), by simp [World.setCell]⟩

abbrev Ob := List Nat × (World → Prop)
def blksOf (es : List Ob) : List Nat := es.flatMap fun c => c.1
/-- es may be written; fs may not. -/
def ST (w : World) (es fs : List Ob) (wx : World) : Prop :=
  Kp w wx ∧ (∀ c ∈ es, c.2 wx ∧ DepL c.1 c.2) ∧ (blksOf es).Nodup ∧ (∀ k ∈ blksOf es, w.heap.size ≤ k ∧ k < wx.heap.size) ∧ (∀ f ∈ fs, f.2 wx ∧ DepL f.1 f.2 ∧ ∀ k ∈ f.1, k < wx.heap.size ∧ k ∉ blksOf es)
section
variable {w wx w' : World} {es pre post fs : List Ob} {D D' : List Nat} {p p' : World → Prop}
theorem blks_mid (pre post : List Ob) (D : List Nat) (p : World → Prop) : blksOf (pre ++ (D, p) :: post) = blksOf pre ++ (D ++ blksOf post) := by
  unfold blksOf
  rw [List.flatMap_append, List.flatMap_cons]
theorem mem_blks {es : List Ob} {c : Ob} (hc : c ∈ es) {k : Nat} (hk : k ∈ c.1) : k ∈ blksOf es := List.mem_flatMap.2 ⟨c, hc, hk⟩
theorem ST.nil (w : World) : ST w [] [] w := ⟨Kp.refl _, fun _ h => absurd h List.not_mem_nil, List.nodup_nil, fun _ h => absurd h List.not_mem_nil, fun _ h => absurd h List.not_mem_nil⟩
theorem ST.keep (h : ST w es fs wx) : Kp w wx := h.1
theorem ST.kp (h : ST w es fs wx) (k : Kp wx w') : ST w es fs w' :=
  ⟨h.1.trans k, fun c hc => ⟨(h.2.1 c hc).2 wx w' (fun i hi => k.2.2.1 i (h.2.2.2.1 i (mem_blks hc hi)).2) (h.2.1 c hc).1, (h.2.1 c hc).2⟩, h.2.2.1, fun i hi => ⟨(h.2.2.2.1 i hi).1, Nat.lt_of_lt_of_le (h.2.2.2.1 i hi).2 k.2.2.2⟩,
    fun f hf => ⟨(h.2.2.2.2 f hf).2.1 wx w' (fun i hi => k.2.2.1 i ((h.2.2.2.2 f hf).2.2 i hi).1) (h.2.2.2.2 f hf).1, (h.2.2.2.2 f hf).2.1, fun i hi => ⟨Nat.lt_of_lt_of_le ((h.2.2.2.2 f hf).2.2 i hi).1 k.2.2.2, ((h.2.2.2.2 f hf).2.2 i hi).2⟩⟩⟩
/-- An object is written: it may take new blocks. -/
theorem ST.mk (pre : List Ob) (h : ST w (pre ++ (D, p) :: post) fs wx) (m : MkL D wx w') (hp : p' w') (hd : DepL D' p') (hn : D'.Nodup) (hD : ∀ k ∈ D', k ∈ D ∨ (wx.heap.size ≤ k ∧ k < w'.heap.size)) : ST w (pre ++ (D', p') :: post) fs w' := by
  obtain ⟨h1, h2, h3, h4, h5⟩ := h
  rw [blks_mid] at h3 h4 h5
  obtain ⟨n1, n2, n3⟩ := List.nodup_append.1 h3
  obtain ⟨n4, n5, n6⟩ := List.nodup_append.1 n2
  have out : ∀ c : Ob, c ∈ pre ∨ c ∈ post → ∀ i ∈ c.1, i ∉ D := fun c hc i hi hd => by
    rcases hc with hc | hc
    · exact n3 i (mem_blks hc hi) i (List.mem_append_left _ hd) rfl
    · exact n6 i hd i (mem_blks hc hi) rfl
  have lt : ∀ c : Ob, c ∈ pre ∨ c ∈ post → ∀ i ∈ c.1, i < wx.heap.size := fun c hc i hi => by
    rcases hc with hc | hc
    · exact (h4 i (List.mem_append_left _ (mem_blks hc hi))).2
    · exact (h4 i (List.mem_append_right _ (List.mem_append_right _ (mem_blks hc hi)))).2
  have old : ∀ c : Ob, c ∈ pre ∨ c ∈ post → c.2 w' ∧ DepL c.1 c.2 := fun c hc => by
    have hm : c ∈ pre ++ (D, p) :: post := by
      rcases hc with hc | hc
      · exact List.mem_append_left _ hc
      · exact List.mem_append_right _ (List.mem_cons_of_mem _ hc)
    exact ⟨(h2 c hm).2 wx w' (fun i hi => m.2.2.1 i (lt c hc i hi) (out c hc i hi)) (h2 c hm).1, (h2 c hm).2⟩
  refine ⟨⟨m.1.trans h1.1, m.2.1.trans h1.2.1, fun i hi => (m.2.2.1 i (Nat.lt_of_lt_of_le hi h1.2.2.2) (fun hd => ?_)).trans (h1.2.2.1 i hi), Nat.le_trans h1.2.2.2 m.2.2.2⟩, fun c hc => ?_, ?_, fun k hk => ?_, fun f hf => ⟨(h5 f hf).2.1 wx w' (fun i hi => m.2.2.1 i ((h5 f hf).2.2 i hi).1 (fun hd => ((h5 f hf).2.2 i hi).2 (List.mem_append_right _ (List.mem_append_left _ hd)))) (h5 f hf).1, (h5 f hf).2.1, fun i hi => ⟨Nat.lt_of_lt_of_le ((h5 f hf).2.2 i hi).1 m.2.2.2, fun hk => ?_⟩⟩⟩
  · have := (h4 i (List.mem_append_right _ (List.mem_append_left _ hd))).1
    omega
  · rcases List.mem_append.1 hc with hc | hc
    · exact old c (Or.inl hc)
    · rcases List.mem_cons.1 hc with rfl | hc
      · exact ⟨hp, hd⟩
      · exact old c (Or.inr hc)
  · rw [blks_mid]
    refine List.nodup_append.2 ⟨n1, List.nodup_append.2 ⟨hn, n5, fun a ha b hb e => ?_⟩, fun a ha b hb e => ?_⟩
    · subst e
      rcases hD a ha with hx | hx
      · exact n6 a hx a hb rfl
      · have := (h4 a (List.mem_append_right _ (List.mem_append_right _ hb))).2; omega
    · subst e
      rcases List.mem_append.1 hb with hb | hb
      · rcases hD a hb with hx | hx
        · exact n3 a ha a (List.mem_append_left _ hx) rfl
        · have := (h4 a (List.mem_append_left _ ha)).2; omega
      · exact n3 a ha a (List.mem_append_right _ hb) rfl
  · rw [blks_mid] at hk
    rcases List.mem_append.1 hk with hk | hk
    · have := h4 k (List.mem_append_left _ hk); exact ⟨this.1, Nat.lt_of_lt_of_le this.2 m.2.2.2⟩
    · rcases List.mem_append.1 hk with hk | hk
      · rcases hD k hk with hx | hx
        · have := h4 k (List.mem_append_right _ (List.mem_append_left _ hx)); exact ⟨this.1, Nat.lt_of_lt_of_le this.2 m.2.2.2⟩
        · exact ⟨Nat.le_trans h1.2.2.2 hx.1, hx.2⟩
      · have := h4 k (List.mem_append_right _ (List.mem_append_right _ hk)); exact ⟨this.1, Nat.lt_of_lt_of_le this.2 m.2.2.2⟩
  · rw [blks_mid] at hk
    have hlt := ((h5 f hf).2.2 i hi).1
    have hno := ((h5 f hf).2.2 i hi).2
    rcases List.mem_append.1 hk with hk | hk
    · exact hno (List.mem_append_left _ hk)
    · rcases List.mem_append.1 hk with hk | hk
      · rcases hD i hk with hx | hx
        · exact hno (List.mem_append_right _ (List.mem_append_left _ hx))
        · omega
      · exact hno (List.mem_append_right _ (List.mem_append_right _ hk))
/-- A new object. -/
theorem ST.push (h : ST w es fs wx) (k : Kp wx w') (hp : p w') (hd : DepL D p) (hn : D.Nodup) (hD : ∀ k ∈ D, wx.heap.size ≤ k ∧ k < w'.heap.size) : ST w ((D, p) :: es) fs w' := by
  have h' : ST w ([] ++ (([] : List Nat), fun _ => True) :: es) fs wx := ⟨h.1, fun c hc => by
    rcases List.mem_cons.1 hc with rfl | hc
    · exact ⟨trivial, fun _ _ _ _ => trivial⟩
    · exact h.2.1 c hc, h.2.2.1, h.2.2.2.1, h.2.2.2.2⟩
  exact ST.mk [] h' (MkL.kp k []) hp hd hn (fun k hk => Or.inr (hD k hk))
/-- A fact more. -/
theorem ST.fact (h : ST w es fs wx) (hp : p wx) (hd : DepL D p) (hD : ∀ k ∈ D, k < wx.heap.size ∧ k ∉ blksOf es) : ST w es ((D, p) :: fs) wx :=
  ⟨h.1, h.2.1, h.2.2.1, h.2.2.2.1, fun f hf => by
    rcases List.mem_cons.1 hf with rfl | hf
    · exact ⟨hp, hd, hD⟩
    · exact h.2.2.2.2 f hf⟩
/-- A call that changes nothing that was, and tells something in new blocks. -/
theorem ST.tell (h : ST w es fs wx) (k : Kp wx w') (hp : p w') (hd : DepL D p) (hD : ∀ k ∈ D, wx.heap.size ≤ k ∧ k < w'.heap.size) : ST w es ((D, p) :: fs) w' :=
  (h.kp k).fact hp hd (fun i hi => ⟨(hD i hi).2, fun hk => by have := (h.2.2.2.1 i hk).2; have := (hD i hi).1; omega⟩)
/-- An object that is written no more. -/
theorem ST.freeze (pre : List Ob) (h : ST w (pre ++ (D, p) :: post) fs wx) : ST w (pre ++ post) ((D, p) :: fs) wx := by
  have hb := blks_mid pre post D p
  have hb2 : blksOf (pre ++ post) = blksOf pre ++ blksOf post := by unfold blksOf; rw [List.flatMap_append]
  obtain ⟨h1, h2, h3, h4, h5⟩ := h
  rw [hb] at h3 h4 h5
  obtain ⟨n1, n2, n3⟩ := List.nodup_append.1 h3
  obtain ⟨n4, n5, n6⟩ := List.nodup_append.1 n2
  have sub : ∀ k, k ∈ blksOf (pre ++ post) → k ∈ blksOf pre ++ (D ++ blksOf post) := fun k hk => by
    rw [hb2] at hk
    rcases List.mem_append.1 hk with hk | hk
    · exact List.mem_append_left _ hk
    · exact List.mem_append_right _ (List.mem_append_right _ hk)
  refine ⟨h1, fun c hc => h2 c ?_, ?_, fun k hk => h4 k (sub k hk), fun f hf => ?_⟩
  · rcases List.mem_append.1 hc with hc | hc
    · exact List.mem_append_left _ hc
    · exact List.mem_append_right _ (List.mem_cons_of_mem _ hc)
  · rw [hb2]
    exact List.nodup_append.2 ⟨n1, n5, fun a ha b hb e => n3 a ha b (List.mem_append_right _ hb) e⟩
  · rcases List.mem_cons.1 hf with rfl | hf
    · have := h2 (D, p) (by simp)
      refine ⟨this.1, this.2, fun k hk => ⟨(h4 k (List.mem_append_right _ (List.mem_append_left _ hk))).2, fun hx => ?_⟩⟩
      rw [hb2] at hx
      rcases List.mem_append.1 hx with hx | hx
      · exact n3 k hx k (List.mem_append_left _ hk) rfl
      · exact n6 k hk k hx rfl
    · exact ⟨(h5 f hf).1, (h5 f hf).2.1, fun k hk => ⟨((h5 f hf).2.2 k hk).1, fun hx => ((h5 f hf).2.2 k hk).2 (sub k hx)⟩⟩
theorem ST.sub {fs' : List Ob} (h : ST w es fs wx) (hf : ∀ f ∈ fs', f ∈ fs) : ST w es fs' wx := ⟨h.1, h.2.1, h.2.2.1, h.2.2.2.1, fun f h' => h.2.2.2.2 f (hf f h')⟩
theorem ST.get (h : ST w es fs wx) {f : Ob} (hf : f ∈ fs) : f.2 wx := (h.2.2.2.2 f hf).1
theorem ST.ob (h : ST w es fs wx) {c : Ob} (hc : c ∈ es) : c.2 wx := (h.2.1 c hc).1
theorem ST.apart (h : ST w es fs wx) {f c : Ob} (hf : f ∈ fs) (hc : c ∈ es) {k : Nat} (hk : k ∈ f.1) : k ∉ c.1 := fun hx => ((h.2.2.2.2 f hf).2.2 k hk).2 (mem_blks hc hx)
theorem ST.lt (h : ST w es fs wx) {c : Ob} (hc : c ∈ es) {k : Nat} (hk : k ∈ c.1) : w.heap.size ≤ k ∧ k < wx.heap.size := h.2.2.2.1 k (mem_blks hc hk)
theorem ST.flt (h : ST w es fs wx) {f : Ob} (hf : f ∈ fs) {k : Nat} (hk : k ∈ f.1) : k < wx.heap.size := ((h.2.2.2.2 f hf).2.2 k hk).1
end

/-- Facts: a block known whole; a row of numbers. -/
def fBlk (b : Nat) (cs : Array Value) (T : TypeId) : Ob := ([b], Blk b cs T)
theorem blk_depL (b : Nat) (cs : Array Value) (T : TypeId) : DepL [b] (Blk b cs T) := fun w w' h k => (h b (by simp)).trans k
def rowD (ao : Option Addr) (len : Nat) : List Nat := if len = 0 then [] else match ao with | some a => [a.block] | none => []
def fRow (ao : Option Addr) (len : Nat) (Z : Nat → Int) : Ob := (rowD ao len, fun w => Row w ao len Z)
theorem row_depL (ao : Option Addr) (len : Nat) (Z : Nat → Int) : DepL (rowD ao len) (fun w => Row w ao len Z) := fun w w' h r => by
  rcases r with r | ⟨b, o, rfl, hc⟩
  · exact Or.inl r
  · by_cases h0 : len = 0
    · exact Or.inl h0
    · refine Or.inr ⟨b, o, rfl, fun i hi => (World.cell?_of_block (h b ?_)).trans (hc i hi)⟩
      unfold rowD
      rw [if_neg h0]
      simp
theorem off_of {U len : Nat} {ao : Option Addr} (h : U ∉ rowD ao len) : Off U len ao := fun hl a ha e => h (by unfold rowD; rw [if_neg (by omega), ha]; simp [e])
theorem rowD_off {U len : Nat} {ao : Option Addr} (h : Off U len ao) : U ∉ rowD ao len := fun hm => by
  unfold rowD at hm
  split at hm
  · exact absurd hm List.not_mem_nil
  · rename_i h0
    cases ao with
    | none => exact absurd hm List.not_mem_nil
    | some a => simp at hm; exact h (by omega) a rfl hm.symm
theorem rowD_lt {w : World} {ao : Option Addr} {len : Nat} {Z : Nat → Int} (h : Row w ao len Z) : ∀ k ∈ rowD ao len, k < w.heap.size := fun k hk => by
  rcases h with h | ⟨b, o, rfl, hc⟩
  · unfold rowD at hk; rw [if_pos h] at hk; exact absurd hk List.not_mem_nil
  · unfold rowD at hk
    split at hk
    · exact absurd hk List.not_mem_nil
    · simp at hk; subst hk; exact heap_gt (hc 0 (by omega))
section
variable {w wx w' : World} {es fs : List Ob}
theorem ST.row (h : ST w es fs wx) {ao : Option Addr} {len : Nat} {Z : Nat → Int} (hf : fRow ao len Z ∈ fs) : Row wx ao len Z := h.get hf
theorem ST.off (h : ST w es fs wx) {ao : Option Addr} {len : Nat} {Z : Nat → Int} (hf : fRow ao len Z ∈ fs) {c : Ob} (hc : c ∈ es) {U : Nat} (hU : U ∈ c.1) : Off U len ao := off_of fun hk => h.apart hf hc hk hU
theorem ST.cells (h : ST w es fs wx) {b : Nat} {x y z : Value} {T : TypeId} (hf : fBlk b #[x, y, z] T ∈ fs) : wx.cell? ⟨b, 0, none⟩ = some x ∧ wx.cell? ⟨b, 1, none⟩ = some y ∧ wx.cell? ⟨b, 2, none⟩ = some z := ⟨Blk.cell (h.get hf) 0, Blk.cell (h.get hf) 1, Blk.cell (h.get hf) 2⟩
/-- A new block, laid by an alloc. -/
theorem ST.box (h : ST w es fs wx) (cs : Array Value) (T : TypeId) : ST w es (fBlk wx.heap.size cs T :: fs) (wx.alloc (.cells cs T)) :=
  h.tell (Kp.of ((Grown.refl wx).alloc cs T)) (Blk.new wx cs T) (blk_depL _ _ _) (fun k hk => by simp at hk; subst hk; simp)
/-- A row that is told in new memory. -/
theorem ST.rowNew (h : ST w es fs wx) (k : Kp wx w') {ao : Option Addr} {len : Nat} {Z : Nat → Int} (r : Row w' ao len Z) (ho : ∀ U, U < wx.heap.size → Off U len ao) : ST w es (fRow ao len Z :: fs) w' :=
  h.tell k r (row_depL ao len Z) (fun i hi => ⟨by
    rcases Nat.lt_or_ge i wx.heap.size with hx | hx
    · exact absurd hi (rowD_off (ho i hx))
    · exact hx, rowD_lt r i hi⟩)
/-- A row that was there from the beginning. -/
theorem ST.rowOld (h : ST w es fs wx) {ao : Option Addr} {len : Nat} {Z : Nat → Int} (r : Row w ao len Z) : ST w es (fRow ao len Z :: fs) wx :=
  h.fact (r.kp h.1) (row_depL ao len Z) (fun i hi => ⟨Nat.lt_of_lt_of_le (rowD_lt r i hi) h.1.2.2.2, fun hk => by have := (h.2.2.2.1 i hk).1; have := rowD_lt r i hi; omega⟩)
end

/-! Matrices. -/
structure MV where
  R : Int
  C : Int
  ao : Option Addr
  len : Nat
  cap : Nat
  Z : Nat → Int
def MV.cells (x : MV) : Array Value := #[.int .i64 x.R, .int .i64 x.C, .slice x.ao x.len x.cap]
def MV.val (x : MV) : Value := .agg x.cells

end Go.Proofs.Ytpanfppnkgokdaa

/- append(out, x), as a step of a region that draws. -/
namespace Go.Proofs.Ytpanfppnkgokdaa
open Go.RowKit Go.Proofs.Wd
set_option linter.unusedVariables false
set_option linter.unusedSimpArgs false
set_option maxRecDepth 10000

def intL (n : Nat) (Z : Nat → Int) : List Value := (List.range n).map fun i => Value.int .i64 (Z i)
theorem intL_succ (n : Nat) (Z : Nat → Int) : intL n Z ++ [.int .i64 (Z n)] = intL (n + 1) Z := by
  unfold intL; rw [List.range_succ, List.map_append]; rfl
/-- append(out, x), as a step of a region that draws. -/
theorem step_append_one {ops : Array Oper} {o : Oper} {a : Act} {w : World} {K : Act → World → Prop} {Q : Exit → Act → World → Prop} {E : Prop} (hgd : o.guard = none) (s x : Operand) (ho : o.op = .call { callee := .builtin .append, args := #[s, x], argTypes := #[22, 22] })
    (base n : Nat) (v : Value) (Z : Nat → Int) (z : Int) (hz : Z n = z) (b : Nat) (hs : a.eval s = v) (hx : a.eval x = .slice (some ⟨b, 0, none⟩) 1 1) (hown : w.ownsRow base 3 1 v n (intL n Z)) (hc : w.cell? ⟨b, 0, none⟩ = some (.int .i64 z)) (hn : n ≤ 1000000) (hb : base ≤ w.heap.size)
    (h : ∀ v' w', Hid (w'.ownsRow base 3 1 v' (n + 1) (intL (n + 1) Z) ∧ w.grownBy w' v.ownBlock) → K (a.put o.dst v') w') : if Region.wanted o (yielded ops a.tmps) = true then Oper.wp Try.prog o a w K Q else E := by
  subst hz
  have hw : Region.wanted o (yielded ops a.tmps) = true := by simp [Region.wanted, hgd]
  rw [if_pos hw]
  obtain ⟨i0, hi, hz0, hz1, hz2⟩ := info_parts Try.infoInt
  obtain ⟨v', w', hrun, r1, r2, _⟩ := run_append_own (P := Try.prog) w base 22 o.type 3 i0 (.int .i64 0) 1 8 Try.underlying22 hi hz0 hz1 hz2 rfl (by decide) v n (intL n Z) hown ⟨b, 0, none⟩ 1 1 [.int .i64 (Z n)] rfl
    (fun j u hj => by
      match j, hj with
      | 0, hj => simp at hj; subst hj; rw [Go.WideShapes.add_plain]; exact hc) (one_cell _) (by unfold maxLen; omega) (by omega) hb
  rw [intL_succ] at r1
  unfold Oper.wp
  simp [execOp, ho, resolve, invoke, builtin, hs, hx, hrun, Result.andThen]
  exact h v' w' ⟨r1, r2⟩

end Go.Proofs.Ytpanfppnkgokdaa

/- append(out, x): where the list lies behind it: where it lay, or in a new block. -/
namespace Go.Proofs.Ytpanfppnkgokdaa
open Go.RowKit Go.Proofs.Wd
set_option linter.unusedVariables false
set_option linter.unusedSimpArgs false
set_option maxRecDepth 10000

theorem run_append_at (w : World) (ty : TypeId) (base n : Nat) (v : Value) (xs : List Value) (hown : w.ownsRow base 3 1 v n xs) (a : Addr) (m c : Nat) (news : List Value) (hl : news.length = m * 1) (hnews : ∀ j u, news[j]? = some u → w.cell? (a.add j) = some u) (h1 : ∀ u ∈ news, u.oneCell' = true)
    (hm : 1 ≤ m ∧ m ≤ 1000000) (hn : n ≤ 1000000) (hb : base ≤ w.heap.size) :
    ∃ v' w', (Builtin.append_ #[22, 22] ty #[v, .slice (some a) m c]).run Try.prog w = .ok v' w' ∧ w'.ownsRow base 3 1 v' (n + m) (xs ++ news) ∧ w.grownBy w' v.ownBlock ∧ (v'.ownBlock = v.ownBlock ∨ ∃ g, v'.ownBlock = some g ∧ w.heap.size ≤ g) := by
  obtain ⟨i0, hi, hz0, hz1, hz2⟩ := info_parts Try.infoInt
  have h63 : n + m ≤ maxLen := by unfold maxLen; omega
  have hby : (n + m) * 8 ≤ 140737488355328 := by omega
  obtain ⟨v', w', hr, r1, r2, _⟩ := run_append_own (P := Try.prog) w base 22 ty 3 i0 (.int .i64 0) 1 8 Try.underlying22 hi hz0 hz1 hz2 rfl (by decide) v n xs hown a m c news hl hnews h1 h63 hby hb
  refine ⟨v', w', hr, r1, r2, ?_⟩
  rcases hown.2 with ⟨rfl, rfl⟩ | ⟨g, cap, cur, rfl, hbg, hg, hnc, hcm, hcs, htake⟩
  · have hx : xs = [] := List.eq_nil_of_length_eq_zero (by simpa using hown.1)
    subst hx
    obtain ⟨v2, w2, hr2, q1, _, _⟩ := run_append_own (P := Try.prog) w w.heap.size 22 ty 3 i0 (.int .i64 0) 1 8 Try.underlying22 hi hz0 hz1 hz2 rfl (by decide) (.slice none 0 0) 0 [] (World.ownsRow_nil _ _ _ _) a m c news hl hnews h1 h63 hby (Nat.le_refl _)
    rw [hr] at hr2
    cases hr2
    rcases q1.2 with ⟨_, e⟩ | ⟨g, cap, cur, rfl, hbg, _⟩
    · omega
    · exact Or.inr ⟨g, rfl, hbg⟩
  · by_cases hroom : n + m ≤ cap
    · have hfit : n * i0.size + news.length ≤ cur.size := by rw [hl, hcs, hz1, ← Nat.add_mul]; exact Nat.mul_le_mul_right _ hroom
      have hr2 := run_append_room (P := Try.prog) w 22 ty 3 i0 Try.underlying22 hi g n cap cur hg a m c news (by rw [hz1]; exact hl) hnews h1 hroom hfit
      rw [hr] at hr2
      cases hr2
      exact Or.inl rfl
    · have holds : ∀ j u, xs[j]? = some u → w.cell? ((⟨g, 0, none⟩ : Addr).add j) = some u := hown.cells (g := g) rfl
      have hr2 := run_append_grow (P := Try.prog) w 22 ty 3 i0 (.int .i64 0) Try.underlying22 hi hz0 ⟨g, 0, none⟩ n cap xs (by rw [hz1]; exact hown.1) holds a m c news (by rw [hz1]; exact hl) hnews (by omega) (by omega) (growslice_fits (by omega) (by rw [hz2]; exact hby))
      rw [hr] at hr2
      cases hr2
      exact Or.inr ⟨_, rfl, Nat.le_refl _⟩
theorem wpList_append_at {ops : Array Oper} {rest : List Oper} {o : Oper} {a : Act} {w : World} {Q : Exit → Act → World → Prop} (hgd : o.guard = none) (s x : Operand) (ho : o.op = .call { callee := .builtin .append, args := #[s, x], argTypes := #[22, 22] })
    (base : Nat) (v : Value) (n : Nat) (xs : List Value) (hs : a.eval s = v) (hown : w.ownsRow base 3 1 v n xs)
    (ad : Addr) (m c : Nat) (news : List Value) (hx : a.eval x = .slice (some ad) m c) (hl : news.length = m * 1) (hnews : ∀ j u, news[j]? = some u → w.cell? (ad.add j) = some u) (h1 : ∀ u ∈ news, u.oneCell' = true)
    (hm : 1 ≤ m ∧ m ≤ 1000000) (hn : n ≤ 1000000) (hb : base ≤ w.heap.size)
    (h : ∀ v' w', w'.ownsRow base 3 1 v' (n + m) (xs ++ news) → w.grownBy w' v.ownBlock → (v'.ownBlock = v.ownBlock ∨ ∃ g, v'.ownBlock = some g ∧ w.heap.size ≤ g) → wpList Try.prog ops Q rest (a.put o.dst v') w') : wpList Try.prog ops Q (o :: rest) a w := by
  refine wpList_plain hgd fun _ hK => ?_
  obtain ⟨v', w', hr, h2, h3, h4⟩ := run_append_at w o.type base n v xs hown ad m c news hl hnews h1 hm hn hb
  unfold Oper.wp execOp
  simp only [ho, resolve, invoke, builtin, Sem.run_bind, Sem.run_pure, Result.andThen_ok, List.map_toArray, List.map_cons, List.map_nil, hs, hx, hr]
  exact hK _ _ (h v' w' h2 h3 h4)
theorem wp_append_at {o : Oper} {a : Act} {w : World} {K : Act → World → Prop} {Q : Exit → Act → World → Prop} (s x : Operand) (ho : o.op = .call { callee := .builtin .append, args := #[s, x], argTypes := #[22, 22] })
    (base : Nat) (v : Value) (n : Nat) (xs : List Value) (hs : a.eval s = v) (hown : w.ownsRow base 3 1 v n xs)
    (ad : Addr) (m c : Nat) (news : List Value) (hx : a.eval x = .slice (some ad) m c) (hl : news.length = m * 1) (hnews : ∀ j u, news[j]? = some u → w.cell? (ad.add j) = some u) (h1 : ∀ u ∈ news, u.oneCell' = true)
    (hm : 1 ≤ m ∧ m ≤ 1000000) (hn : n ≤ 1000000) (hb : base ≤ w.heap.size)
    (h : ∀ v' w', w'.ownsRow base 3 1 v' (n + m) (xs ++ news) → w.grownBy w' v.ownBlock → (v'.ownBlock = v.ownBlock ∨ ∃ g, v'.ownBlock = some g ∧ w.heap.size ≤ g) → K (a.put o.dst v') w') : Oper.wp Try.prog o a w K Q := by
  obtain ⟨v', w', hr, h2, h3, h4⟩ := run_append_at w o.type base n v xs hown ad m c news hl hnews h1 hm hn hb
  unfold Oper.wp execOp
  simp only [ho, resolve, invoke, builtin, Sem.run_bind, Sem.run_pure, Result.andThen_ok, List.map_toArray, List.map_cons, List.map_nil, hs, hx, hr]
  exact h v' w' h2 h3 h4

end Go.Proofs.Ytpanfppnkgokdaa

/- A range over a function whose iterator reckons between two rounds: it may change blocks of its own (St), and it is told, at each round that goes on, that it may ask once more (Pp). -/
namespace Go.Proofs.Ytpanfppnkgokdaa
open Go.RowKit Go.Shelf Go.Proofs.Wd
set_option linter.unusedVariables false
set_option linter.unusedSimpArgs false
set_option maxRecDepth 10000

/-- Cells outside D are as they were. -/
def KC (D : Nat → Prop) (W W' : World) : Prop := (∀ k cs t fr, ¬ D k → W.heap[k]? = some (.cells cs t fr) → W'.heap[k]? = some (.cells cs t fr)) ∧ W.heap.size ≤ W'.heap.size
theorem KC.refl (D : Nat → Prop) (W : World) : KC D W W := ⟨fun _ _ _ _ _ h => h, Nat.le_refl _⟩
theorem KC.trans {D : Nat → Prop} {A B C : World} (h : KC D A B) (k : KC D B C) : KC D A C := ⟨fun i cs t fr hi e => k.1 i cs t fr hi (h.1 i cs t fr hi e), Nat.le_trans h.2 k.2⟩
theorem KC.putObj {D : Nat → Prop} {W : World} {l : Nat} {o o' : Obj} (hl : W.heap[l]? = some o) (ho : o.isCells = false) : KC D W (W.putObj l o') := by
  refine ⟨fun k cs t fr _ h => (World.putObj_heap_other (fun e => ?_)).trans h, by simp⟩
  subst e
  rw [hl] at h
  cases h
  cases ho
theorem KC.blk {D : Nat → Prop} {W W' : World} {U : Nat} {cs : Array Value} {T : TypeId} (h : KC D W W') (hb : Blk U cs T W) (hU : ¬ D U) : Blk U cs T W' := h.1 U cs T (0, 0) hU hb
theorem KC.of {D : Nat → Prop} {W W' : World} (h : ∀ k, k < W.heap.size → ¬ D k → W'.heap[k]? = W.heap[k]?) (hs : W.heap.size ≤ W'.heap.size) : KC D W W' :=
  ⟨fun k cs t fr hk e => (h k (Array.getElem?_eq_some_iff.1 e).1 hk).trans e, hs⟩

/-- How the body of a round may be left. -/
def ownPostD {α : Type} (B : Nat) (D : Nat → Prop) (I : List α → World → Prop) (Ix : Code → List α → World → Prop) (xs : List α) (W : World) : Exit → Act → World → Prop
  | .normal, _, W' => KeepsFrom B W W' ∧ KC D W W' ∧ I xs W'
  | .ret, _, W' => KeepsFrom B W W' ∧ KC D W W' ∧ Ix .ret xs W'
  | .exit id, _, W' => KeepsFrom B W W' ∧ KC D W W' ∧ Ix (.exit id) xs W'
  | .goto t, _, W' => KeepsFrom B W W' ∧ KC D W W' ∧ Ix (.goto t) xs W'
  | .panic _, _, _ => False
  | .outgrown, _, _ => False

/-- What an iterator owes. -/
def SeqD {α : Type} (F : Fence) (n : Nat) (P : Program) (gf : Nat) (lb : Array Value) (encs : α → Array Value) (D : Nat → Prop) (St : World → World → Prop) (Px : List α → α → Prop) (Pp : List α → Prop) (S Sp : List α → World → Prop) (w : World) : Prop :=
  ∀ (l : Nat) (J Jx : List α → World → Prop) (W : World), w.grownBy W none → (∀ s A B, J s A → St A B → J s B) →
    (∀ pre x W1, J pre W1 → Px pre x → YieldAt F (n - 1) P l (encs x) W1 fun e W' =>
      KC D W1 W' ∧ ((e = .returned (.bool true) ∧ J (pre ++ [x]) W' ∧ Pp (pre ++ [x])) ∨ (e = .returned (.bool false) ∧ Jx (pre ++ [x]) W'))) →
    J [] W → CallsIn F n P gf (#[.func (.yield l) #[] #[]] ++ lb) W fun e W' => (∃ v, e = .returned v) ∧ ((∃ xs, S xs W' ∧ J xs W') ∨ (∃ pre, Sp pre W' ∧ Jx pre W'))

theorem range_own {F : Fence} {n : Nat} {P : Program} {α : Type} {g : Operand} {ps : Array Tmp} {assign body : Code} {Q : Exit → Act → World → Prop} {a : Act} {w : World}
    (hro : F.round = none) (h1 : 1 ≤ n) {gf : Nat} {lb : Array Value} (hg : a.eval g = .func (.func gf) #[] lb) (hFg : F.fn gf) (eg : ∀ args w, (callFunc gf args).run P w = .ok (.enter gf args) w)
    {encs : α → Array Value} (hps : ∀ x, (encs x).size = ps.size) {D : Nat → Prop} {St : World → World → Prop} {Px : List α → α → Prop} {Pp : List α → Prop} {S Sp : List α → World → Prop}
    (hSt : ∀ A B k o, St A B → w.heap.size ≤ k → A.heap[k]? = some o → o.isCells = false → B.heap[k]? = some o)
    (hseq : SeqD F (n - 1) P gf lb encs D St Px Pp S Sp w)
    (I : List α → World → Prop) (Ix : Code → List α → World → Prop) (hI : OwnFrom w.heap.size I) (hIx : ∀ c, OwnFrom w.heap.size (Ix c)) (hS : OwnFrom w.heap.size S) (hSp : OwnFrom w.heap.size Sp)
    (hIS : ∀ s A B, I s A → St A B → I s B) (hIp : ∀ s W, I s W → Pp s) (h0 : I [] w) (Ax : α → Act → World → Prop) (hAx : ∀ x a', OwnFrom w.heap.size (fun (_ : Unit) W => Ax x a' W))
    (hassign : ∀ (l : Nat) (pre : List α) (x : α) (W : World) (K : Act → World → Prop), I pre W → (∀ a' W', KeepsFrom w.heap.size W W' → KC D W W' → I pre W' → Ax x a' W' → K a' W') →
      assign.wpIn (F.inRound l) (n - 1 - 1) P (Exit.then K (fun _ _ _ => False)) { tmps := (ps.zip (encs x)).foldl (fun t (p, v) => t.setIfInBounds p v) a.tmps, defers := [] } W)
    (hbody : ∀ (l : Nat) (pre : List α) (x : α) (a' : Act) (W : World), I pre W → Ax x a' W → Px pre x → body.wpIn (F.inRound l) (n - 1 - 1) P (ownPostD w.heap.size D I Ix (pre ++ [x]) W) a' W)
    (hdone : ∀ (d : Nat) (xs : List α) (W : World), w.heap.size ≤ d → S xs W → I xs W → W.heap[d]? = some (.deferred (some [])) → Q .normal { a with defers := { target := .collected d, args := #[] } :: a.defers } W)
    (hstop : ∀ (d : Nat) (c : Code) (pre : List α) (W : World), w.heap.size ≤ d → Sp pre W → Ix c pre W → W.heap[d]? = some (.deferred (some [])) → c.wpIn F n P Q { a with defers := { target := .collected d, args := #[] } :: a.defers } W) :
    (Code.rangeFunc g ps assign body).wpIn F n P Q a w := by
  refine wpIn_rangeFunc fun fn hfn => ?_
  rw [hro]
  obtain ⟨d, hd⟩ : ∃ d, w.heap.size = d := ⟨_, rfl⟩
  obtain ⟨mk, hmk⟩ : ∃ mk : LoopState → Option Code → Loop, mk = fun st pe => { state := st, pending := pe, fn, tmps := a.tmps, params := ps, assign, body, defers := d } := ⟨_, rfl⟩
  have es : ∀ st st' pe, { mk st pe with state := st' } = mk st' pe := fun st st' pe => by rw [hmk]
  obtain ⟨wl, hwl⟩ : ∃ wl, (w.alloc (.deferred (some []))).alloc (.loop (mk .ready none)) = wl := ⟨_, rfl⟩
  have kl : wl.heap[d + 1]? = some (.loop (mk .ready none)) := by
    have := World.alloc_heap_new (w.alloc (.deferred (some []))) (.loop (mk .ready none))
    rwa [World.size_alloc, hd, hwl] at this
  have kd : wl.heap[d]? = some (.deferred (some [])) := by
    rw [← hwl, Below.heap_alloc _ _ _ (by simp; omega), ← hd]
    exact World.alloc_heap_new w _
  have i0 : I [] wl := by rw [← hwl]; exact hI.alloc _ (hI.alloc _ h0)
  have gl : w.grownBy wl none := by
    rw [← hwl]
    exact (World.grownBy_alloc w _ none).trans (World.grownBy_alloc _ _ none)
  rw [hd] at hSt hI hIx hS hSp hAx hassign hbody hdone hstop
  refine ⟨d + 1, [{ target := .collected d, args := #[] }], wl, { target := .fn (.func gf) lb, args := #[.func (.yield (d + 1)) #[] #[]] }, wl, gf, #[.func (.yield (d + 1)) #[] #[]] ++ lb, wl, ?_, ?_, ?_, ?_, fun _ => h1, ?_⟩
  · rw [← hwl, hmk, ← hd]; exact run_enterLoop_outer _ _ _ _ _
  · simp only [resolve, hg]
    simp [go_sem]
  · intro f' hf'; simp [Target.leads] at hf'; subst hf'; exact hFg
  · simp [invoke, go_sem, eg]
  · refine (hseq (d + 1)
      (fun pre W => I pre W ∧ W.heap[d + 1]? = some (.loop (mk .ready none)) ∧ W.heap[d]? = some (.deferred (some [])))
      (fun pre W => ∃ c, Ix c pre W ∧ W.heap[d + 1]? = some (.loop (mk .done (some c))) ∧ W.heap[d]? = some (.deferred (some [])))
      wl gl (fun s A B hs hst => ⟨hIS s A B hs.1 hst, hSt _ _ _ _ hst (by omega) hs.2.1 rfl, hSt _ _ _ _ hst (by omega) hs.2.2 rfl⟩) ?_ ⟨i0, kl, kd⟩).mono ?_
    · rintro pre x W ⟨hi, hl, hk⟩ hpx
      have hy := run_yield (P := P) (args := encs x) hl (by rw [hmk]; exact hps x)
      rw [hmk] at hy
      refine ⟨fn, _, assign, body, hy, roundIn_of_wpIn hfn (hassign _ pre x W _ hi fun a' Wa kf kc hia hax => ?_)⟩
      have hla := kf.same _ _ (by omega) hl rfl
      have hka := kf.same _ _ (by omega) hk rfl
      have lta := (Array.getElem?_eq_some_iff.1 hla).1
      refine ⟨_, run_beginRound hla (by rw [hmk]), ?_⟩
      rw [es]
      have hlb : (Wa.putObj (d + 1) (.loop (mk .busy none))).heap[d + 1]? = some (.loop (mk .busy none)) := World.putObj_heap_same lta
      have hkb : (Wa.putObj (d + 1) (.loop (mk .busy none))).heap[d]? = some (.deferred (some [])) := (World.putObj_heap_other (by omega)).trans hka
      have kcb : KC D W (Wa.putObj (d + 1) (.loop (mk .busy none))) := kc.trans (KC.putObj hla rfl)
      refine wpIn_mono (hbody _ pre x a' _ (hI.putObj _ hia (by omega) hla rfl) ((hAx x a').putObj (s := ()) _ hax (by omega) hla rfl) hpx) fun e a3 W3 hp => ?_
      have fin : ∀ (jump : Option Code), KeepsFrom d (Wa.putObj (d + 1) (.loop (mk .busy none))) W3 → KC D (Wa.putObj (d + 1) (.loop (mk .busy none))) W3 →
          ∃ W4, (Instr.endRound (d + 1) jump).run P W3 = .ok (.bool jump.isNone) W4 ∧ W4 = W3.putObj (d + 1) (.loop (mk (if jump.isNone then .ready else .done) jump)) ∧ W3.heap[d + 1]? = some (.loop (mk .busy none)) ∧
            W4.heap[d + 1]? = some (.loop (mk (if jump.isNone then .ready else .done) jump)) ∧ W4.heap[d]? = some (.deferred (some [])) ∧ KC D W W4 := fun jump k1 k2 => by
        have hl3 := k1.same _ _ (by omega) hlb rfl
        have hk3 := k1.same _ _ (by omega) hkb rfl
        have e := run_endRound (P := P) jump hl3
        have e2 : { mk .busy none with state := if jump.isNone then .ready else .done, pending := jump } = mk (if jump.isNone then .ready else .done) jump := by rw [hmk]
        rw [e2] at e
        exact ⟨_, e, rfl, hl3, World.putObj_heap_same (Array.getElem?_eq_some_iff.1 hl3).1, (World.putObj_heap_other (by omega)).trans hk3, (kcb.trans k2).trans (KC.putObj hl3 rfl)⟩
      cases e with
      | normal =>
        obtain ⟨k1, k2, k3⟩ := hp
        obtain ⟨W4, r1, rfl, r3, r4, r5, r6⟩ := fin none k1 k2
        have i4 := hI.putObj (.loop (mk .ready none)) k3 (by omega) r3 rfl
        exact ⟨_, _, r1, r6, .inl ⟨rfl, ⟨i4, r4, r5⟩, hIp _ _ i4⟩⟩
      | ret =>
        obtain ⟨k1, k2, k3⟩ := hp
        obtain ⟨W4, r1, rfl, r3, r4, r5, r6⟩ := fin (some .ret) k1 k2
        exact ⟨_, _, r1, r6, .inr ⟨rfl, .ret, (hIx _).putObj _ k3 (by omega) r3 rfl, r4, r5⟩⟩
      | exit id =>
        obtain ⟨k1, k2, k3⟩ := hp
        obtain ⟨W4, r1, rfl, r3, r4, r5, r6⟩ := fin (some (.exit id)) k1 k2
        exact ⟨_, _, r1, r6, .inr ⟨rfl, .exit id, (hIx _).putObj _ k3 (by omega) r3 rfl, r4, r5⟩⟩
      | goto t =>
        obtain ⟨k1, k2, k3⟩ := hp
        obtain ⟨W4, r1, rfl, r3, r4, r5, r6⟩ := fin (some (.goto t)) k1 k2
        exact ⟨_, _, r1, r6, .inr ⟨rfl, .goto t, (hIx _).putObj _ k3 (by omega) r3 rfl, r4, r5⟩⟩
      | panic ch => exact hp.elim
      | outgrown => exact hp.elim
    · rintro e W2 ⟨⟨v, rfl⟩, (⟨xs, hs, hi, hl, hk⟩ | ⟨pre, hs, c, hi, hl, hk⟩)⟩
      · have e := run_endLoop (P := P) hl (by rw [hmk]; simp)
        exact ⟨none, _, by rw [e, hmk], hdone d xs _ (Nat.le_refl _) (hS.putObj _ hs (by omega) hl rfl) (hI.putObj _ hi (by omega) hl rfl) ((World.putObj_heap_other (by omega)).trans hk)⟩
      · have e := run_endLoop (P := P) hl (by rw [hmk]; simp)
        exact ⟨some c, _, by rw [e, hmk], hstop d c pre _ (Nat.le_refl _) (hSp.putObj _ hs (by omega) hl rfl) ((hIx c).putObj _ hi (by omega) hl rfl) ((World.putObj_heap_other (by omega)).trans hk)⟩

end Go.Proofs.Ytpanfppnkgokdaa

/- Laws with two units under way. -/
namespace Go.Proofs.Ytpanfppnkgokdaa
open Go.RowKit Go.Shelf Go.Proofs.Wd
set_option linter.unusedVariables false
set_option linter.unusedSimpArgs false
set_option maxRecDepth 10000

section
variable {w : World} {U V : Nat} {cu cv : Array Value} {tu tv : TypeId} {bx : List (Nat × Array Value)} {rows : List (Option Addr × Nat × (Nat → Int))} {wx w' : World}
end

end Go.Proofs.Ytpanfppnkgokdaa

/- A region that draws its order and calls, makes and stores: by an invariant over what has come up. -/
namespace Go.Proofs.Ytpanfppnkgokdaa
open Go.RowKit Go.Shelf Go.Proofs.Wd
set_option linter.unusedVariables false
set_option linter.unusedSimpArgs false
set_option maxRecDepth 10000

/-- J n: it holds while n operations have not come up. -/
theorem wpAny_inv {P : Program} {ops : Array Oper} {Q : Exit → Act → World → Prop} {md : Region.Mode} (J : Nat → Array Bool → Act → World → Prop)
    (h0 : ∀ listed a w, J 0 listed a w → Region.ready md ops listed = [] ∧ Q .normal a w)
    (h1 : ∀ n listed a w, J (n + 1) listed a w → Region.ready md ops listed ≠ [] ∧ ∀ i ∈ Region.ready md ops listed, wpOp P ops Q i (J n (listed.setIfInBounds i true)) a w) :
    ∀ n listed a w, J n listed a w → wpAny P md ops Q n listed a w
  | 0, l, a, w, h => h0 l a w h
  | n + 1, l, a, w, h => ⟨fun hr => absurd hr (h1 n l a w h).1, fun i hi => wpOp_mono (fun a' w' h' => wpAny_inv J h0 h1 n _ a' w' h') ((h1 n l a w h).2 i hi)⟩

theorem ready_mem {md : Region.Mode} {ops : Array Oper} {listed : Array Bool} {i : Nat} (h : i ∈ Region.ready md ops listed) :
    i < ops.size ∧ listed.getD i true = false ∧ ∀ o, ops[i]? = some o → ∀ e ∈ o.after, Region.binds md e = true → listed.getD e.on false = true := by
  unfold Region.ready at h
  rw [List.mem_filter, List.mem_range] at h
  obtain ⟨h1, h2⟩ := h
  rw [Bool.and_eq_true] at h2
  refine ⟨h1, by simpa using h2.1, fun o ho e he hb => ?_⟩
  have h3 := h2.2
  rw [ho] at h3
  simp only [Option.map_some, Option.getD_some] at h3
  rw [Array.all_eq_true_iff_forall_mem] at h3
  have := h3 e he
  rw [hb] at this
  simpa using this

/-- Each operation waits for earlier ones alone. -/
def backs (ops : Array Oper) : Bool := (List.range ops.size).all fun i => ((ops[i]?).map (·.after.all fun e => decide (e.on < i))).getD true
theorem ready_ne {md : Region.Mode} {ops : Array Oper} {listed : Array Bool} (hb : backs ops = true) (hs : listed.size = ops.size) : ∀ (m i : Nat), i ≤ m → i < ops.size → listed.getD i true = false → Region.ready md ops listed ≠ [] := by
  intro m
  induction m with
  | zero =>
    intro i him hi hl
    obtain rfl : i = 0 := by omega
    intro hr
    have : 0 ∈ Region.ready md ops listed := by
      unfold Region.ready
      rw [List.mem_filter, List.mem_range]
      refine ⟨hi, ?_⟩
      rw [hl]
      have ho : ops[0]? = some ops[0] := by simp [hi]
      rw [ho]
      simp only [Option.map_some, Option.getD_some, Bool.not_false, Bool.true_and]
      unfold backs at hb
      rw [List.all_eq_true] at hb
      have h2 := hb 0 (List.mem_range.2 hi)
      rw [ho] at h2
      simp only [Option.map_some, Option.getD_some] at h2
      rw [Array.all_eq_true_iff_forall_mem] at h2 ⊢
      intro e he
      have := h2 e he
      simp at this
    rw [hr] at this
    exact absurd this List.not_mem_nil
  | succ m ih =>
    intro i him hi hl hr
    have ho : ops[i]? = some ops[i] := by simp [hi]
    have hbi : ∀ e ∈ ops[i].after, e.on < i := by
      unfold backs at hb
      rw [List.all_eq_true] at hb
      have h2 := hb i (List.mem_range.2 hi)
      rw [ho] at h2
      simp only [Option.map_some, Option.getD_some] at h2
      rw [Array.all_eq_true_iff_forall_mem] at h2
      intro e he
      simpa using h2 e he
    by_cases hall : ∀ e ∈ ops[i].after, listed.getD e.on false = true
    · have : i ∈ Region.ready md ops listed := by
        unfold Region.ready
        rw [List.mem_filter, List.mem_range]
        refine ⟨hi, ?_⟩
        rw [hl, ho]
        simp only [Option.map_some, Option.getD_some, Bool.not_false, Bool.true_and]
        rw [Array.all_eq_true_iff_forall_mem]
        intro e he
        rw [hall e he]
        simp
      rw [hr] at this
      exact absurd this List.not_mem_nil
    · have ⟨e, he⟩ := Classical.not_forall.1 hall
      have ⟨hm, hf⟩ := Classical.not_imp.1 he
      have hlt := hbi e hm
      have hsz : e.on < listed.size := by omega
      refine ih e.on (by omega) (by omega) ?_ hr
      have h1 : listed.getD e.on false = listed[e.on] := by simp [Array.getD, hsz]
      have h2 : listed.getD e.on true = listed[e.on] := by simp [Array.getD, hsz]
      rw [h1] at hf
      rw [h2]
      simpa using hf
/-- It waits for number k. -/
def waits (aft : Array Edge) (k : Nat) : Bool := aft.any fun e => Region.binds .any e && e.on == k
theorem ready_waits {ops : Array Oper} {listed : Array Bool} {i : Nat} (h : i ∈ Region.ready .any ops listed) {o : Oper} (ho : ops[i]? = some o) {k : Nat} (hk : waits o.after k = true) : listed.getD k false = true := by
  unfold waits at hk
  obtain ⟨e, he, hb⟩ := Array.any_eq_true'.1 hk
  rw [Bool.and_eq_true] at hb
  have := (ready_mem h).2.2 o ho e he hb.1
  rwa [eq_of_beq hb.2] at this

/-- All slots but those of D are as they were. -/
def Sl (D : List Nat) (a0 a : Act) : Prop := a.defers = a0.defers ∧ a.tmps.size = a0.tmps.size ∧ ∀ k, k ∉ D → a.tmps[k]? = a0.tmps[k]?
theorem Sl.refl (D : List Nat) (a : Act) : Sl D a a := ⟨rfl, rfl, fun _ _ => rfl⟩
theorem Sl.put {D : List Nat} {a0 a : Act} (h : Sl D a0 a) (d : Nat) (v : Value) (hd : d ∈ D) : Sl D a0 (a.put (some d) v) := by
  refine ⟨h.1, ?_, fun k hk => ?_⟩
  · show (a.tmps.setIfInBounds d v).size = _
    rw [Array.size_setIfInBounds, h.2.1]
  · show (a.tmps.setIfInBounds d v)[k]? = _
    rw [Array.getElem?_setIfInBounds_ne (fun e : d = k => hk (by rw [← e]; exact hd)), h.2.2 k hk]
theorem put_same {a : Act} {d : Nat} {v : Value} (h : d < a.tmps.size) : (a.put (some d) v).tmps[d]? = some v := by
  show (a.tmps.setIfInBounds d v)[d]? = _
  rw [Array.getElem?_setIfInBounds_self_of_lt h]
theorem put_ne {a : Act} {d k : Nat} {v : Value} (h : d ≠ k) : (a.put (some d) v).tmps[k]? = a.tmps[k]? := by
  show (a.tmps.setIfInBounds d v)[k]? = _
  rw [Array.getElem?_setIfInBounds_ne h]
theorem eval_tmp {a : Act} {k : Nat} {v : Value} (h : a.tmps[k]? = some v) : a.eval (.tmp k) = v := by
  show a.tmps.getD k undef = v
  rw [Array.getD_eq_getD_getElem?, h]; rfl

section
variable {ops : Array Oper} {Q : Exit → Act → World → Prop} {i d k : Nat} {K : Act → World → Prop} {a : Act} {w : World} {T : TypeId} {pos : String} {aft : Array Edge}
theorem wpOp_of {P : Program} {o : Oper} (hi : ops[i]? = some o) (hg : o.guard = none) (h : o.wp P a w K Q) : wpOp P ops Q i K a w := by
  unfold wpOp
  simp only [hi]
  rw [if_pos (by simp [Region.wanted, hg])]
  exact Or.inl h
end

end Go.Proofs.Ytpanfppnkgokdaa

/- A region that draws its order, whose last operation waits for all others: S need not hold behind that one. -/
namespace Go.Proofs.Ytpanfppnkgokdaa
open Go.RowKit Go.Shelf Go.Proofs.Wd
set_option linter.unusedVariables false
set_option linter.unusedSimpArgs false
set_option maxRecDepth 10000

section
variable {P : Program} {ops : Array Oper} {Q : Exit → Act → World → Prop} {md : Region.Mode} {S : World → Prop} {g : Nat}
/-- Whatever order is picked, S holds behind every operation but number g. -/
def wpAnyG (P : Program) (md : Region.Mode) (ops : Array Oper) (Q : Exit → Act → World → Prop) (S : World → Prop) (g : Nat) : Nat → Array Bool → Act → World → Prop
  | 0, listed, a, w => Region.ready md ops listed = [] ∧ Q .normal a w
  | fuel + 1, listed, a, w =>
    (Region.ready md ops listed = [] → Q .normal a w) ∧
    ∀ i ∈ Region.ready md ops listed, wpOp P ops Q i (fun a' w' => (i ≠ g → S w') ∧ wpAnyG P md ops Q S g fuel (listed.setIfInBounds i true) a' w') a w
theorem wpAny_of_G : ∀ (fuel : Nat) (listed : Array Bool) (a : Act) (w : World), wpAnyG P md ops Q S g fuel listed a w → wpAny P md ops Q fuel listed a w
  | 0, _, _, _, h => h
  | fuel + 1, _, _, _, h => ⟨h.1, fun i hi => wpOp_mono (fun a' w' h' => wpAny_of_G fuel _ a' w' h'.2) (h.2 i hi)⟩
/-- Number g waits for number i. -/
def waitsFor (md : Region.Mode) (ops : Array Oper) (g i : Nat) : Bool := ((ops[g]?).map (·.after.any fun e => Region.binds md e && e.on == i)).getD false
theorem waits_listed {listed : Array Bool} {i : Nat} (h : waitsFor md ops g i = true) (hg : g ∈ Region.ready md ops listed) : listed.getD i false = true := by
  unfold waitsFor at h
  cases ho : ops[g]? with
  | none => rw [ho] at h; cases h
  | some o =>
    rw [ho] at h
    simp only [Option.map_some, Option.getD_some] at h
    obtain ⟨e, he, hb⟩ := Array.any_eq_true'.1 h
    rw [Bool.and_eq_true] at hb
    have := (ready_mem hg).2.2 o ho e he hb.1
    rwa [eq_of_beq hb.2] at this
theorem G_first {i : Nat} {oi : Oper} {v : Value} (hi : ops[i]? = some oi) (hgi : waitsFor md ops g i = true) (hig : i ≠ g) (hsel : ∀ (j : Nat) (o : Oper) cs b, ops[j]? = some o → o.op ≠ .select cs b)
    (hQ : ∀ c a w, Q (.panic c) (a.put oi.dst v) w → Q (.panic c) a w) :
    ∀ (fuel : Nat) (listed : Array Bool) (a : Act) (w : World),
      (∀ j oj, ops[j]? = some oj → j ≠ i → listed.getD j true = false → (∀ e ∈ oj.after, Region.binds md e = true → e.on ≠ i) → oi.apart ops oj = true) →
      i ∈ Region.ready md ops listed → YieldsIf P ops S oi v a → S w →
      wpAnyG P md ops Q S g fuel (listed.setIfInBounds i true) (a.put oi.dst v) w → wpAnyG P md ops Q S g (fuel + 1) listed a w := by
  intro fuel
  induction fuel with
  | zero =>
    intro listed a w _ hr hy hS H
    refine ⟨fun h => (by rw [h] at hr; cases hr), fun j hj => ?_⟩
    by_cases hji : j = i
    · subst hji; exact hy.wpOp hi hS ⟨fun _ => hS, H⟩
    · have := ready_mono hj hji
      rw [H.1] at this
      cases this
  | succ fuel ih =>
    intro listed a w hfree hr hy hS H
    refine ⟨fun h => (by rw [h] at hr; cases hr), fun j hj => ?_⟩
    by_cases hji : j = i
    · subst hji; exact hy.wpOp hi hS ⟨fun _ => hS, H⟩
    · have hun := (ready_mem hr).2.1
      have hjg : j ≠ g := by
        intro e
        subst e
        have h1 := waits_listed hgi hj
        rcases Nat.lt_or_ge i listed.size with h' | h'
        · simp [Array.getD, h'] at hun h1
          rw [hun] at h1
          cases h1
        · simp [Array.getD, Nat.not_lt.2 h'] at h1
      have h1 := H.2 j (ready_mono hj hji)
      have hoj' := (ready_mem hj).1
      obtain ⟨oj, hoj⟩ : ∃ oj, ops[j]? = some oj := ⟨ops[j], by simp [hoj']⟩
      have hjun := (ready_mem hj).2.1
      have hnot : ∀ e ∈ oj.after, Region.binds md e = true → e.on ≠ i := fun e he hb heq => by
        have h1 := (ready_mem hj).2.2 oj hoj e he hb
        rw [heq] at h1
        rcases Nat.lt_or_ge i listed.size with h' | h'
        · simp [Array.getD, h'] at hun h1
          rw [hun] at h1
          cases h1
        · simp [Array.getD, Nat.not_lt.2 h'] at h1
      have h2 := wpOp_putIf hoj (hfree j oj hoj hji hjun hnot) (fun cs b => hsel i oi cs b hi) (fun cs b => hsel j oj cs b hoj) hQ hy h1
      have hfree' : ∀ k ok, ops[k]? = some ok → k ≠ i → (listed.setIfInBounds j true).getD k true = false →
          (∀ e ∈ ok.after, Region.binds md e = true → e.on ≠ i) → oi.apart ops ok = true := fun k ok hk hki hun hno => by
        refine hfree k ok hk hki ?_ hno
        by_cases hjk : j = k
        · subst hjk; exact hjun
        · rw [getD_set_ne true hjk] at hun; exact hun
      refine wpOp_mono (fun a' w' h3 => ⟨fun _ => h3.2.1 hjg, ih (listed.setIfInBounds j true) a' w' hfree' (ready_mono hr (Ne.symm hji)) h3.1 (h3.2.1 hjg) ?_⟩) h2
      rw [Array.setIfInBounds_comm _ _ hji]
      exact h3.2.2
/-- The beginning. -/
theorem region_G {id : Nat} {a : Act} {w : World} (S : World → Prop) (g : Nat) (hm : P.follows .mixedOrders = true) (hS : S w.drew)
    (h : S w.drew → wpAnyG P .any ops (NoPanic Q) S g ops.size (Array.replicate ops.size false) a w.drew) : (Code.region id ops true).wp P Q a w :=
  wp_region_noPanic (wp_region_any hm (wpAny_of_G _ _ _ _ (h hS)))
/-- One operation is taken first. -/
theorem take_G {i d : Nat} {oi : Oper} {v : Value} {fuel : Nat} {listed : Array Bool} {a : Act} {w : World} (hi : ops[i]? = some oi) (hd : oi.dst = some d) (hgi : waitsFor md ops g i = true) (hig : (i == g) = false)
    (hs : Region.noSelect ops = true) (hf : Region.free md ops listed i = true) (hr : (Region.ready md ops listed).contains i = true)
    (hy : YieldsIf P ops S oi v a) (hS : S w)
    (h : wpAnyG P md ops (NoPanic Q) S g fuel (listed.setIfInBounds i true) (a.put (some d) v) w) : wpAnyG P md ops (NoPanic Q) S g (fuel + 1) listed a w := by
  refine G_first hi hgi (by simpa using hig) (Region.noSelect_spec hs) (fun _ _ _ h => h) fuel listed a w (Region.free_spec hi hf) (by simpa using hr) hy hS ?_
  rw [hd]
  exact h
/-- The one that can come up comes up. -/
theorem one_G {i fuel : Nat} {listed : Array Bool} {a : Act} {w : World} (hr : Region.ready md ops listed = [i])
    (h : wpOp P ops (NoPanic Q) i (fun a' w' => (i ≠ g → S w') ∧ wpAnyG P md ops (NoPanic Q) S g fuel (listed.setIfInBounds i true) a' w') a w) : wpAnyG P md ops (NoPanic Q) S g (fuel + 1) listed a w :=
  ⟨fun h0 => by (rw [hr] at h0; cases h0), fun j hj => by rw [hr] at hj; cases List.mem_singleton.1 hj; exact h⟩
theorem step_G {i fuel : Nat} {listed : Array Bool} {a : Act} {w : World} (hr : Region.ready md ops listed = [i])
    (h : ∀ K : Act → World → Prop, (∀ a' w', (i ≠ g → S w') → wpAnyG P md ops (NoPanic Q) S g fuel (listed.setIfInBounds i true) a' w' → K a' w') → wpOp P ops (NoPanic Q) i K a w) : wpAnyG P md ops (NoPanic Q) S g (fuel + 1) listed a w :=
  one_G hr (h _ (fun a' w' h1 h2 => ⟨h1, h2⟩))
theorem done_G {fuel : Nat} {listed : Array Bool} {a : Act} {w : World} (hr : Region.ready md ops listed = []) (h : NoPanic Q .normal a w) : wpAnyG P md ops (NoPanic Q) S g fuel listed a w := by
  cases fuel with
  | zero => exact ⟨hr, h⟩
  | succ f => exact ⟨fun _ => h, fun j hj => by rw [hr] at hj; cases hj⟩
end

end Go.Proofs.Ytpanfppnkgokdaa

/- A region that draws its order, 'x, y := f(..), g(..)': what it reads stays, its calls make new memory, its boxes are made and filled. -/
namespace Go.Proofs.Ytpanfppnkgokdaa
open Go.RowKit Go.Shelf Go.Proofs.Wd
set_option linter.unusedVariables false
set_option linter.unusedSimpArgs false
set_option maxRecDepth 10000

/-- What an operation is: a value that is known ahead; a call; a box that is made; a box that is filled with what a call told. -/
inductive OpK where
  | pure (d : Nat) (v : Value)
  | call (d : Nat) (G : Value → World → Prop)
  | alloc (d : Nat) (cs : Array Value) (T : TypeId)
  | store (ia ic : Nat) (fl : Value → Array Value)
  | same (d j : Nat)
def OpK.dst : OpK → Option Nat
  | .pure d _ => some d
  | .call d _ => some d
  | .alloc d _ _ => some d
  | .store _ _ _ => none
  | .same d _ => some d
def OpK.val (vals : Nat → Value) (addr : Nat → Nat) (i : Nat) : OpK → Value
  | .pure _ v => v
  | .call _ _ => vals i
  | .alloc _ _ _ => .pointer (some ⟨addr i, 0, none⟩)
  | .store _ _ _ => undef
  | .same _ j => vals j
def OpK.isStore (ia : Nat) : OpK → Bool
  | .store i _ _ => i == ia
  | _ => false
/-- It hangs on these blocks alone. -/
def Dep (Bs : List Nat) (F : World → Prop) : Prop := ∀ w w' : World, (∀ k ∈ Bs, w'.heap[k]? = w.heap[k]?) → F w → F w'
def apartD (KL : List OpK) : Bool := (List.range KL.length).all fun i => (List.range KL.length).all fun j => i == j || ((KL[i]?).bind OpK.dst).isNone || ((KL[i]?).bind OpK.dst) != ((KL[j]?).bind OpK.dst)
def onlyStore (KL : List OpK) (ia i : Nat) : Bool := (List.range KL.length).all fun j => !(((KL[j]?).map (OpK.isStore ia)).getD false) || j == i
theorem len_of {α : Type} {l : List α} {i : Nat} {x : α} (h : l[i]? = some x) : i < l.length := (List.getElem?_eq_some_iff.1 h).1
theorem apartD_spec {KL : List OpK} (h : apartD KL = true) {i j : Nat} {k k' : OpK} {d : Nat} (hi : KL[i]? = some k) (hj : KL[j]? = some k') (di : k.dst = some d) (dj : k'.dst = some d) : i = j := by
  unfold apartD at h
  rw [List.all_eq_true] at h
  have h1 := h i (List.mem_range.2 (len_of hi))
  rw [List.all_eq_true] at h1
  have h2 := h1 j (List.mem_range.2 (len_of hj))
  rw [hi, hj] at h2
  simpa [di, dj] using h2
theorem onlyStore_spec {KL : List OpK} {ia i : Nat} (h : onlyStore KL ia i = true) {j ic : Nat} {fl : Value → Array Value} (hj : KL[j]? = some (.store ia ic fl)) : j = i := by
  unfold onlyStore at h
  rw [List.all_eq_true] at h
  have h1 := h j (List.mem_range.2 (len_of hj))
  rw [hj] at h1
  simpa [OpK.isStore] using h1

/-- What is known of the operations that one waits for. -/
def KnJ (a : Act) (w : World) : OpK → Prop
  | .pure d v => a.tmps[d]? = some v
  | .call d G => ∃ v, a.tmps[d]? = some v ∧ G v w
  | .alloc d _ _ => ∃ A, a.tmps[d]? = some (.pointer (some ⟨A, 0, none⟩))
  | .store _ _ _ => True
  | .same d _ => ∃ v, a.tmps[d]? = some v
def Kn (KL : List OpK) (aft : Array Edge) (a : Act) (w : World) : Prop := ∀ j k, waits aft j = true → KL[j]? = some k → KnJ a w k
theorem Kn.pure {KL : List OpK} {aft : Array Edge} {a : Act} {w : World} (h : Kn KL aft a w) (j : Nat) (d : Nat) (v : Value) (hw : waits aft j = true) (hk : KL[j]? = some (.pure d v)) : a.tmps[d]? = some v := h j _ hw hk
theorem Kn.call {KL : List OpK} {aft : Array Edge} {a : Act} {w : World} (h : Kn KL aft a w) (j : Nat) (d : Nat) (G : Value → World → Prop) (hw : waits aft j = true) (hk : KL[j]? = some (.call d G)) : ∃ v, a.tmps[d]? = some v ∧ G v w := h j _ hw hk

/-- What each operation must do. -/
def OpOK (ops : Array Oper) (Q : Exit → Act → World → Prop) (KL : List OpK) (a0 : Act) (S : World → Prop) (H : Nat) (i : Nat) (aft : Array Edge) : OpK → Prop
  | .pure d v => ∀ (a : Act) (w : World) (K : Act → World → Prop), Sl (KL.filterMap OpK.dst) a0 a → Kn KL aft a w → S w → K (a.put (some d) v) w → wpOp Try.prog ops Q i K a w
  | .call d G => ∀ (a : Act) (w : World) (K : Act → World → Prop), Sl (KL.filterMap OpK.dst) a0 a → Kn KL aft a w → S w → H ≤ w.heap.size → (∀ v w' Bs, Kp w w' → (∀ k ∈ Bs, w.heap.size ≤ k ∧ k < w'.heap.size) → Dep Bs (G v) → G v w' → K (a.put (some d) v) w') → wpOp Try.prog ops Q i K a w
  | .alloc d cs T => ∀ (a : Act) (w : World) (K : Act → World → Prop), K (a.put (some d) (.pointer (some ⟨w.heap.size, 0, none⟩))) (w.alloc (.cells cs T)) → wpOp Try.prog ops Q i K a w
  | .store ia ic fl => ∃ da cs T dc G, KL[ia]? = some (.alloc da cs T) ∧ KL[ic]? = some (.call dc G) ∧ waits aft ia = true ∧ waits aft ic = true ∧ onlyStore KL ia i = true ∧
      ∀ (a : Act) (w : World) (K : Act → World → Prop) A v, a.tmps[da]? = some (.pointer (some ⟨A, 0, none⟩)) → a.tmps[dc]? = some v → G v w → Blk A cs T w → (∀ w', Mk A w w' → Blk A (fl v) T w' → K a w') → wpOp Try.prog ops Q i K a w
  | .same d j => ∃ dj G, KL[j]? = some (.call dj G) ∧ waits aft j = true ∧ ∀ (a : Act) (w : World) (K : Act → World → Prop) v, a.tmps[dj]? = some v → K (a.put (some d) v) w → wpOp Try.prog ops Q i K a w

/-- What is known of an operation that has come up. -/
def Item (KL : List OpK) (listed : Array Bool) (vals : Nat → Value) (addr : Nat → Nat) (gs : Nat → List Nat) (H : Nat) (a : Act) (w : World) (i : Nat) : OpK → Prop
  | .pure d v => a.tmps[d]? = some v
  | .call d G => a.tmps[d]? = some (vals i) ∧ G (vals i) w ∧ Dep (gs i) (G (vals i)) ∧ ∀ k ∈ gs i, k < w.heap.size ∧ ∀ j d cs T, KL[j]? = some (.alloc d cs T) → listed.getD j false = true → addr j ≠ k
  | .alloc d cs T => a.tmps[d]? = some (.pointer (some ⟨addr i, 0, none⟩)) ∧ H ≤ addr i ∧ addr i < w.heap.size ∧ (∀ j d cs T, j ≠ i → KL[j]? = some (.alloc d cs T) → listed.getD j false = true → addr j ≠ addr i) ∧ ((∀ s ic fl, KL[s]? = some (.store i ic fl) → listed.getD s false = false) → Blk (addr i) cs T w)
  | .store ia ic fl => ∀ d cs T, KL[ia]? = some (.alloc d cs T) → listed.getD ia false = true ∧ listed.getD ic false = true ∧ Blk (addr ia) (fl (vals ic)) T w
  | .same d j => a.tmps[d]? = some (vals j) ∧ listed.getD j false = true
/-- What is known in the end. -/
def FinI (KL : List OpK) (vals : Nat → Value) (addr : Nat → Nat) (H : Nat) (w : World) (i : Nat) : OpK → Prop
  | .pure d v => True
  | .call d G => G (vals i) w
  | .alloc d cs T => H ≤ addr i ∧ addr i < w.heap.size
  | .store ia ic fl => ∀ d cs T, KL[ia]? = some (.alloc d cs T) → Blk (addr ia) (fl (vals ic)) T w
  | .same _ _ => True
def putsL (vals : Nat → Value) (addr : Nat → Nat) : Nat → List OpK → List (Nat × Value)
  | _, [] => []
  | i, k :: ks => match k.dst with
    | some d => (d, k.val vals addr i) :: putsL vals addr (i + 1) ks
    | none => putsL vals addr (i + 1) ks
theorem putsL_mem {vals : Nat → Value} {addr : Nat → Nat} : ∀ {i0 : Nat} {ks : List OpK} {p : Nat × Value}, p ∈ putsL vals addr i0 ks → ∃ (i : Nat) (k : OpK), ks[i]? = some k ∧ k.dst = some p.1 ∧ p.2 = k.val vals addr (i0 + i)
  | _, [], _, h => by cases h
  | i0, k :: ks, p, h => by
    unfold putsL at h
    cases hd : k.dst with
    | none =>
      rw [hd] at h
      obtain ⟨i, k', h1, h2, h3⟩ := putsL_mem h
      exact ⟨i + 1, k', by rw [List.getElem?_cons_succ]; exact h1, h2, by rw [h3, Nat.add_assoc, Nat.add_comm 1 i]⟩
    | some d =>
      rw [hd] at h
      rcases List.mem_cons.1 h with rfl | h
      · exact ⟨0, k, rfl, hd, rfl⟩
      · obtain ⟨i, k', h1, h2, h3⟩ := putsL_mem h
        exact ⟨i + 1, k', by rw [List.getElem?_cons_succ]; exact h1, h2, by rw [h3, Nat.add_assoc, Nat.add_comm 1 i]⟩
theorem putsL_fst {vals : Nat → Value} {addr : Nat → Nat} : ∀ (i0 : Nat) (ks : List OpK), (putsL vals addr i0 ks).map Prod.fst = ks.filterMap OpK.dst
  | _, [] => rfl
  | i0, k :: ks => by
    unfold putsL
    cases hd : k.dst with
    | none => simp [hd, putsL_fst (i0 + 1) ks]
    | some d => simp [hd, putsL_fst (i0 + 1) ks]
theorem fold_put : ∀ (l : List (Nat × Value)) (t : Array Value), (∀ p ∈ l, p.1 < t.size) → (∀ p ∈ l, ∀ q ∈ l, p.1 = q.1 → p.2 = q.2) → ∀ k, (l.foldl (fun t p => t.setIfInBounds p.1 p.2) t)[k]? = t[k]? ∧ k ∉ l.map Prod.fst ∨ ∃ p ∈ l, p.1 = k ∧ (l.foldl (fun t p => t.setIfInBounds p.1 p.2) t)[k]? = some p.2
  | [], t, _, _, k => Or.inl ⟨rfl, by simp⟩
  | p :: l, t, hs, hf, k => by
    rcases fold_put l (t.setIfInBounds p.1 p.2) (fun q hq => by rw [Array.size_setIfInBounds]; exact hs q (List.mem_cons_of_mem _ hq)) (fun q hq r hr => hf q (List.mem_cons_of_mem _ hq) r (List.mem_cons_of_mem _ hr)) k with ⟨h1, h2⟩ | ⟨q, hq, e, h⟩
    · by_cases hk : p.1 = k
      · refine Or.inr ⟨p, List.mem_cons_self, hk, ?_⟩
        show (l.foldl _ (t.setIfInBounds p.1 p.2))[k]? = _
        rw [h1, ← hk, Array.getElem?_setIfInBounds_self_of_lt (hs p List.mem_cons_self)]
      · refine Or.inl ⟨?_, ?_⟩
        · show (l.foldl _ (t.setIfInBounds p.1 p.2))[k]? = _
          rw [h1, Array.getElem?_setIfInBounds_ne hk]
        · simp only [List.map_cons, List.mem_cons, not_or]
          exact ⟨fun e => hk e.symm, h2⟩
    · exact Or.inr ⟨q, List.mem_cons_of_mem _ hq, e, h⟩

theorem count_set : ∀ (l : List Bool) (i : Nat), l[i]? = some false → (l.set i true).count false + 1 = l.count false
  | [], _, h => by simp at h
  | b :: l, 0, h => by
    simp at h
    subst h
    simp
  | b :: l, i + 1, h => by
    have ih := count_set l i (by simpa using h)
    cases b <;> simp [List.count_cons] <;> omega
theorem count_zero {l : List Bool} (h : l.count false = 0) {i : Nat} {b : Bool} (hi : l[i]? = some b) : b = true := by
  cases b with
  | true => rfl
  | false => exact absurd (List.mem_of_getElem? hi) (List.count_eq_zero.1 h)
theorem getD_ne {l : Array Bool} {i j : Nat} {b : Bool} (h : i ≠ j) : (l.setIfInBounds i true).getD j b = l.getD j b := by
  rw [Array.getD_eq_getD_getElem?, Array.getD_eq_getD_getElem?, Array.getElem?_setIfInBounds_ne h]

def JM (KL : List OpK) (a0 : Act) (S : World → Prop) (H : Nat) (n : Nat) (listed : Array Bool) (a : Act) (w : World) : Prop :=
  listed.size = KL.length ∧ n = listed.toList.count false ∧ Sl (KL.filterMap OpK.dst) a0 a ∧ S w ∧ H ≤ w.heap.size ∧ ∃ vals addr gs, ∀ i k, KL[i]? = some k → listed.getD i false = true → Item KL listed vals addr gs H a w i k

theorem mem_dst {KL : List OpK} {i d : Nat} {k : OpK} (h : KL[i]? = some k) (hd : k.dst = some d) : d ∈ KL.filterMap OpK.dst := List.mem_filterMap.2 ⟨k, List.mem_of_getElem? h, hd⟩
theorem Item.kn {KL : List OpK} {listed : Array Bool} {vals : Nat → Value} {addr : Nat → Nat} {gs : Nat → List Nat} {H : Nat} {a : Act} {w : World} {i : Nat} {k : OpK} (h : Item KL listed vals addr gs H a w i k) : KnJ a w k := by
  cases k with
  | pure d v => exact h
  | call d G => exact ⟨_, h.1, h.2.1⟩
  | alloc d cs T => exact ⟨_, h.1⟩
  | store ia ic fl => trivial
  | same d j => exact ⟨_, h.1⟩

/-- The world has grown: what is known of the others stays. -/
theorem Item.grow {KL : List OpK} {listed : Array Bool} {vals : Nat → Value} {addr : Nat → Nat} {gs : Nat → List Nat} {H : Nat} {a : Act} {w w' : World} {i j d : Nat} {k : OpK} {v : Value} {vals' : Nat → Value} {addr' : Nat → Nat} {gs' : Nat → List Nat} {ki : OpK} (hd : apartD KL = true)
    (hi : KL[i]? = some ki) (hdi : ki.dst = some d) (hl : listed.getD i true = false) (kk : Kp w w')
    (ev : ∀ x, x ≠ i → vals' x = vals x) (ea : ∀ x, x ≠ i → addr' x = addr x) (eg : ∀ x, x ≠ i → gs' x = gs x) (ei : ∀ d cs T, ki = .alloc d cs T → w.heap.size ≤ addr' i)
    (hj : KL[j]? = some k) (hji : j ≠ i) (hlj : listed.getD j false = true) (h : Item KL listed vals addr gs H a w j k) :
    Item KL (listed.setIfInBounds i true) vals' addr' gs' H (a.put (some d) v) w' j k := by
  have ne : ∀ d', k.dst = some d' → d ≠ d' := fun d' e e' => hji (apartD_spec hd hj hi e (by rw [hdi, e']))
  have li : listed.getD i false = false := by
    cases hx : listed.getD i false with
    | false => rfl
    | true =>
      rw [Array.getD_eq_getD_getElem?] at hx hl
      cases he : listed[i]? with
      | none => rw [he] at hx; cases hx
      | some b => rw [he] at hx hl; simp at hx hl; rw [hx] at hl; cases hl
  cases k with
  | pure d' v' => exact (put_ne (ne d' rfl)).trans h
  | call d' G =>
    obtain ⟨h1, h2, h3, h4⟩ := h
    show _ ∧ _ ∧ _ ∧ _
    rw [ev j hji, eg j hji]
    refine ⟨(put_ne (ne d' rfl)).trans h1, h3 w w' (fun x hx => kk.2.2.1 x (h4 x hx).1) h2, h3, fun x hx => ⟨Nat.lt_of_lt_of_le (h4 x hx).1 kk.2.2.2, fun m d1 cs T hm hml => ?_⟩⟩
    by_cases hmi : m = i
    · subst hmi
      rw [hi] at hm
      have := ei d1 cs T (Option.some.inj hm)
      have := (h4 x hx).1
      omega
    · rw [ea m hmi]
      exact (h4 x hx).2 m d1 cs T hm (by rwa [getD_ne (Ne.symm hmi)] at hml)
  | alloc d' cs T =>
    obtain ⟨h1, h2, h3, h4, h5⟩ := h
    show _ ∧ _ ∧ _ ∧ _ ∧ _
    rw [ea j hji]
    refine ⟨(put_ne (ne d' rfl)).trans h1, h2, Nat.lt_of_lt_of_le h3 kk.2.2.2, fun m d1 cs1 T1 hmj hm hml => ?_, fun hs => Blk.kp (h5 fun s ic fl hs1 => ?_) kk⟩
    · by_cases hmi : m = i
      · subst hmi
        rw [hi] at hm
        have := ei d1 cs1 T1 (Option.some.inj hm)
        omega
      · rw [ea m hmi]
        exact h4 m d1 cs1 T1 hmj hm (by rwa [getD_ne (Ne.symm hmi)] at hml)
    · by_cases hsi : s = i
      · subst hsi; exact li
      · have := hs s ic fl hs1
        rwa [getD_ne (Ne.symm hsi)] at this
  | store ia ic fl =>
    intro d1 cs T ha
    obtain ⟨h1, h2, h3⟩ := h d1 cs T ha
    have na : ia ≠ i := fun e => by rw [e, li] at h1; cases h1
    have nc : ic ≠ i := fun e => by rw [e, li] at h2; cases h2
    rw [getD_ne (Ne.symm na), getD_ne (Ne.symm nc), ea ia na, ev ic nc]
    exact ⟨h1, h2, Blk.kp h3 kk⟩
  | same d' m =>
    obtain ⟨h1, h2⟩ := h
    have nm : m ≠ i := fun e => by rw [e, li] at h2; cases h2
    show _ ∧ _
    rw [ev m nm, getD_ne (Ne.symm nm)]
    exact ⟨(put_ne (ne d' rfl)).trans h1, h2⟩

/-- A fresh block is filled: what is known of the others stays. -/
theorem Item.fill {KL : List OpK} {listed : Array Bool} {vals : Nat → Value} {addr : Nat → Nat} {gs : Nat → List Nat} {H : Nat} {a : Act} {w w' : World} {i j ia ic : Nat} {fl : Value → Array Value} {k : OpK}
    (hi : KL[i]? = some (.store ia ic fl)) (ho : onlyStore KL ia i = true) {da : Nat} {cs : Array Value} {T : TypeId} (hia : KL[ia]? = some (.alloc da cs T)) (hla : listed.getD ia false = true) (hisz : i < listed.size) (kk : Mk (addr ia) w w')
    (hst : ∀ (j ia' ic' : Nat) (fl' : Value → Array Value), KL[j]? = some (OpK.store ia' ic' fl') → ∃ (da : Nat) (cs : Array Value) (T : TypeId), KL[ia']? = some (OpK.alloc da cs T)) (hA : Item KL listed vals addr gs H a w ia (.alloc da cs T))
    (hj : KL[j]? = some k) (hji : j ≠ i) (h : Item KL listed vals addr gs H a w j k) :
    Item KL (listed.setIfInBounds i true) vals addr gs H a w' j k := by
  have nia : ∀ m d1 cs1 T1, KL[m]? = some (.alloc d1 cs1 T1) → i ≠ m := fun m d1 cs1 T1 hm e => by rw [← e, hi] at hm; cases hm
  cases k with
  | pure d' v' => exact h
  | call d' G =>
    obtain ⟨h1, h2, h3, h4⟩ := h
    refine ⟨h1, h3 w w' (fun x hx => kk.2.2.1 x (h4 x hx).1 (Ne.symm ((h4 x hx).2 ia _ _ _ hia hla))) h2, h3, fun x hx => ⟨Nat.lt_of_lt_of_le (h4 x hx).1 kk.2.2.2, fun m d1 cs T hm hml => ?_⟩⟩
    exact (h4 x hx).2 m d1 cs T hm (by rwa [getD_ne (nia _ _ _ _ hm)] at hml)
  | alloc d' cs' T' =>
    obtain ⟨h1, h2, h3, h4, h5⟩ := h
    refine ⟨h1, h2, Nat.lt_of_lt_of_le h3 kk.2.2.2, fun m d1 cs1 T1 hmj hm hml => h4 m d1 cs1 T1 hmj hm (by rwa [getD_ne (nia _ _ _ _ hm)] at hml), fun hs => ?_⟩
    by_cases hja : j = ia
    · subst hja
      have := hs i ic fl hi
      rw [Array.getD_eq_getD_getElem?, Array.getElem?_setIfInBounds_self_of_lt hisz] at this
      cases this
    · refine Blk.mk (h5 fun s ic' fl' hs1 => ?_) kk (fun e => h4 ia _ _ _ (Ne.symm hja) hia hla e.symm)
      have := hs s ic' fl' hs1
      by_cases hsi : s = i
      · subst hsi
        rw [hi] at hs1
        cases hs1
        exact absurd rfl hja
      · rwa [getD_ne (Ne.symm hsi)] at this
  | store ia' ic' fl' =>
    intro d1 cs1 T1 ha
    obtain ⟨h1, h2, h3⟩ := h d1 cs1 T1 ha
    have na : ia' ≠ ia := fun e => by
      subst e
      exact hji (onlyStore_spec ho hj)
    refine ⟨by rwa [getD_ne (nia _ _ _ _ ha)], ?_, Blk.mk h3 kk (hA.2.2.2.1 ia' _ _ _ na ha h1)⟩
    by_cases hc : i = ic'
    · subst hc
      rw [Array.getD_eq_getD_getElem?, Array.getElem?_setIfInBounds_self_of_lt hisz]
      rfl
    · rwa [getD_ne hc]
  | same d' m =>
    obtain ⟨h1, h2⟩ := h
    refine ⟨h1, ?_⟩
    by_cases hc : i = m
    · subst hc
      rw [Array.getD_eq_getD_getElem?, Array.getElem?_setIfInBounds_self_of_lt hisz]
      rfl
    · rwa [getD_ne hc]

theorem getD_false {l : Array Bool} {i : Nat} (h : l.getD i true = false) : i < l.size ∧ l[i]? = some false := by
  rw [Array.getD_eq_getD_getElem?] at h
  cases he : l[i]? with
  | none => rw [he] at h; cases h
  | some b =>
    rw [he] at h
    simp at h
    subst h
    exact ⟨(Array.getElem?_eq_some_iff.1 he).1, rfl⟩
theorem listed_cases {l : Array Bool} {i j : Nat} (h : (l.setIfInBounds i true).getD j false = true) : j = i ∨ l.getD j false = true := by
  by_cases hj : i = j
  · exact Or.inl hj.symm
  · rw [getD_ne hj] at h
    exact Or.inr h

set_option maxHeartbeats 1000000 in
theorem regM {ops : Array Oper} {Q : Exit → Act → World → Prop} {id : Nat} {a0 : Act} {w : World} (KL : List OpK) (S : World → Prop)
    (hm : Try.prog.follows .mixedOrders = true) (hs : ops.size = KL.length) (hbk : backs ops = true) (hd : apartD KL = true) (hz : ∀ d ∈ KL.filterMap OpK.dst, d < a0.tmps.size)
    (hst : ∀ (j ia' ic' : Nat) (fl' : Value → Array Value), KL[j]? = some (OpK.store ia' ic' fl') → ∃ (da : Nat) (cs : Array Value) (T : TypeId), KL[ia']? = some (OpK.alloc da cs T))
    (hop : ∀ i o k, ops[i]? = some o → KL[i]? = some k → OpOK ops Q KL a0 S w.heap.size i o.after k)
    (hS : S w.drew) (hSk : ∀ a b, Kp a b → S a → S b) (hSm : ∀ A a b, w.heap.size ≤ A → Mk A a b → S a → S b)
    (fin : ∀ (vals : Nat → Value) (addr : Nat → Nat) (w' : World), S w' → w.heap.size ≤ w'.heap.size → (∀ i k, KL[i]? = some k → FinI KL vals addr w.heap.size w' i k) →
      Q .normal ⟨(putsL vals addr 0 KL).foldl (fun t p => t.setIfInBounds p.1 p.2) a0.tmps, a0.defers⟩ w') :
    (Code.region id ops true).wp Try.prog Q a0 w := by
  refine wp_region_any hm ?_
  refine wpAny_inv (JM KL a0 S w.heap.size) ?_ ?_ ops.size _ _ _ ?_
  · rintro listed a w1 ⟨j1, j2, sl, hx, hH, vals, addr, gs, it⟩
    have all : ∀ i k, KL[i]? = some k → listed.getD i false = true := fun i k hk => by
      have hi : i < listed.size := by rw [j1]; exact len_of hk
      have e : listed.toList[i]? = some listed[i] := by simp [hi]
      rw [Array.getD_eq_getD_getElem?, Array.getElem?_eq_getElem hi]
      exact count_zero j2.symm e
    refine ⟨?_, ?_⟩
    · apply List.eq_nil_iff_forall_not_mem.2
      intro i hi
      obtain ⟨h1, h2, _⟩ := ready_mem hi
      obtain ⟨hi', h3⟩ := getD_false h2
      have h4 := all i KL[i] (by rw [List.getElem?_eq_getElem])
      rw [Array.getD_eq_getD_getElem?, h3] at h4
      cases h4
    · have ea : a = ⟨(putsL vals addr 0 KL).foldl (fun t p => t.setIfInBounds p.1 p.2) a0.tmps, a0.defers⟩ := by
        obtain ⟨t, df⟩ := a
        obtain ⟨s1, s2, s3⟩ := sl
        have ed : df = a0.defers := s1
        subst ed
        congr 1
        apply Array.ext_getElem?
        intro x
        rcases fold_put (putsL vals addr 0 KL) a0.tmps (fun p hp => hz _ (by rw [← putsL_fst (vals := vals) (addr := addr) 0 KL]; exact List.mem_map_of_mem hp)) (fun p hp q hq e => by
          obtain ⟨i, k, h1, h2, h3⟩ := putsL_mem hp
          obtain ⟨i', k', h1', h2', h3'⟩ := putsL_mem hq
          obtain rfl := apartD_spec hd h1 h1' h2 (by rw [h2', e])
          rw [h1] at h1'
          cases h1'
          rw [h3, h3']) x with ⟨h1, h2⟩ | ⟨p, hp, rfl, h⟩
        · rw [h1]
          rw [putsL_fst] at h2
          exact s3 x h2
        · rw [h]
          obtain ⟨i, k, h1, h2, h3⟩ := putsL_mem hp
          have I := it i k h1 (all i k h1)
          rw [h3, Nat.zero_add]
          cases k with
          | pure d v => cases h2; exact I
          | call d G => cases h2; exact I.1
          | alloc d cs T => cases h2; exact I.1
          | store ia ic fl => cases h2
          | same d j => cases h2; exact I.1
      rw [ea]
      refine fin vals addr w1 hx hH fun i k hk => ?_
      have I := it i k hk (all i k hk)
      cases k with
      | pure d v => trivial
      | call d G => exact I.2.1
      | alloc d cs T => exact ⟨I.2.1, I.2.2.1⟩
      | store ia ic fl => exact fun d cs T ha => (I d cs T ha).2.2
      | same d j => trivial
  · rintro n listed a w1 ⟨j1, j2, sl, hx, hH, vals, addr, gs, it⟩
    refine ⟨?_, fun i hi => ?_⟩
    · have : ∃ i : Nat, listed.toList[i]? = some false := by
        have : false ∈ listed.toList := List.count_pos_iff.1 (by omega)
        exact List.mem_iff_getElem?.1 this
      obtain ⟨i, hi⟩ := this
      have hi' : listed[i]? = some false := by simpa using hi
      have hlt := (Array.getElem?_eq_some_iff.1 hi').1
      exact ready_ne hbk (by rw [hs, j1]) i i (Nat.le_refl _) (by omega) (by rw [Array.getD_eq_getD_getElem?, hi']; rfl)
    · obtain ⟨hi1, hl, hwt⟩ := ready_mem hi
      obtain ⟨hisz, hlf⟩ := getD_false hl
      obtain ⟨o, ho⟩ : ∃ o, ops[i]? = some o := ⟨ops[i], by simp [hi1]⟩
      obtain ⟨k, hk⟩ : ∃ k, KL[i]? = some k := ⟨KL[i], by rw [List.getElem?_eq_getElem]⟩
      have hok := hop i o k ho hk
      have kn : Kn KL o.after a w1 := fun j kj hw hkj => (it j kj hkj (ready_waits hi ho hw)).kn
      have hcount : n = (listed.setIfInBounds i true).toList.count false := by
        have := count_set listed.toList i (by simpa using hlf)
        rw [Array.toList_setIfInBounds]
        omega
      have hsz' : (listed.setIfInBounds i true).size = KL.length := by rw [Array.size_setIfInBounds, j1]
      have lnot : ∀ j, listed.getD j false = true → j ≠ i := fun j hj e => by
        subst e
        rw [Array.getD_eq_getD_getElem?, hlf] at hj
        cases hj
      cases k with
      | pure d v =>
        refine hok a w1 _ sl kn hx ⟨hsz', hcount, sl.put _ _ (mem_dst hk rfl), hx, hH, vals, addr, gs, fun j kj hkj hlj => ?_⟩
        by_cases hji : j = i
        · subst hji
          rw [hk] at hkj
          cases hkj
          exact put_same (by rw [sl.2.1]; exact hz _ (mem_dst hk rfl))
        · have hlj' := (listed_cases hlj).resolve_left hji
          exact (it j kj hkj hlj').grow hd hk rfl hl (Kp.refl _) (fun _ _ => rfl) (fun _ _ => rfl) (fun _ _ => rfl) (fun _ _ _ e => by cases e) hkj hji hlj'
      | call d G =>
        refine hok a w1 _ sl kn hx hH fun v w2 Bs kk hB hdep hG => ⟨hsz', hcount, sl.put _ _ (mem_dst hk rfl), hSk _ _ kk hx, Nat.le_trans hH kk.2.2.2, fun x => if x = i then v else vals x, addr, fun x => if x = i then Bs else gs x, fun j kj hkj hlj => ?_⟩
        by_cases hji : j = i
        · subst hji
          rw [hk] at hkj
          cases hkj
          show _ ∧ _ ∧ _ ∧ _
          simp only [if_pos]
          refine ⟨put_same (by rw [sl.2.1]; exact hz _ (mem_dst hk rfl)), hG, hdep, fun x hx => ⟨(hB x hx).2, fun m d1 cs T hm hml => ?_⟩⟩
          have hmi : m ≠ j := fun e => by subst e; rw [hk] at hm; cases hm
          have hml' := (listed_cases hml).resolve_left hmi
          have := (it m _ hm hml').2.2.1
          have := (hB x hx).1
          omega
        · have hlj' := (listed_cases hlj).resolve_left hji
          exact (it j kj hkj hlj').grow hd hk rfl hl kk (fun x hx => if_neg hx) (fun _ _ => rfl) (fun x hx => if_neg hx) (fun _ _ _ e => by cases e) hkj hji hlj'
      | alloc d cs T =>
        have kk : Kp w1 (w1.alloc (.cells cs T)) := (Kp.refl _).alloc _ _
        refine hok a w1 _ ⟨hsz', hcount, sl.put _ _ (mem_dst hk rfl), hSk _ _ kk hx, Nat.le_trans hH kk.2.2.2, vals, fun x => if x = i then w1.heap.size else addr x, gs, fun j kj hkj hlj => ?_⟩
        by_cases hji : j = i
        · subst hji
          rw [hk] at hkj
          cases hkj
          show _ ∧ _ ∧ _ ∧ _ ∧ _
          simp only [if_pos]
          refine ⟨put_same (by rw [sl.2.1]; exact hz _ (mem_dst hk rfl)), hH, by simp, fun m d1 cs1 T1 hmj hm hml => ?_, fun _ => Blk.new w1 _ _⟩
          rw [if_neg hmj]
          have := (it m _ hm ((listed_cases hml).resolve_left hmj)).2.2.1
          omega
        · have hlj' := (listed_cases hlj).resolve_left hji
          exact (it j kj hkj hlj').grow hd hk rfl hl kk (fun _ _ => rfl) (fun x hx => if_neg hx) (fun _ _ => rfl) (fun _ _ _ e => by rw [if_pos rfl]; exact Nat.le_refl _) hkj hji hlj'
      | store ia ic fl =>
        obtain ⟨da, cs, T, dc, G, h1, h2, w1', w2', h5, h6⟩ := hok
        have la := ready_waits hi ho w1'
        have lc := ready_waits hi ho w2'
        have Ia := it ia _ h1 la
        have Ic := it ic _ h2 lc
        refine h6 a w1 _ (addr ia) (vals ic) Ia.1 Ic.1 Ic.2.1 (Ia.2.2.2.2 fun s ic' fl' hs1 => ?_) fun w2 mk bl => ⟨hsz', hcount, sl, hSm _ _ _ Ia.2.1 mk hx, Nat.le_trans hH mk.2.2.2, vals, addr, gs, fun j kj hkj hlj => ?_⟩
        · obtain rfl := onlyStore_spec h5 hs1
          rw [Array.getD_eq_getD_getElem?, hlf]; rfl
        · by_cases hji : j = i
          · subst hji
            rw [hk] at hkj
            cases hkj
            intro d1 cs1 T1 ha
            rw [h1] at ha
            cases ha
            exact ⟨by rw [getD_ne (Ne.symm (lnot _ la))]; exact la, by rw [getD_ne (Ne.symm (lnot _ lc))]; exact lc, bl⟩
          · have hlj' := (listed_cases hlj).resolve_left hji
            exact Item.fill hk h5 h1 la hisz mk hst Ia hkj hji (it j kj hkj hlj')
      | same d m =>
        obtain ⟨dm, G, h1, w1', h6⟩ := hok
        have lm := ready_waits hi ho w1'
        have Im := it m _ h1 lm
        refine h6 a w1 _ (vals m) Im.1 ⟨hsz', hcount, sl.put _ _ (mem_dst hk rfl), hx, hH, vals, addr, gs, fun j kj hkj hlj => ?_⟩
        by_cases hji : j = i
        · subst hji
          rw [hk] at hkj
          cases hkj
          exact ⟨put_same (by rw [sl.2.1]; exact hz _ (mem_dst hk rfl)), by rw [getD_ne (Ne.symm (lnot _ lm))]; exact lm⟩
        · have hlj' := (listed_cases hlj).resolve_left hji
          exact (it j kj hkj hlj').grow hd hk rfl hl (Kp.refl _) (fun _ _ => rfl) (fun _ _ => rfl) (fun _ _ => rfl) (fun _ _ _ e => by cases e) hkj hji hlj'
  · refine ⟨by rw [Array.size_replicate, hs], by simp, Sl.refl _ _, hS, Nat.le_refl _, fun _ => undef, fun _ => 0, fun _ => [], fun i k hk hl => ?_⟩
    rw [Array.getD_eq_getD_getElem?] at hl
    by_cases hi : i < ops.size
    · simp [hi] at hl
    · simp [hi] at hl

end Go.Proofs.Ytpanfppnkgokdaa

/- OverInts over what a call made; a law's state beside it. -/
namespace Go.Proofs.Ytpanfppnkgokdaa
open Go.RowKit Go.Shelf Go.Proofs.Wd
set_option linter.unusedVariables false
set_option linter.unusedSimpArgs false
set_option maxRecDepth 10000

theorem Own.set {B len : Nat} {Z : Nat → Int} {w : World} (h : Own B len Z w) (k : Nat) (v : Int) : Own B len (fun i => if i = k then v else Z i) (w.setCell ⟨B, k, none⟩ (.int .i64 v)) := by
  obtain ⟨cur, h1, h2⟩ := h
  refine ⟨_, Blk.set h1 k _, fun i hi => ?_⟩
  have e := h2 i hi
  have hs := (Array.getElem?_eq_some_iff.1 e).1
  rw [Array.getElem?_setIfInBounds]
  by_cases hk : k = i
  · rw [if_pos hk, if_pos (by omega)]
    show _ = some (Value.int .i64 (if i = k then v else Z i))
    rw [if_pos hk.symm]
  · rw [if_neg hk, e]
    show _ = some (Value.int .i64 (if i = k then v else Z i))
    rw [if_neg (fun e => hk e.symm)]
def OvJ (B : Nat) (ao : Option Addr) (len : Nat) (w wr : World) : Prop := Mod B w wr ∧ (len = 0 ∨ (ao = some ⟨B, 0, none⟩ ∧ ∃ Y, Own B len Y wr))
set_option maxHeartbeats 1000000 in
theorem kitOverI (B : Nat) (ao : Option Addr) (len cap : Nat) (X : Nat → Int) (hl : len ≤ 1000000) (w : World) (hA : len = 0 ∨ (ao = some ⟨B, 0, none⟩ ∧ Own B len X w)) :
    Calls Try.prog 21 #[.slice ao len cap] w fun e w' => e = .returned (.tuple #[]) ∧ Mod B w w' := by
  have HA := hide hA
  clear hA
  go_enter Try.func21, Try.ntmps21
  go_wp2
  go_loopw [2] (fun i wr => ∃ k : Nat, k ≤ len ∧ i = .int .i64 k ∧ Hid (OvJ B ao len w wr)) (fun i _ => len - (intOf i).toNat)
  case atStart => exact ⟨0, Nat.zero_le _, rfl, Mod.refl _ _, (unhide HA).imp id fun h => ⟨h.1, X, h.2⟩⟩
  case round =>
    obtain ⟨k, hk, rfl, HI⟩ := hrel
    by_cases hlt : k < len
    · obtain ⟨i1, i2⟩ := unhide HI
      rcases i2 with i2 | ⟨e1, Y, i2⟩
      · omega
      · subst e1
        have hc : wr.cell? ⟨B, k, none⟩ = some (.int .i64 (Y k)) := by obtain ⟨cur, b1, b2⟩ := i2; rw [Blk.cell b1, b2 k hlt]
        have hfz : wr.frozen? ⟨B, k, none⟩ = false := by obtain ⟨cur, b1, b2⟩ := i2; exact Blk.free b1 k
        have R : Hid (OvJ B (some ⟨B, 0, none⟩) len w (wr.setCell ⟨B, k, none⟩ (.int .i64 (-77)))) :=
          ⟨i1.setCell _ _, Or.inr ⟨rfl, _, Own.set i2 k _⟩⟩
        clear i1 i2 HI HA
        go_wp2
        go_roundw
        case rel => exact ⟨k + 1, by omega, by go_num, R⟩
        case measure => simp [intOf]; omega
    · obtain rfl : len = k := by omega
      go_wp2
      exact bodyPost_end (v := .tuple #[]) (by simp [results, Try.results21, go_sem]) rfl ⟨rfl, (unhide HI).1⟩

/-- A block that is none of the boxes, and holds no list. -/
def OffR (b : Nat) (bx : List (Nat × Array Value)) (rows : List (Option Addr × Nat × (Nat → Int))) : Prop := (∀ x ∈ bx, x.1 ≠ b) ∧ (∀ r ∈ rows, Off b r.2.1 r.1)
section
variable {w : World} {E : List Nat} {bx : List (Nat × Array Value)} {rows : List (Option Addr × Nat × (Nat → Int))} {wx w' : World} {b : Nat}
theorem Mk.fresh (m : Mk wx.heap.size wx w') : Kp wx w' := ⟨m.1, m.2.1, fun k hk => m.2.2.1 k hk (by omega), m.2.2.2⟩
end

end Go.Proofs.Ytpanfppnkgokdaa

/- 'x, y := CopyMat(..), ..': the kinds of operations that such regions hold (RegM), and what stays beside them. -/
namespace Go.Proofs.Ytpanfppnkgokdaa
open Go.RowKit Go.Shelf Go.Proofs.Wd
set_option linter.unusedVariables false
set_option linter.unusedSimpArgs false
set_option maxRecDepth 10000

def aggOf : Value → Array Value
  | .agg cs => cs
  | _ => #[]
/-- A matrix that was made; it lies beside all below H. -/
def GM (r c : Int) (n : Nat) (Z : Nat → Int) (H : Nat) (v : Value) (w : World) : Prop := ∃ ao cap, v = .agg #[.int .i64 r, .int .i64 c, .slice ao n cap] ∧ n ≤ cap ∧ Row w ao n Z ∧ ∀ U, U < H → Off U n ao
/-- A list that was made. -/
def GI (n : Nat) (Z : Nat → Int) (H : Nat) (v : Value) (w : World) : Prop := ∃ ao cap, v = .slice ao n cap ∧ n ≤ cap ∧ Row w ao n Z ∧ ∀ U, U < H → Off U n ao
theorem row_dep {ao : Option Addr} {n : Nat} {Z : Nat → Int} {w w' : World} (row : Row w' ao n Z) (off : ∀ U, U < w.heap.size → Off U n ao) : ∃ Bs : List Nat, (∀ k ∈ Bs, w.heap.size ≤ k ∧ k < w'.heap.size) ∧ Dep Bs (fun wx => Row wx ao n Z) := by
  by_cases hn : n = 0
  · exact ⟨[], fun _ h => absurd h List.not_mem_nil, fun _ _ _ _ => Or.inl hn⟩
  · rcases row with h0 | ⟨b, o, rfl, hc⟩
    · exact absurd h0 hn
    · refine ⟨[b], fun k hk => ?_, fun w1 w2 he h => ?_⟩
      · rcases List.mem_singleton.1 hk with rfl
        refine ⟨Nat.le_of_not_lt fun hlt => off k hlt (by omega) _ rfl rfl, heap_gt (hc 0 (by omega))⟩
      · rcases h with h0 | ⟨b', o', e, hc'⟩
        · exact absurd h0 hn
        · cases e
          exact Or.inr ⟨b, o, rfl, fun i hi => (World.cell?_of_block (he b (by simp))).trans (hc' i hi)⟩
theorem copyM_dep {r c : Int} {n H : Nat} {Z : Nat → Int} {w w' : World} {e : Ending} (h : CopyM r c n Z w e w') (hH : H ≤ w.heap.size) : ∃ v Bs, e = .returned v ∧ Kp w w' ∧ (∀ k ∈ Bs, w.heap.size ≤ k ∧ k < w'.heap.size) ∧ Dep Bs (GM r c n Z H v) ∧ GM r c n Z H v w' := by
  obtain ⟨ao, cap, rfl, hc, row, off, kp⟩ := h
  obtain ⟨Bs, h1, h2⟩ := row_dep row off
  refine ⟨_, Bs, rfl, kp, h1, fun w1 w2 he hg => ?_, ao, cap, rfl, hc, row, fun U hU => off U (by omega)⟩
  obtain ⟨ao', cap', e, h3, h4, h5⟩ := hg
  cases e
  exact ⟨ao, cap, rfl, h3, h2 w1 w2 he h4, h5⟩
theorem copyQ_dep {n H : Nat} {Z : Nat → Int} {w w' : World} {e : Ending} (h : CopyQ n Z w e w') (hH : H ≤ w.heap.size) : ∃ v Bs, e = .returned v ∧ Kp w w' ∧ (∀ k ∈ Bs, w.heap.size ≤ k ∧ k < w'.heap.size) ∧ Dep Bs (GI n Z H v) ∧ GI n Z H v w' := by
  obtain ⟨ao, cap, rfl, hc, row, off, kp⟩ := h
  obtain ⟨Bs, h1, h2⟩ := row_dep row off
  refine ⟨_, Bs, rfl, kp, h1, fun w1 w2 he hg => ?_, ao, cap, rfl, hc, row, fun U hU => off U (by omega)⟩
  obtain ⟨ao', cap', e, h3, h4, h5⟩ := hg
  cases e
  exact ⟨ao, cap, rfl, h3, h2 w1 w2 he h4, h5⟩

section
variable {ops : Array Oper} {Q : Exit → Act → World → Prop} {KL : List OpK} {a0 : Act} {S : World → Prop} {H i d k j : Nat} {T : TypeId} {pos : String} {aft : Array Edge}
theorem okMove {v : Value} (hi : ops[i]? = some ⟨some d, .move (.tmp k), T, pos, aft, none⟩) (hk : (KL.filterMap OpK.dst).contains k = false) (g : a0.tmps[k]? = some v) : OpOK ops Q KL a0 S H i aft (.pure d v) := by
  intro a w K sl kn hs h
  refine wpOp_of hi rfl ?_
  have ev := (sl.2.2 k (by simpa using hk)).trans g
  unfold Oper.wp
  simp [go_sem, ev]
  exact h
theorem okCall1 {f dj : Nat} {vj : Value} {T1 : TypeId} {G : Value → World → Prop} (hi : ops[i]? = some ⟨some d, .call ⟨.value (.func f), #[.tmp dj], #[T1]⟩, T, pos, aft, none⟩) (hj : KL[j]? = some (.pure dj vj)) (hw : waits aft j = true) (hf : ∀ w, Sem.run Try.prog (callFunc f #[vj]) w = .ok (.enter f #[vj]) w)
    (hc : ∀ w, S w → H ≤ w.heap.size → Calls Try.prog f #[vj] w fun e w' => ∃ v Bs, e = .returned v ∧ Kp w w' ∧ (∀ k ∈ Bs, w.heap.size ≤ k ∧ k < w'.heap.size) ∧ Dep Bs (G v) ∧ G v w') : OpOK ops Q KL a0 S H i aft (.call d G) := by
  intro a w K sl kn hs hH h
  refine wpOp_of hi rfl ?_
  have ev := kn.pure j dj vj hw hj
  unfold Oper.wp
  simp [go_sem, ev, hf]
  refine (hc w hs hH).mono ?_
  rintro e w' ⟨v, Bs, rfl, h1, h2, h3, h4⟩
  exact h v w' Bs h1 h2 h3 h4
theorem okSame {dj : Nat} {G : Value → World → Prop} (hi : ops[i]? = some ⟨some d, .assign (.tmp dj), T, pos, aft, none⟩) (hj : KL[j]? = some (.call dj G)) (hw : waits aft j = true) : OpOK ops Q KL a0 S H i aft (.same d j) := by
  refine ⟨_, _, hj, hw, fun a w K v hv h => ?_⟩
  refine wpOp_of hi rfl ?_
  unfold Oper.wp
  simp [go_sem, hv]
  exact h
end

/-- Each operation of a region, one behind the other. -/
def OpsOK (ops : Array Oper) (Q : Exit → Act → World → Prop) (KL : List OpK) (a0 : Act) (S : World → Prop) (H : Nat) : Nat → List Oper → List OpK → Prop
  | _, [], _ => True
  | _, _ :: _, [] => False
  | i, o :: os, k :: ks => OpOK ops Q KL a0 S H i o.after k ∧ OpsOK ops Q KL a0 S H (i + 1) os ks
theorem OpsOK.hop {ops : Array Oper} {Q : Exit → Act → World → Prop} {KL : List OpK} {a0 : Act} {S : World → Prop} {H : Nat} : ∀ {i0 : Nat} {os : List Oper} {ks : List OpK}, OpsOK ops Q KL a0 S H i0 os ks → ∀ (i : Nat) (o : Oper) (k : OpK), os[i]? = some o → ks[i]? = some k → OpOK ops Q KL a0 S H (i0 + i) o.after k
  | _, [], _, _, i, o, k, ho, _ => by simp at ho
  | _, _ :: _, [], h, _, _, _, _, _ => h.elim
  | i0, o' :: os, k' :: ks, h, 0, o, k, ho, hk => by
    simp at ho hk
    subst ho hk
    exact h.1
  | i0, o' :: os, k' :: ks, h, i + 1, o, k, ho, hk => by
    have := OpsOK.hop h.2 i o k (by simpa using ho) (by simpa using hk)
    rwa [show i0 + (i + 1) = i0 + 1 + i from by omega]
theorem regN {ops : Array Oper} {Q : Exit → Act → World → Prop} {id : Nat} {a0 : Act} {w : World} (KL : List OpK) (S : World → Prop)
    (hm : Try.prog.follows .mixedOrders = true) (hs : ops.size = KL.length) (hbk : backs ops = true) (hd : apartD KL = true) (hz : (KL.filterMap OpK.dst).all (fun d => decide (d < a0.tmps.size)) = true)
    (hst : KL.all (fun k => match k with | .store ia _ _ => (match KL[ia]? with | some (.alloc _ _ _) => true | _ => false) | _ => true) = true)
    (hop : OpsOK ops Q KL a0 S w.heap.size 0 ops.toList KL)
    (hS : S w.drew) (hSk : ∀ a b, Kp a b → S a → S b) (hSm : ∀ A a b, w.heap.size ≤ A → Mk A a b → S a → S b)
    (fin : ∀ (vals : Nat → Value) (addr : Nat → Nat) (w' : World), S w' → w.heap.size ≤ w'.heap.size → (∀ i k, KL[i]? = some k → FinI KL vals addr w.heap.size w' i k) →
      Q .normal ⟨(putsL vals addr 0 KL).foldl (fun t p => t.setIfInBounds p.1 p.2) a0.tmps, a0.defers⟩ w') :
    (Code.region id ops true).wp Try.prog Q a0 w := by
  refine regM KL S hm hs hbk hd (fun d hd => by simpa using List.all_eq_true.1 hz d hd) (fun j ia ic fl hj => ?_) (fun i o k ho hk => ?_) hS hSk hSm fin
  · have h := List.all_eq_true.1 hst _ (List.mem_of_getElem? hj)
    simp only at h
    cases hk : KL[ia]? with
    | none => rw [hk] at h; cases h
    | some k =>
      rw [hk] at h
      cases k with
      | alloc d cs T => exact ⟨d, cs, T, rfl⟩
      | pure _ _ => cases h
      | call _ _ => cases h
      | store _ _ _ => cases h
      | same _ _ => cases h
  · have := hop.hop i o k (by simpa using ho) hk
    rwa [Nat.zero_add] at this

section
variable {w0 a b : World} {E : List Nat} {bx : List (Nat × Array Value)} {rows : List (Option Addr × Nat × (Nat → Int))} {X : World → Prop} {H A : Nat}
end

end Go.Proofs.Ytpanfppnkgokdaa
