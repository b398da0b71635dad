/- VecA VecB VecC VecD MatF MatG MatH MatI RoundR MatJ MatL MatM AppA MatN MatO, one after another. -/
import Derived.Test.YtopaakjildmjcaaGreatVecRow
import Derived.Test.YtopaakjildmjcaaGreatVecMath
import Derived.Test.YtopaakjildmjcaaGreatUnitN
import Derived.Deep.RegionLaw
import Derived.Test.YtopaakjildmjcaaGreatMatE
import Derived.Deep.RegionHeld3
import Derived.Deep.DrawnRows
import Derived.Test.YtopaakjildmjcaaGreatMatB
import Derived.OrdersIn
import Derived.OrdersHeld
import Derived.Test.YtopaakjildmjcaaGreatKitA
import Derived.Lib.SliceRun
import Derived.Test.YtopaakjildmjcaaGreatMkA
/- Package vec: refuse, two and its func, both, reckon. -/
namespace Go.Proofs.YtopaakjildmjcaaGreat
open Go.RowKit Go.Proofs.Wd
set_option linter.unusedVariables false
set_option linter.unusedSimpArgs false
set_option maxRecDepth 10000

/-- A unit as a pointer; an operation of it as a method value. -/
def ptr (U : Nat) : Value := .pointer (some ⟨U, 0, none⟩)

end Go.Proofs.YtopaakjildmjcaaGreat

/- Package vec: both, over a func that two made, and over a method value. -/
namespace Go.Proofs.YtopaakjildmjcaaGreat
open Go.RowKit Go.Proofs.Wd
set_option linter.unusedVariables false
set_option linter.unusedSimpArgs false
set_option maxRecDepth 10000

end Go.Proofs.YtopaakjildmjcaaGreat

/- Package vec: reckon, Sum, Less, Dot, of a unit that New made, and of none. -/
namespace Go.Proofs.YtopaakjildmjcaaGreat
open Go.RowKit Go.Proofs.Wd
set_option linter.unusedVariables false
set_option linter.unusedSimpArgs false
set_option maxRecDepth 10000

/-- A list that a call tells: new memory, and no error. -/
def VP (U len : Nat) (Z : Nat → Int) (c : Bool) (n : Int) (w : World) (e : Ending) (w' : World) : Prop :=
  ∃ L, w.heap.size ≤ L ∧ e = .returned (.tuple #[.slice (some ⟨L, 0, none⟩) len len, .int .i64 0]) ∧ Blk L (ints len Z) 3 w' ∧ UC U c n w' ∧ Mod U w w'
theorem VP.from {U len : Nat} {Z : Nat → Int} {c : Bool} {n : Int} {w w1 : World} {e : Ending} {w' : World} (h : VP U len Z c n w1 e w') (m : Mod U w w1) : VP U len Z c n w e w' := by
  obtain ⟨L, h1, h2, h3, h4, h5⟩ := h
  exact ⟨L, Nat.le_trans m.2.2.2.2 h1, h2, h3, h4, m.trans h5⟩

theorem addTwo (U : Nat) (a b : Int) (c : Bool) (n : Int) (ao : Option Addr) (cap : Nat) (w : World) (ha : I64 a) (hb : I64 b) (hn : 0 ≤ n ∧ n < 2305843009213693952) (h : UC U c n w) (hr : Row w ao 2 (pairZ a b)) (ho : Off U 2 ao) :
    Calls Tryz.prog 66 #[.pointer (some ⟨U, 0, none⟩), .slice ao 2 cap] w fun e w' => e = .returned (.int .i64 (s2N a b)) ∧ UC U (c || s2C a b) (n + 2) w' ∧ Mod U w w' := by
  have := unitAdd U c n ao 2 cap (pairZ a b) hn (by omega) (pairZ_I64 ha hb) w h hr ho
  rw [s2N_th, s2C_th] at this
  exact this
theorem mulTwo (U : Nat) (a b : Int) (c : Bool) (n : Int) (ao : Option Addr) (cap : Nat) (w : World) (ha : I64 a) (hb : I64 b) (hn : 0 ≤ n ∧ n < 2305843009213693952) (h : UC U c n w) (hr : Row w ao 2 (pairZ a b)) (ho : Off U 2 ao) :
    Calls Tryz.prog 63 #[.pointer (some ⟨U, 0, none⟩), .slice ao 2 cap] w fun e w' => e = .returned (.int .i64 (m2N a b)) ∧ UC U (c || m2C a b) (n + 2) w' ∧ Mod U w w' := by
  have := unitMul U c n ao 2 cap (pairZ a b) hn (by omega) (pairZ_I64 ha hb) w h hr ho
  rw [m2N_th, m2C_th] at this
  exact this

end Go.Proofs.YtopaakjildmjcaaGreat

/- Package slices: Repeat, of one number; package vec: Scale, Most. -/
namespace Go.Proofs.YtopaakjildmjcaaGreat
open Go.RowKit Go.Proofs.Wd
set_option linter.unusedVariables false
set_option linter.unusedSimpArgs false
set_option maxRecDepth 10000

set_option maxHeartbeats 1000000 in
theorem bitsMul (x y : Int) (hx : U64 x) (hy : U64 y) (w : World) :
    Calls Tryz.prog 102 #[.int .u64 x, .int .u64 y] w fun e w' => e = .returned (.tuple #[.int .u64 (x * y / 18446744073709551616), .int .u64 (x * y % 18446744073709551616)]) ∧ w' = w := by
  have M := hide (mul64 x y hx hy w)
  generalize x * y / 18446744073709551616 = h at *
  generalize x * y % 18446744073709551616 = l at *
  clear hx hy
  go_enter Tryz.func102, Tryz.ntmps102
  go_wp2_with fail
  refine (unhide M).mono ?_
  rintro e w1 ⟨rfl, rfl⟩
  go_wp2
  go_ret2
  exact ⟨rfl, rfl⟩

/-- The first k are s, what is behind them 0. -/
def fst0 (s : Int) (k : Nat) (i : Nat) : Int := if i < k then s else 0
theorem splice_fst (n k m : Nat) (s : Int) (h : k + m ≤ n) : splice (ints n (fst0 s k)).toList k (List.replicate m (Value.int .i64 s)) = (ints n (fst0 s (k + m))).toList := by
  apply List.ext_getElem?
  intro i
  have E : ∀ (Z : Nat → Int), (ints n Z).toList[i]? = (ints n Z)[i]? := fun Z => by simp
  rw [E]
  unfold splice
  have l1 : ((ints n (fst0 s k)).toList.take k).length = k := by simp [ints_size]; omega
  by_cases h1 : i < k
  · rw [List.getElem?_append_left (by omega), List.getElem?_take, if_pos h1, E, ints_at n _ i (by omega), ints_at n _ i (by omega)]
    unfold fst0
    rw [if_pos h1, if_pos (by omega)]
  · rw [List.getElem?_append_right (by omega), l1]
    by_cases h2 : i < k + m
    · rw [List.getElem?_append_left (by simp; omega), ints_at n _ i (by omega), List.getElem?_replicate, if_pos (by omega)]
      unfold fst0
      rw [if_pos (by omega)]
    · rw [List.getElem?_append_right (by simp; omega), List.getElem?_drop]
      simp only [List.length_replicate]
      rw [show k + m + (i - k - m) = i by omega, E]
      by_cases h3 : i < n
      · rw [ints_at n _ i h3, ints_at n _ i h3]
        unfold fst0
        rw [if_neg h1, if_neg h2]
      · rw [ints_none n _ i h3, ints_none n _ i h3]

theorem slice_from (g len cap k : Nat) (h : k < cap) (hl : k ≤ len) (w : World) : (Instr.sliceAt 22 (.slice (some ⟨g, 0, none⟩) len cap) (some (.int .i64 k)) none none).run Tryz.prog w = .ok (.slice (some ⟨g, k, none⟩) (len - k) (cap - k)) w := by
  have e : Tryz.prog.underlying 22 = some (.slice (Tryz.prog.elem 22)) := by kernel_rfl
  have s1 : (sizeOf (Tryz.prog.elem 22)).run Tryz.prog w = .ok 1 w := by kernel_rfl
  rw [run_sliceAt_slice w 22 _ _ _ _ e, run_slice_l w 22 _ len cap e .i64 k (by omega) (by omega), s1]
  show Result.ok (sliced _ (k : Int).toNat len cap 1) w = _
  unfold sliced
  rw [Int.toNat_natCast, if_neg (by omega)]
  show Result.ok (Value.slice (some ((⟨g, 0, none⟩ : Addr).add (k * 1))) _ _) w = _
  rw [Go.WideShapes.add_plain, Nat.zero_add, Nat.mul_one]

theorem infoSize : (Tryz.prog.info? 3).map (·.size) = some 1 := by kernel_rfl
/-- Cells of one block, copied behind the first k of it. -/
theorem run_copy_ints (w : World) (ty : TypeId) (g N k m dLen dCap sLen sCap xb : Nat) (s : Int) (hb : Blk g (ints N (fst0 s k)) 3 w) (hm : m = Nat.min sLen dLen) (hk : k + m ≤ N) (hx : ∀ j, j < m → w.cell? ⟨xb, j, none⟩ = some (.int .i64 s)) :
    ∃ w', (Builtin.copy_ #[22, 22] ty #[.slice (some ⟨g, k, none⟩) dLen dCap, .slice (some ⟨xb, 0, none⟩) sLen sCap]).run Tryz.prog w = .ok (.int .i64 m) w' ∧ Blk g (ints N (fst0 s (k + m))) 3 w' ∧ Mod g w w' := by
  have hl : (List.replicate m (Value.int .i64 s)).length = m := List.length_replicate
  have := run_copy_row (P := Tryz.prog) w 22 22 ty 3 g k dLen dCap ⟨xb, 0, none⟩ sLen sCap (ints N (fst0 s k)) 3 (List.replicate m (.int .i64 s)) Tryz.underlying22 infoSize hb (by rw [hl]; exact hm)
    (fun j v hv => by
      rw [List.getElem?_replicate] at hv
      split at hv
      · next hj =>
        cases hv
        rw [Go.WideShapes.add_plain, Nat.zero_add]
        exact hx j hj
      · simp at hv)
    (by rw [hl, ints_size]; exact hk) (fun v hv => by rw [List.eq_of_mem_replicate hv]; rfl)
  rw [hl] at this
  refine ⟨_, this, ?_, Mod.setRow _ _ _⟩
  have e := splice_fst N k m s hk
  unfold splice at e
  rw [hl] at e
  have e2 := setRow_heap w g (ints N (fst0 s k)) ((ints N (fst0 s k)).toList.take k ++ List.replicate m (Value.int .i64 s) ++ (ints N (fst0 s k)).toList.drop (k + m)).toArray 3 (0, 0) hb
  rw [List.append_assoc, e] at e2
  rw [List.append_assoc, e]
  exact e2
theorem wpList_copy_ints {w : World} {ops : Array Oper} {rest : List Oper} {o : Oper} {a : Act} {Q : Exit → Act → World → Prop} (hgd : o.guard = none) (d s : Operand) (ho : o.op = .call { callee := .builtin .copy, args := #[d, s], argTypes := #[22, 22] })
    (g N k m dLen dCap sLen sCap xb : Nat) (x : Int) (hd : a.eval d = .slice (some ⟨g, k, none⟩) dLen dCap) (hs : a.eval s = .slice (some ⟨xb, 0, none⟩) sLen sCap) (hb : Blk g (ints N (fst0 x k)) 3 w) (hm : m = Nat.min sLen dLen) (hk : k + m ≤ N) (hx : ∀ j, j < m → w.cell? ⟨xb, j, none⟩ = some (.int .i64 x))
    (h : ∀ w', Hid (Blk g (ints N (fst0 x (k + m))) 3 w' ∧ Mod g w w') → wpList Tryz.prog ops Q rest (a.put o.dst (.int .i64 m)) w') : wpList Tryz.prog ops Q (o :: rest) a w := by
  refine wpList_plain hgd fun K hK => ?_
  obtain ⟨w', hrun, h1, h2⟩ := run_copy_ints w o.type g N k m dLen dCap sLen sCap xb x hb hm hk hx
  unfold Oper.wp
  simp [execOp, ho, resolve, invoke, builtin, hd, hs, hrun, Result.andThen]
  exact hK _ _ (h w' ⟨h1, h2⟩)
theorem step_copy_ints {ops : Array Oper} {o : Oper} {a : Act} {w : World} {K : Act → World → Prop} {Q : Exit → Act → World → Prop} {E : Prop} (hgd : o.guard = none) (d s : Operand) (ho : o.op = .call { callee := .builtin .copy, args := #[d, s], argTypes := #[22, 22] })
    (g N k m dLen dCap sLen sCap xb : Nat) (x : Int) (hd : a.eval d = .slice (some ⟨g, k, none⟩) dLen dCap) (hs : a.eval s = .slice (some ⟨xb, 0, none⟩) sLen sCap) (hb : Blk g (ints N (fst0 x k)) 3 w) (hm : m = Nat.min sLen dLen) (hk : k + m ≤ N) (hx : ∀ j, j < m → w.cell? ⟨xb, j, none⟩ = some (.int .i64 x))
    (h : ∀ w', Hid (Blk g (ints N (fst0 x (k + m))) 3 w' ∧ Mod g w w') → K (a.put o.dst (.int .i64 m)) w') : if Region.wanted o (yielded ops a.tmps) = true then Oper.wp Tryz.prog o a w K Q else E := by
  have hw : Region.wanted o (yielded ops a.tmps) = true := by simp [Region.wanted, hgd]
  rw [if_pos hw]
  obtain ⟨w', hrun, h1, h2⟩ := run_copy_ints w o.type g N k m dLen dCap sLen sCap xb x hb hm hk hx
  unfold Oper.wp
  simp [execOp, ho, resolve, invoke, builtin, hd, hs, hrun, Result.andThen]
  exact h w' ⟨h1, h2⟩

set_option maxRecDepth 20000 in
set_option maxHeartbeats 1000000 in
theorem slicesRepeat (s : Int) (N xb cap : Nat) (hN : N ≤ 1000000) (w : World) (hx : w.cell? ⟨xb, 0, none⟩ = some (.int .i64 s)) :
    Calls Tryz.prog 76 #[.slice (some ⟨xb, 0, none⟩) 1 cap, .int .i64 N] w fun e w' => e = .returned (.slice (some ⟨w.heap.size, 0, none⟩) N N) ∧ Blk w.heap.size (ints N (fun _ => s)) 3 w' ∧ Mod w.heap.size w w' := by
  have MK := make_ints N hN
  have M : Hid (∀ w, Calls Tryz.prog 102 #[.int .u64 1, .int .u64 N] w fun e w' => e = .returned (.tuple #[.int .u64 0, .int .u64 N]) ∧ w' = w) := by
    intro w
    have := bitsMul 1 N (by unfold U64; omega) (by unfold U64; omega) w
    rw [show (1 : Int) * N / 18446744073709551616 = 0 by omega, show (1 : Int) * N % 18446744073709551616 = N by omega] at this
    exact this
  have G : Hid (Blk w.heap.size (ints N (fst0 s 0)) 3 (w.alloc (.cells (ints N (fun _ => 0)) 3)) ∧ Mod w.heap.size w (w.alloc (.cells (ints N (fun _ => 0)) 3)) ∧ (w.alloc (.cells (ints N (fun _ => 0)) 3)).cell? ⟨xb, 0, none⟩ = some (.int .i64 s)) := by
    refine ⟨?_, Mod.of ((Grown.refl _).alloc _ _), gat ((Grown.refl _).alloc _ _) hx⟩
    rw [ints_congr N (fst0 s 0) (fun _ => 0) (fun i hi => by unfold fst0; rw [if_neg (by omega)])]
    exact Blk.new w _ _
  have hw1 : IntKind.u64.wrap (N : Int) = N := by rw [IntKind.wrap_u64]; omega
  have hw2 : IntKind.i64.wrap (N : Int) = N := by rw [IntKind.wrap_i64]; omega
  have hq : decide ((9223372036854775807 : Int) < N) = false := decide_eq_false (by omega)
  clear hx
  go_enter Tryz.func76, Tryz.ntmps76
  go_wp2_with fail
  refine (unhide M w).mono ?_
  rintro e w1 ⟨rfl, rfl⟩
  go_wp2_with fail
  obtain ⟨k0, ek⟩ : ∃ k0, Nat.min 1 N = k0 := ⟨_, rfl⟩
  have hk0 : k0 ≤ 1 ∧ k0 ≤ N ∧ (k0 = 0 → N = 0) := by
    have h1 : Nat.min 1 N ≤ 1 := Nat.min_le_left _ _
    have h2 : Nat.min 1 N ≤ N := Nat.min_le_right _ _
    have h3 : N ≠ 0 → Nat.min 1 N = 1 := fun h => Nat.min_eq_left (by omega)
    rw [ek] at h1 h2 h3
    refine ⟨h1, h2, fun e => ?_⟩
    rcases Nat.eq_zero_or_pos N with h | h
    · exact h
    · have := h3 (by omega); omega
  obtain ⟨w2, hrun, b2, m2⟩ := run_copy_ints _ 3 w1.heap.size N 0 k0 N N 1 cap xb s (unhide G).1 ek.symm (by omega) (fun j hj => by obtain rfl : j = 0 := (by omega); exact (unhide G).2.2)
  have G2 : Hid (Blk w1.heap.size (ints N (fst0 s k0)) 3 w2 ∧ Mod w1.heap.size w1 w2) := by
    rw [Nat.zero_add] at b2
    exact ⟨b2, (unhide G).2.1.trans m2⟩
  rw [hrun]
  clear hrun b2 m2 G ek
  go_wp2_with fail
  go_loopw [8] (fun i wr => ∃ k : Nat, k ≤ N ∧ (k = 0 → N = 0) ∧ i = .int .i64 k ∧ Hid (Blk w1.heap.size (ints N (fst0 s k)) 3 wr ∧ Mod w1.heap.size w1 wr)) (fun i _ => N - (intOf i).toNat)
  case atStart => exact ⟨k0, hk0.2.1, hk0.2.2, rfl, unhide G2⟩
  case round =>
    obtain ⟨k, hk, hz, rfl, HI⟩ := hrel
    by_cases hlt : k < N
    · have hs1 := slice_to (some ⟨w1.heap.size, 0, none⟩) N N k hk
      have hs2 := slice_from w1.heap.size N N k hlt hk
      obtain ⟨m, em⟩ : ∃ m, m = Nat.min k (N - k) := ⟨_, rfl⟩
      have hm : m ≤ k ∧ k + m ≤ N ∧ 0 < m := by
        have h1 : Nat.min k (N - k) ≤ k := Nat.min_le_left _ _
        have h2 : Nat.min k (N - k) ≤ N - k := Nat.min_le_right _ _
        have h3 : 0 < Nat.min k (N - k) := Nat.lt_min.2 ⟨by omega, by omega⟩
        rw [← em] at h1 h2 h3
        omega
      have hb0 : ∀ j, j < m → wr.cell? ⟨w1.heap.size, j, none⟩ = some (.int .i64 s) := fun j hj => by
        rw [Blk.cell (unhide HI).1, ints_at N _ j (by omega)]
        unfold fst0
        rw [if_pos (by omega)]
      have HB := hide (And.intro hb0 em)
      clear hb0 em
      have hwk : IntKind.i64.wrap ((k : Int) + (m : Int)) = ((k + m : Nat) : Int) := by rw [IntKind.wrap_i64]; omega
      go_wp2
      go_region_law (refine step_copy_ints rfl (.tmp 41) (.tmp 44) rfl w1.heap.size N k m (N - k) (N - k) k N w1.heap.size s (by simp [Act.eval, Act.put]) (by simp [Act.eval, Act.put]) (unhide HI).1 (unhide HB).2 hm.2.1 (unhide HB).1 ?_; intro w3 hg3)
      have R : Hid (Blk w1.heap.size (ints N (fst0 s (k + m))) 3 w3 ∧ Mod w1.heap.size w1 w3) := ⟨(unhide hg3).1, (unhide HI).2.trans (unhide hg3).2⟩
      clear hg3 HI HB
      simp [Act.put]
      go_wp2
      go_roundw
      case rel => exact ⟨k + m, by omega, by omega, by go_num, R⟩
      case measure => simp [intOf]; omega
    · obtain rfl : k = N := by omega
      have R : Hid (Blk w1.heap.size (ints k (fun _ => s)) 3 wr ∧ Mod w1.heap.size w1 wr) := by
        obtain ⟨b, m⟩ := unhide HI
        rw [ints_congr k (fst0 s k) (fun _ => s) (fun i hi => by unfold fst0; rw [if_pos hi])] at b
        exact ⟨b, m⟩
      clear HI
      go_wp2
      go_ret
      exact ⟨rfl, unhide R⟩

end Go.Proofs.YtopaakjildmjcaaGreat

/- Package mat: turned, Turn, Eye. -/
namespace Go.Proofs.YtopaakjildmjcaaGreat
open Go.RowKit Go.Shelf Go.Proofs.Wd
set_option linter.unusedVariables false
set_option linter.unusedSimpArgs false
set_option maxRecDepth 10000

set_option maxHeartbeats 400000 in
theorem turned1 (i k r c b o cap Bm : Nat) (Z : Nat → Int) (hr : 1 ≤ r ∧ r ≤ 12) (hc : 1 ≤ c ∧ c ≤ 12) (hi : i < c) (hk : k < r) (w : World) (hb : Blk Bm #[.int .i64 r, .int .i64 c, .slice (some ⟨b, o, none⟩) (r * c) cap] 24 w) (hz : ∀ j, j < r * c → w.cell? ⟨b, o + j, none⟩ = some (.int .i64 (Z j))) :
    Calls Tryz.prog 103 (#[.int .i64 (i : Int), .int .i64 (k : Int)] ++ #[.pointer (some ⟨Bm, 0, none⟩)]) w fun e b => e = .returned (.int .i64 (turnZ Z r c (i * r + k))) ∧ Kp w b := by
  have hd : turnZ Z r c (i * r + k) = Z (k * c + i) := by
    unfold turnZ
    rw [place_div _ _ _ hk, place_mod _ _ _ hk]
  rw [hd]
  show Calls Tryz.prog 103 #[.int .i64 (i : Int), .int .i64 (k : Int), .pointer (some ⟨Bm, 0, none⟩)] w _
  have A := hide (matAt r c k i b o cap Z hr hc hk hi w (hz _ (place_in _ _ _ _ hk hi)))
  have d0 : w.cell? ⟨Bm, 0, none⟩ = some (.int .i64 r) := Blk.cell hb 0
  have d1 : w.cell? ⟨Bm, 1, none⟩ = some (.int .i64 c) := Blk.cell hb 1
  have d2 : w.cell? ⟨Bm, 2, none⟩ = some (.slice (some ⟨b, o, none⟩) (r * c) cap) := Blk.cell hb 2
  obtain ⟨z, hzz⟩ : ∃ z, Z (k * c + i) = z := ⟨_, rfl⟩
  rw [hzz] at A
  rw [hzz]
  obtain ⟨len, hlen⟩ : ∃ len, r * c = len := ⟨_, rfl⟩
  rw [hlen] at A d2
  clear hd hz hr hc hi hk hb hzz hlen
  go_enter Tryz.func103, Tryz.ntmps103
  go_wp2_with fail
  refine (unhide A).mono ?_
  rintro e w1 ⟨rfl, rfl⟩
  clear A
  go_wp2
  go_ret
  exact ⟨rfl, (Kp.refl _).alloc _ _⟩

set_option maxHeartbeats 1000000 in
theorem matTurned (r c b o cap : Nat) (Z : Nat → Int) (hr : 1 ≤ r ∧ r ≤ 12) (hc : 1 ≤ c ∧ c ≤ 12) (w : World) (hz : ∀ j, j < r * c → w.cell? ⟨b, o + j, none⟩ = some (.int .i64 (Z j))) :
    Calls Tryz.prog 77 #[.agg #[.int .i64 r, .int .i64 c, .slice (some ⟨b, o, none⟩) (r * c) cap]] w fun e w' => MadeP c r (turnZ Z r c) (Kp w) w e w' := by
  have G : Grown w ((w.alloc (.cells #[.int .i64 r, .int .i64 c, .slice (some ⟨b, o, none⟩) (r * c) cap] 24)).alloc (.cells #[.int .i64 0, .int .i64 0, .slice none 0 0] 24)) := ((Grown.refl _).alloc _ _).alloc _ _
  have bl : Blk w.heap.size #[.int .i64 r, .int .i64 c, .slice (some ⟨b, o, none⟩) (r * c) cap] 24 ((w.alloc (.cells #[.int .i64 r, .int .i64 c, .slice (some ⟨b, o, none⟩) (r * c) cap] 24)).alloc (.cells #[.int .i64 0, .int .i64 0, .slice none 0 0] 24)) := Blk.grown (Blk.new w _ _) ((Grown.refl _).alloc _ _)
  have br := blk_new2 w (.cells #[.int .i64 r, .int .i64 c, .slice (some ⟨b, o, none⟩) (r * c) cap] 24) #[.int .i64 0, .int .i64 0, .slice none 0 0] 24
  have d0 := Blk.cell bl 0
  have d1 := Blk.cell bl 1
  have MD := hide (madeN 103 (enters_of Tryz.func103 (by kernel_rfl) rfl) #[.pointer (some ⟨w.heap.size, 0, none⟩)] c r hc hr (turnZ Z r c) ((w.alloc (.cells #[.int .i64 r, .int .i64 c, .slice (some ⟨b, o, none⟩) (r * c) cap] 24)).alloc (.cells #[.int .i64 0, .int .i64 0, .slice none 0 0] 24))
    (fun i k a hi hk ka => turned1 i k r c b o cap w.heap.size Z hr hc hi hk a (Blk.kp bl ka) (fun j hj => ka.cell (gat G (hz j hj)))))
  have HG := hide G
  have HB := hide br
  obtain ⟨len, hlen⟩ : ∃ len, r * c = len := ⟨_, rfl⟩
  rw [hlen] at MD HG HB
  rw [hlen]
  clear G bl br hz hr hc hlen d0 d1
  go_enter Tryz.func77, Tryz.ntmps77
  go_wp2_with fail
  generalize (w.alloc (.cells #[.int .i64 r, .int .i64 c, .slice (some ⟨b, o, none⟩) len cap] 24)).alloc (.cells #[.int .i64 0, .int .i64 0, .slice none 0 0] 24) = w1 at *
  refine (unhide MD).mono ?_
  rintro e w3 ⟨Lb, h1, rfl, h3, h4⟩
  have b3 := Blk.kp (unhide HB) h4
  have e0 : w3.cell? ⟨w.heap.size + 1, 0, none⟩ = some (.int .i64 0) := Blk.cell b3 0
  have e1 : w3.cell? ⟨w.heap.size + 1, 1, none⟩ = some (.int .i64 0) := Blk.cell b3 1
  have e2 : w3.cell? ⟨w.heap.size + 1, 2, none⟩ = some (.slice none 0 0) := Blk.cell b3 2
  have f := Blk.free b3
  have R := hide (And.intro b3 (And.intro h1 (And.intro h3 h4)))
  clear b3 h1 h3 h4 MD
  go_wp2
  obtain ⟨b3, h1, h3, h4⟩ := unhide R
  have P := putM b3 (.int .i64 c) (.int .i64 r) (.slice (some ⟨Lb, 0, none⟩) (c * r) (c * r))
  generalize (((w3.setCell ⟨w.heap.size + 1, 0, none⟩ (.int .i64 c)).setCell ⟨w.heap.size + 1, 1, none⟩ (.int .i64 r)).setCell ⟨w.heap.size + 1, 2, none⟩ (.slice (some ⟨Lb, 0, none⟩) (c * r) (c * r))) = wE at *
  have c0 : wE.cell? ⟨w.heap.size + 1, 0, none⟩ = some (.int .i64 c) := Blk.cell P.1 0
  have c1 : wE.cell? ⟨w.heap.size + 1, 1, none⟩ = some (.int .i64 r) := Blk.cell P.1 1
  have c2 : wE.cell? ⟨w.heap.size + 1, 2, none⟩ = some (.slice (some ⟨Lb, 0, none⟩) (c * r) (c * r)) := Blk.cell P.1 2
  refine bodyPost_ret (v := .agg #[.int .i64 c, .int .i64 r, .slice (some ⟨Lb, 0, none⟩) (c * r) (c * r)]) (by simp [results, Tryz.results77, go_sem, c0, c1, c2]) rfl ?_
  have hB := Blk.lt (unhide HB)
  have hs := (unhide HG).2.2
  exact ⟨Lb, by omega, rfl, Blk.keep h3 P.2 (by omega), ((Kp.of (unhide HG)).trans h4).mod P.2 (by omega)⟩

set_option maxHeartbeats 1000000 in
theorem matEye_ok (n : Nat) (hn : 1 ≤ n ∧ n ≤ 12) (w : World) :
    Calls Tryz.prog 45 #[.int .i64 (n : Int)] w fun e w' => MatP n n (n * n) (diagZ oneZ n) 0 (Kp w) w e w' := by
  have FT := hide (fun w => matFits (n : Int) w)
  rw [decide_eq_true (by omega)] at FT
  have G : Grown w (w.alloc (.cells #[.int .i64 0, .int .i64 0, .slice none 0 0] 24)) := (Grown.refl _).alloc _ _
  have br := Blk.new w #[.int .i64 0, .int .i64 0, .slice none 0 0] 24
  have RP := hide (fun xb cap w hx => slicesRepeat 4294967296 n xb cap (by omega) w hx)
  have DG := hide (fun cap ao w hr => matDiag_ok n cap ao oneZ hn w hr)
  have HG := hide G
  have HB := hide br
  clear G br hn
  go_enter Tryz.func45, Tryz.ntmps45
  go_wp2_with fail
  generalize w.alloc (.cells #[.int .i64 0, .int .i64 0, .slice none 0 0] 24) = w1 at *
  refine (unhide FT _).mono ?_
  rintro e w2 ⟨rfl, rfl⟩
  go_wp2_with fail
  have G2 : Hid (Grown w2 (w2.alloc (.cells #[.int .i64 4294967296] 3))) := (Grown.refl _).alloc _ _
  have R2 := hide (unhide RP w2.heap.size 1 (w2.alloc (.cells #[.int .i64 4294967296] 3)) (Blk.cell (Blk.new w2 _ _) 0))
  generalize w2.alloc (.cells #[.int .i64 4294967296] 3) = w4 at *
  refine (unhide R2).mono ?_
  rintro e w5 ⟨rfl, b5, m5⟩
  have D5 := hide (unhide DG n (some ⟨w4.heap.size, 0, none⟩) w5 (show Row _ _ n (fun _ => 4294967296) from b5.row))
  have K5 : Hid (Kp w2 w5) := (Kp.of (unhide G2)).mod m5 (unhide G2).2.2
  clear b5 m5 R2 RP DG FT
  go_wp2_with fail
  refine (unhide D5).mono ?_
  rintro e w3 ⟨ao, cap, Lb, rfl, h1, h3, hcap, h4⟩
  have k3 := (unhide K5).trans h4
  have b3 := Blk.kp (unhide HB) k3
  have e0 : w3.cell? ⟨w.heap.size, 0, none⟩ = some (.int .i64 0) := Blk.cell b3 0
  have e1 : w3.cell? ⟨w.heap.size, 1, none⟩ = some (.int .i64 0) := Blk.cell b3 1
  have e2 : w3.cell? ⟨w.heap.size, 2, none⟩ = some (.slice none 0 0) := Blk.cell b3 2
  have f := Blk.free b3
  have R := hide (And.intro b3 (And.intro h1 (And.intro h3 (And.intro hcap k3))))
  clear b3 h1 h3 h4 k3 D5 hcap
  go_wp2
  obtain ⟨b3, h1, h3, hcap, k3⟩ := unhide R
  have P := putM b3 (.int .i64 n) (.int .i64 n) (.slice ao (n * n) cap)
  generalize (((w3.setCell ⟨w.heap.size, 0, none⟩ (.int .i64 n)).setCell ⟨w.heap.size, 1, none⟩ (.int .i64 n)).setCell ⟨w.heap.size, 2, none⟩ (.slice ao (n * n) cap)) = wE at *
  have c0 : wE.cell? ⟨w.heap.size, 0, none⟩ = some (.int .i64 n) := Blk.cell P.1 0
  have c1 : wE.cell? ⟨w.heap.size, 1, none⟩ = some (.int .i64 n) := Blk.cell P.1 1
  have c2 : wE.cell? ⟨w.heap.size, 2, none⟩ = some (.slice ao (n * n) cap) := Blk.cell P.1 2
  refine bodyPost_ret (v := .tuple #[.agg #[.int .i64 n, .int .i64 n, .slice ao (n * n) cap], .int .i64 0]) (by simp [results, Tryz.results45, go_sem, c0, c1, c2]) rfl ?_
  have hB := Blk.lt (unhide HB)
  have hs := (unhide HG).2.2
  have hk := (unhide K5).2.2.2
  exact ⟨_, _, Lb, rfl, by omega, h3.imp id (fun h => ⟨h.1, Blk.keep h.2 P.2 (by omega)⟩), hcap, ((Kp.of (unhide HG)).trans k3).mod P.2 (by omega)⟩

set_option maxHeartbeats 1000000 in
theorem matEye_bad (n : Int) (hn : ¬ (1 ≤ n ∧ n ≤ 12)) (Z : Nat → Int) (w : World) :
    Calls Tryz.prog 45 #[.int .i64 n] w fun e w' => MatP 0 0 0 Z 3 (Kp w) w e w' := by
  have FT := hide (fun w => matFits n w)
  rw [decide_eq_false hn] at FT
  have G : Grown w (w.alloc (.cells #[.int .i64 0, .int .i64 0, .slice none 0 0] 24)) := (Grown.refl _).alloc _ _
  have br := Blk.new w #[.int .i64 0, .int .i64 0, .slice none 0 0] 24
  have HG := hide G
  have HB := hide br
  clear G br hn
  go_enter Tryz.func45, Tryz.ntmps45
  go_wp2_with fail
  generalize w.alloc (.cells #[.int .i64 0, .int .i64 0, .slice none 0 0] 24) = w1 at *
  refine (unhide FT _).mono ?_
  rintro e w2 ⟨rfl, rfl⟩
  have e0 : w2.cell? ⟨w.heap.size, 0, none⟩ = some (.int .i64 0) := Blk.cell (unhide HB) 0
  have e1 : w2.cell? ⟨w.heap.size, 1, none⟩ = some (.int .i64 0) := Blk.cell (unhide HB) 1
  have e2 : w2.cell? ⟨w.heap.size, 2, none⟩ = some (.slice none 0 0) := Blk.cell (unhide HB) 2
  have f := Blk.free (unhide HB)
  go_wp2
  have P := putM (unhide HB) (.int .i64 0) (.int .i64 0) (.slice none 0 0)
  generalize (((w2.setCell ⟨w.heap.size, 0, none⟩ (.int .i64 0)).setCell ⟨w.heap.size, 1, none⟩ (.int .i64 0)).setCell ⟨w.heap.size, 2, none⟩ (.slice none 0 0)) = wE at *
  have c0 : wE.cell? ⟨w.heap.size, 0, none⟩ = some (.int .i64 0) := Blk.cell P.1 0
  have c1 : wE.cell? ⟨w.heap.size, 1, none⟩ = some (.int .i64 0) := Blk.cell P.1 1
  have c2 : wE.cell? ⟨w.heap.size, 2, none⟩ = some (.slice none 0 0) := Blk.cell P.1 2
  refine bodyPost_ret (v := .tuple #[.agg #[.int .i64 0, .int .i64 0, .slice none 0 0], .int .i64 3]) (by simp [results, Tryz.results45, go_sem, c0, c1, c2]) rfl ?_
  exact ⟨none, 0, w.heap.size, rfl, Nat.le_refl _, Or.inl rfl, Nat.le_refl _, (Kp.of (unhide HG)).mod P.2 (by omega)⟩

end Go.Proofs.YtopaakjildmjcaaGreat

/- Package mat: refuse, of one matrix and of two. -/
namespace Go.Proofs.YtopaakjildmjcaaGreat
open Go.RowKit Go.Shelf Go.Proofs.Wd
set_option linter.unusedVariables false
set_option linter.unusedSimpArgs false
set_option maxRecDepth 10000

theorem refuseDot (U : Nat) (c : Bool) (n : Int) (hn : 0 ≤ n ∧ n < 2305843009213693952) (w : World) (h : UC U c n w) : Calls Tryz.prog 42 #[.pointer (some ⟨U, 0, none⟩), .slice none 0 0, .slice none 0 0] w fun e w' => e = .returned (.tuple #[.int .i64 0, .int .i64 0]) ∧ UC U c n w' ∧ Mod U w w' := by
  refine (unitDot_ok U c n none none 0 0 0 (fun _ => 0) (fun _ => 0) hn (by omega) (fun _ h => absurd h (Nat.not_lt_zero _)) (fun _ h => absurd h (Nat.not_lt_zero _)) w h (Or.inl rfl) (fun h => absurd h (Nat.lt_irrefl _)) (Or.inl rfl) (fun h => absurd h (Nat.lt_irrefl _))).mono ?_
  rintro e w' ⟨rfl, hu, hm⟩
  refine ⟨rfl, ?_, hm⟩
  have e1 : (c || dotC (fun _ => 0) (fun _ => 0) 0) = c := Bool.or_false c
  have e2 : n + 2 * ((0 : Nat) : Int) = n := by omega
  rw [e1, e2] at hu
  exact hu


set_option maxHeartbeats 2000000 in
theorem refuse1 (U : Nat) (c : Bool) (n : Int) (hn : 0 ≤ n ∧ n < 2305843009213693952) (r0 c0 : Int) (a0 : Option Addr) (l0 p0 : Nat) (xb : Nat) (err : Int) (hE : Hid (((okM r0 c0 l0) ∧ err = 0) ∨ (¬ (okM r0 c0 l0) ∧ err = 3))) (w : World) (h : UC U c n w) (hb : Blk xb #[.int .i64 r0, .int .i64 c0, .slice a0 l0 p0] 24 w) (hx : xb ≠ U) :
    Calls Tryz.prog 60 #[.pointer (some ⟨U, 0, none⟩), .slice (some ⟨xb, 0, none⟩) 1 1] w fun e w' => e = .returned (.int .i64 err) ∧ UC U c n w' ∧ Mod U w w' := by
  have D := hide (refuseDot U c n hn w h)
  have HB := hide (And.intro hb hx)
  clear h hb hx
  go_enter Tryz.func60, Tryz.ntmps60
  go_wp2_with fail
  refine (unhide D).mono ?_
  rintro e w1 ⟨rfl, h1, m1⟩
  have S1 : Hid (UC U c n w1 ∧ Mod U w w1 ∧ Blk xb #[.int .i64 r0, .int .i64 c0, .slice a0 l0 p0] 24 w1) := ⟨h1, m1, Blk.keep (unhide HB).1 m1 (unhide HB).2⟩
  clear h1 m1 D
  go_wp2_with fail
  go_loopw [20] (fun i wr => ((i = .int .i64 0) ∨ (i = .int .i64 1 ∧ Hid (okM r0 c0 l0))) ∧ Hid (UC U c n wr ∧ Mod U w wr ∧ Blk xb #[.int .i64 r0, .int .i64 c0, .slice a0 l0 p0] 24 wr)) (fun i _ => 1 - (intOf i).toNat)
  case atStart => exact ⟨Or.inl rfl, S1⟩
  case round =>
    obtain ⟨hi, HI⟩ := hrel
    clear S1
    rcases hi with rfl | ⟨rfl, o0⟩
    · have CK := hide (fun w => matCheck r0 c0 a0 l0 p0 w)
      have q0 := Blk.cell (unhide HI).2.2 0
      have q1 := Blk.cell (unhide HI).2.2 1
      have q2 := Blk.cell (unhide HI).2.2 2
      simp at q0 q1 q2
      have hlt : xb < wr.heap.size := Blk.lt (unhide HI).2.2
      have hne : xb ≠ wr.heap.size := Nat.ne_of_lt hlt
      have G1 : Hid (Grown wr (wr.alloc (.cells #[.int .i64 r0, .int .i64 c0, .slice a0 l0 p0] 24))) := (Grown.refl _).alloc _ _
      by_cases hk : okM r0 c0 l0
      · rw [chk_ok hk] at CK
        have OK := hide hk
        clear hk
        go_wp2_with fail
        refine (unhide CK _).mono ?_
        rintro e w3 ⟨rfl, g3⟩
        have S3 : Hid (UC U c n w3 ∧ Mod U w w3 ∧ Blk xb #[.int .i64 r0, .int .i64 c0, .slice a0 l0 p0] 24 w3) := ⟨Blk.grown (Blk.grown (unhide HI).1 (unhide G1)) g3, ((unhide HI).2.1.trans (Mod.of (unhide G1))).trans (Mod.of g3), Blk.grown (Blk.grown (unhide HI).2.2 (unhide G1)) g3⟩
        clear g3 CK G1 HI q0 q1 q2
        go_wp2
        go_roundw
        case rel => exact ⟨Or.inr (⟨by go_num, OK⟩), S3⟩
        case measure => simp [intOf]
      · rw [chk_bad hk] at CK
        have HE : Hid (err = 3) := by
          rcases unhide hE with h | h
          · exact absurd h.1 hk
          · exact h.2
        clear hk
        go_wp2_with fail
        refine (unhide CK _).mono ?_
        rintro e w3 ⟨rfl, g3⟩
        have S3 : Hid (UC U c n w3 ∧ Mod U w w3) := ⟨Blk.grown (Blk.grown (unhide HI).1 (unhide G1)) g3, ((unhide HI).2.1.trans (Mod.of (unhide G1))).trans (Mod.of g3)⟩
        clear g3 CK G1 HI q0 q1 q2
        go_wp2
        go_ret
        exact ⟨by rw [unhide HE]; rfl, unhide S3⟩
    · have HE : Hid (err = 0) := by
        rcases unhide hE with h | h
        · exact h.2
        · exact absurd o0 h.1
      have S3 : Hid (UC U c n wr ∧ Mod U w wr) := ⟨(unhide HI).1, (unhide HI).2.1⟩
      clear HI
      go_wp2
      go_ret
      exact ⟨by rw [unhide HE]; rfl, unhide S3⟩

set_option maxHeartbeats 1000000 in
theorem refuseNone (p : Option Addr) (s : Value) (w : World) (h : NU p w) :
    Calls Tryz.prog 60 #[.pointer p, s] w fun e w' => e = .returned (.int .i64 1) ∧ w' = w := by
  have D := hide (noneDot p none none 0 0 0 0 w h)
  clear h
  go_enter Tryz.func60, Tryz.ntmps60
  go_wp2_with fail
  refine (unhide D).mono ?_
  rintro e w1 ⟨rfl, rfl⟩
  go_wp2
  go_ret
  exact ⟨rfl, rfl⟩

set_option maxHeartbeats 2000000 in
theorem refuse2 (U : Nat) (c : Bool) (n : Int) (hn : 0 ≤ n ∧ n < 2305843009213693952) (r0 c0 : Int) (a0 : Option Addr) (l0 p0 : Nat) (r1 c1 : Int) (a1 : Option Addr) (l1 p1 : Nat) (xb : Nat) (err : Int) (hE : Hid (((okM r0 c0 l0 ∧ okM r1 c1 l1) ∧ err = 0) ∨ (¬ (okM r0 c0 l0 ∧ okM r1 c1 l1) ∧ err = 3))) (w : World) (h : UC U c n w) (hb : Blk xb #[.int .i64 r0, .int .i64 c0, .slice a0 l0 p0, .int .i64 r1, .int .i64 c1, .slice a1 l1 p1] 24 w) (hx : xb ≠ U) :
    Calls Tryz.prog 60 #[.pointer (some ⟨U, 0, none⟩), .slice (some ⟨xb, 0, none⟩) 2 2] w fun e w' => e = .returned (.int .i64 err) ∧ UC U c n w' ∧ Mod U w w' := by
  have D := hide (refuseDot U c n hn w h)
  have HB := hide (And.intro hb hx)
  clear h hb hx
  go_enter Tryz.func60, Tryz.ntmps60
  go_wp2_with fail
  refine (unhide D).mono ?_
  rintro e w1 ⟨rfl, h1, m1⟩
  have S1 : Hid (UC U c n w1 ∧ Mod U w w1 ∧ Blk xb #[.int .i64 r0, .int .i64 c0, .slice a0 l0 p0, .int .i64 r1, .int .i64 c1, .slice a1 l1 p1] 24 w1) := ⟨h1, m1, Blk.keep (unhide HB).1 m1 (unhide HB).2⟩
  clear h1 m1 D
  go_wp2_with fail
  go_loopw [20] (fun i wr => ((i = .int .i64 0) ∨ (i = .int .i64 1 ∧ Hid (okM r0 c0 l0)) ∨ (i = .int .i64 2 ∧ Hid (okM r0 c0 l0) ∧ Hid (okM r1 c1 l1))) ∧ Hid (UC U c n wr ∧ Mod U w wr ∧ Blk xb #[.int .i64 r0, .int .i64 c0, .slice a0 l0 p0, .int .i64 r1, .int .i64 c1, .slice a1 l1 p1] 24 wr)) (fun i _ => 2 - (intOf i).toNat)
  case atStart => exact ⟨Or.inl rfl, S1⟩
  case round =>
    obtain ⟨hi, HI⟩ := hrel
    clear S1
    rcases hi with rfl | ⟨rfl, o0⟩ | ⟨rfl, o0, o1⟩
    · have CK := hide (fun w => matCheck r0 c0 a0 l0 p0 w)
      have q0 := Blk.cell (unhide HI).2.2 0
      have q1 := Blk.cell (unhide HI).2.2 1
      have q2 := Blk.cell (unhide HI).2.2 2
      simp at q0 q1 q2
      have hlt : xb < wr.heap.size := Blk.lt (unhide HI).2.2
      have hne : xb ≠ wr.heap.size := Nat.ne_of_lt hlt
      have G1 : Hid (Grown wr (wr.alloc (.cells #[.int .i64 r0, .int .i64 c0, .slice a0 l0 p0] 24))) := (Grown.refl _).alloc _ _
      by_cases hk : okM r0 c0 l0
      · rw [chk_ok hk] at CK
        have OK := hide hk
        clear hk
        go_wp2_with fail
        refine (unhide CK _).mono ?_
        rintro e w3 ⟨rfl, g3⟩
        have S3 : Hid (UC U c n w3 ∧ Mod U w w3 ∧ Blk xb #[.int .i64 r0, .int .i64 c0, .slice a0 l0 p0, .int .i64 r1, .int .i64 c1, .slice a1 l1 p1] 24 w3) := ⟨Blk.grown (Blk.grown (unhide HI).1 (unhide G1)) g3, ((unhide HI).2.1.trans (Mod.of (unhide G1))).trans (Mod.of g3), Blk.grown (Blk.grown (unhide HI).2.2 (unhide G1)) g3⟩
        clear g3 CK G1 HI q0 q1 q2
        go_wp2
        go_roundw
        case rel => exact ⟨Or.inr (Or.inl ⟨by go_num, OK⟩), S3⟩
        case measure => simp [intOf]
      · rw [chk_bad hk] at CK
        have HE : Hid (err = 3) := by
          rcases unhide hE with h | h
          · exact absurd h.1.1 hk
          · exact h.2
        clear hk
        go_wp2_with fail
        refine (unhide CK _).mono ?_
        rintro e w3 ⟨rfl, g3⟩
        have S3 : Hid (UC U c n w3 ∧ Mod U w w3) := ⟨Blk.grown (Blk.grown (unhide HI).1 (unhide G1)) g3, ((unhide HI).2.1.trans (Mod.of (unhide G1))).trans (Mod.of g3)⟩
        clear g3 CK G1 HI q0 q1 q2
        go_wp2
        go_ret
        exact ⟨by rw [unhide HE]; rfl, unhide S3⟩
    · have CK := hide (fun w => matCheck r1 c1 a1 l1 p1 w)
      have q0 := Blk.cell (unhide HI).2.2 3
      have q1 := Blk.cell (unhide HI).2.2 4
      have q2 := Blk.cell (unhide HI).2.2 5
      simp at q0 q1 q2
      have hlt : xb < wr.heap.size := Blk.lt (unhide HI).2.2
      have hne : xb ≠ wr.heap.size := Nat.ne_of_lt hlt
      have G1 : Hid (Grown wr (wr.alloc (.cells #[.int .i64 r1, .int .i64 c1, .slice a1 l1 p1] 24))) := (Grown.refl _).alloc _ _
      by_cases hk : okM r1 c1 l1
      · rw [chk_ok hk] at CK
        have OK := hide hk
        clear hk
        go_wp2_with fail
        refine (unhide CK _).mono ?_
        rintro e w3 ⟨rfl, g3⟩
        have S3 : Hid (UC U c n w3 ∧ Mod U w w3 ∧ Blk xb #[.int .i64 r0, .int .i64 c0, .slice a0 l0 p0, .int .i64 r1, .int .i64 c1, .slice a1 l1 p1] 24 w3) := ⟨Blk.grown (Blk.grown (unhide HI).1 (unhide G1)) g3, ((unhide HI).2.1.trans (Mod.of (unhide G1))).trans (Mod.of g3), Blk.grown (Blk.grown (unhide HI).2.2 (unhide G1)) g3⟩
        clear g3 CK G1 HI q0 q1 q2
        go_wp2
        go_roundw
        case rel => exact ⟨Or.inr (Or.inr (⟨by go_num, o0, OK⟩)), S3⟩
        case measure => simp [intOf]
      · rw [chk_bad hk] at CK
        have HE : Hid (err = 3) := by
          rcases unhide hE with h | h
          · exact absurd h.1.2 hk
          · exact h.2
        clear hk
        go_wp2_with fail
        refine (unhide CK _).mono ?_
        rintro e w3 ⟨rfl, g3⟩
        have S3 : Hid (UC U c n w3 ∧ Mod U w w3) := ⟨Blk.grown (Blk.grown (unhide HI).1 (unhide G1)) g3, ((unhide HI).2.1.trans (Mod.of (unhide G1))).trans (Mod.of g3)⟩
        clear g3 CK G1 HI q0 q1 q2
        go_wp2
        go_ret
        exact ⟨by rw [unhide HE]; rfl, unhide S3⟩
    · have HE : Hid (err = 0) := by
        rcases unhide hE with h | h
        · exact h.2
        · exact absurd ⟨unhide o0, unhide o1⟩ h.1
      have S3 : Hid (UC U c n wr ∧ Mod U w wr) := ⟨(unhide HI).1, (unhide HI).2.1⟩
      clear HI
      go_wp2
      go_ret
      exact ⟨by rw [unhide HE]; rfl, unhide S3⟩

end Go.Proofs.YtopaakjildmjcaaGreat

/- Package mat: the func that Mul hands on. -/
namespace Go.Proofs.YtopaakjildmjcaaGreat
open Go.RowKit Go.Shelf Go.Proofs.Wd
set_option linter.unusedVariables false
set_option linter.unusedSimpArgs false
set_option maxRecDepth 10000

theorem mod_drew (U : Nat) (w : World) : Mod U w w.drew := ⟨rfl, rfl, fun _ _ _ => rfl, fun _ => rfl, Nat.le_refl _⟩
/-- A row of a matrix. -/
theorem row_part {w : World} {b o c i r : Nat} {Z : Nat → Int} (hi : i < r) (hz : ∀ j, j < r * c → w.cell? ⟨b, o + j, none⟩ = some (.int .i64 (Z j))) : Row w (some ⟨b, o + i * c, none⟩) c (rowZ Z c i) := by
  refine Or.inr ⟨b, o + i * c, rfl, fun k hk => ?_⟩
  rw [Nat.add_assoc]
  exact hz _ (place_in _ _ _ _ hi hk)

set_option maxRecDepth 20000 in
set_option maxHeartbeats 4000000 in
theorem mul1 (U : Nat) (cc : Bool) (nn : Int) (hn : 0 ≤ nn ∧ nn < 2305843009213693952) (r m c i k b o cap L Bu Ba Bc : Nat) (A T : Nat → Int) (hr : 1 ≤ r ∧ r ≤ 12) (hm : 1 ≤ m ∧ m ≤ 12) (hc : 1 ≤ c ∧ c ≤ 12) (hi : i < r) (hk : k < c) (hcap : r * m ≤ cap)
    (hA : ∀ j, j < r * m → I64 (A j)) (hT : ∀ j, j < c * m → I64 (T j)) (w : World) (h : UC U cc nn w) (hBu : Blk Bu #[.pointer (some ⟨U, 0, none⟩)] 25 w) (hBa : Blk Ba #[.int .i64 r, .int .i64 m, .slice (some ⟨b, o, none⟩) (r * m) cap] 24 w) (hBc : Blk Bc #[.int .i64 c, .int .i64 m, .slice (some ⟨L, 0, none⟩) (c * m) (c * m)] 24 w)
    (za : ∀ j, j < r * m → w.cell? ⟨b, o + j, none⟩ = some (.int .i64 (A j))) (zt : ∀ j, j < c * m → w.cell? ⟨L, 0 + j, none⟩ = some (.int .i64 (T j))) (n1 : Bu ≠ U) (n2 : Ba ≠ U) (n3 : Bc ≠ U) (n4 : b ≠ U) (n5 : L ≠ U) :
    Calls Tryz.prog 78 #[.int .i64 (i : Int), .int .i64 (k : Int), .pointer (some ⟨Bu, 0, none⟩), .pointer (some ⟨Ba, 0, none⟩), .pointer (some ⟨Bc, 0, none⟩)] w fun e w' => e = .returned (.int .i64 (dotN (rowZ A m i) (rowZ T m k) m)) ∧ UC U (cc || dotC (rowZ A m i) (rowZ T m k) m) (nn + 2 * m) w' ∧ Mk U w w' := by
  have P1 : Hid (∀ w, Calls Tryz.prog 80 #[.agg #[.int .i64 r, .int .i64 m, .slice (some ⟨b, o, none⟩) (r * m) cap], .int .i64 i] w fun e w' => e = .returned (.slice (some ⟨b, o + i * m, none⟩) m m) ∧ Grown w w') := fun w =>
    (matPart r m i b o cap hr hm hi hcap w).mono fun e w' h => ⟨h.1, by rw [h.2]; exact (Grown.refl _).alloc _ _⟩
  have P2 : Hid (∀ w, Calls Tryz.prog 80 #[.agg #[.int .i64 c, .int .i64 m, .slice (some ⟨L, 0, none⟩) (c * m) (c * m)], .int .i64 k] w fun e w' => e = .returned (.slice (some ⟨L, k * m, none⟩) m m) ∧ Grown w w') := fun w =>
    (matPart c m k L 0 (c * m) hc hm hk (Nat.le_refl _) w).mono fun e w' h => ⟨by rw [h.1, Nat.zero_add], by rw [h.2]; exact (Grown.refl _).alloc _ _⟩
  have D : Hid (∀ wx, UC U cc nn wx → Mod U w wx → Calls Tryz.prog 79 #[.pointer (some ⟨U, 0, none⟩), .slice (some ⟨b, o + i * m, none⟩) m m, .slice (some ⟨L, k * m, none⟩) m m] wx fun e w' => e = .returned (.int .i64 (dotN (rowZ A m i) (rowZ T m k) m)) ∧ UC U (cc || dotC (rowZ A m i) (rowZ T m k) m) (nn + 2 * m) w' ∧ Mod U wx w') := fun wx hu mu => by
    have r1 := row_part hi (fun j hj => mu.cell (za j hj) n4)
    have r2 := row_part hk (fun j hj => mu.cell (zt j hj) n5)
    rw [Nat.zero_add] at r2
    exact matDot U cc nn _ _ m m m _ _ hn (by omega) (fun j hj => hA _ (place_in _ _ _ _ hi hj)) (fun j hj => hT _ (place_in _ _ _ _ hk hj)) wx hu r1 (fun _ a e => by cases e; exact n4) r2 (fun _ a e => by cases e; exact n5)
  obtain ⟨d, hd⟩ : ∃ d, dotN (rowZ A m i) (rowZ T m k) m = d := ⟨_, rfl⟩
  obtain ⟨g, hg⟩ : ∃ g, dotC (rowZ A m i) (rowZ T m k) m = g := ⟨_, rfl⟩
  rw [hd, hg] at D
  rw [hd, hg]
  have CW : Hid (∀ wx, Mod U w wx → wx.cell? ⟨Bu, 0, none⟩ = some (.pointer (some ⟨U, 0, none⟩)) ∧ wx.cell? ⟨Ba, 0, none⟩ = some (.int .i64 r) ∧ wx.cell? ⟨Ba, 1, none⟩ = some (.int .i64 m) ∧ wx.cell? ⟨Ba, 2, none⟩ = some (.slice (some ⟨b, o, none⟩) (r * m) cap) ∧ wx.cell? ⟨Bc, 0, none⟩ = some (.int .i64 c) ∧ wx.cell? ⟨Bc, 1, none⟩ = some (.int .i64 m) ∧ wx.cell? ⟨Bc, 2, none⟩ = some (.slice (some ⟨L, 0, none⟩) (c * m) (c * m))) := fun wx mu =>
    ⟨Blk.cell (Blk.keep hBu mu n1) 0, Blk.cell (Blk.keep hBa mu n2) 0, Blk.cell (Blk.keep hBa mu n2) 1, Blk.cell (Blk.keep hBa mu n2) 2, Blk.cell (Blk.keep hBc mu n3) 0, Blk.cell (Blk.keep hBc mu n3) 1, Blk.cell (Blk.keep hBc mu n3) 2⟩
  have H : Hid (UC U cc nn w.drew) := h
  obtain ⟨x1, x2, x3, x4, x5, x6, x7⟩ := unhide CW w (Mod.refl _ _)
  obtain ⟨la, hla⟩ : ∃ q, r * m = q := ⟨_, rfl⟩
  obtain ⟨lc, hlc⟩ : ∃ q, c * m = q := ⟨_, rfl⟩
  obtain ⟨oi, hoi⟩ : ∃ q, o + i * m = q := ⟨_, rfl⟩
  obtain ⟨ok, hok⟩ : ∃ q, k * m = q := ⟨_, rfl⟩
  rw [hla, hlc] at CW
  rw [hla] at x4 P1
  rw [hlc] at x7 P2
  rw [hoi] at P1 D
  rw [hok] at P2 D
  clear h hBu hBa hBc za zt hA hT hn hr hm hc hi hk hcap hd hg hla hlc hoi hok n1 n2 n3 n4 n5
  go_enter Tryz.func78, Tryz.ntmps78
  go_wp2
  go_region_held3 (fun w' => w'.cell? ⟨Bu, 0, none⟩ = some (.pointer (some ⟨U, 0, none⟩)) ∧ w'.cell? ⟨Ba, 0, none⟩ = some (.int .i64 r) ∧ w'.cell? ⟨Ba, 1, none⟩ = some (.int .i64 m) ∧ w'.cell? ⟨Ba, 2, none⟩ = some (.slice (some ⟨b, o, none⟩) la cap) ∧ w'.cell? ⟨Bc, 0, none⟩ = some (.int .i64 c) ∧ w'.cell? ⟨Bc, 1, none⟩ = some (.int .i64 m) ∧ w'.cell? ⟨Bc, 2, none⟩ = some (.slice (some ⟨L, 0, none⟩) lc lc))
      (simp [go_sem, *])
      (first
        | (go_at_call 79; refine (unhide D _ (unhide U3) (unhide M3)).mono ?_; rintro e w4 ⟨rfl, h4, m4⟩; obtain ⟨t1, t2, t3, t4, t5, t6, t7⟩ := unhide CW w4 ((unhide M3).trans m4); have R4 : Hid (UC U (cc || g) (nn + 2 * m) w4 ∧ Mk U w w4) := ⟨h4, Mk.of ((unhide M3).trans m4)⟩; clear h4 m4 D)
        | (go_at_call 80; refine (unhide P1 _).mono ?_; clear P1; rintro e w2 ⟨rfl, m2⟩; have M2 : Hid (Mod U w w2) := (mod_drew U w).trans (Mod.of m2); have U2 : Hid (UC U cc nn w2) := Blk.grown (unhide H) m2; obtain ⟨y1, y2, y3, y4, y5, y6, y7⟩ := unhide CW w2 (unhide M2); clear m2)
        | (go_at_call 80; refine (unhide P2 _).mono ?_; clear P2; rintro e w3 ⟨rfl, m3⟩; have M3 : Hid (Mod U w w3) := (unhide M2).trans (Mod.of m3); have U3 : Hid (UC U cc nn w3) := Blk.grown (unhide U2) m3; obtain ⟨z1, z2, z3, z4, z5, z6, z7⟩ := unhide CW w3 (unhide M3); clear m3))
  go_wp2
  go_ret
  exact ⟨rfl, unhide R4⟩

end Go.Proofs.YtopaakjildmjcaaGreat

/- Package mat: blocks laid one behind the other; Mul. -/
namespace Go.Proofs.YtopaakjildmjcaaGreat
open Go.RowKit Go.Shelf Go.Proofs.Wd
set_option linter.unusedVariables false
set_option linter.unusedSimpArgs false
set_option maxRecDepth 10000

theorem alloc3 (w : World) (c1 : Array Value) (t1 : TypeId) (c2 : Array Value) (t2 : TypeId) (c3 : Array Value) (t3 : TypeId) : Grown w (((w.alloc (.cells c1 t1)).alloc (.cells c2 t2)).alloc (.cells c3 t3)) ∧ (((w.alloc (.cells c1 t1)).alloc (.cells c2 t2)).alloc (.cells c3 t3)).heap.size = w.heap.size + 1 + 1 + 1 ∧ Blk (w.heap.size) c1 t1 (((w.alloc (.cells c1 t1)).alloc (.cells c2 t2)).alloc (.cells c3 t3)) ∧ Blk (w.heap.size + 1) c2 t2 (((w.alloc (.cells c1 t1)).alloc (.cells c2 t2)).alloc (.cells c3 t3)) ∧ Blk (w.heap.size + 1 + 1) c3 t3 (((w.alloc (.cells c1 t1)).alloc (.cells c2 t2)).alloc (.cells c3 t3)) := by
  have g1 : Grown w (w.alloc (.cells c1 t1)) := (Grown.refl _).alloc _ _
  have b1 := Blk.new w c1 t1
  have s1 : (w.alloc (.cells c1 t1)).heap.size = w.heap.size + 1 := by rw [World.size_alloc]
  generalize w.alloc (.cells c1 t1) = w1 at *
  have g2 : Grown w1 (w1.alloc (.cells c2 t2)) := (Grown.refl _).alloc _ _
  have b2 := Blk.new w1 c2 t2
  have s2 : (w1.alloc (.cells c2 t2)).heap.size = w.heap.size + 1 + 1 := by rw [World.size_alloc, s1]
  rw [s1] at b2
  generalize w1.alloc (.cells c2 t2) = w2 at *
  have g3 : Grown w2 (w2.alloc (.cells c3 t3)) := (Grown.refl _).alloc _ _
  have b3 := Blk.new w2 c3 t3
  have s3 : (w2.alloc (.cells c3 t3)).heap.size = w.heap.size + 1 + 1 + 1 := by rw [World.size_alloc, s2]
  rw [s2] at b3
  generalize w2.alloc (.cells c3 t3) = w3 at *
  refine ⟨gtrans (gtrans g1 g2) g3, s3, (Blk.grown (Blk.grown b1 g2) g3), (Blk.grown b2 g3), b3⟩
theorem alloc4 (w : World) (c1 : Array Value) (t1 : TypeId) (c2 : Array Value) (t2 : TypeId) (c3 : Array Value) (t3 : TypeId) (c4 : Array Value) (t4 : TypeId) : Grown w ((((w.alloc (.cells c1 t1)).alloc (.cells c2 t2)).alloc (.cells c3 t3)).alloc (.cells c4 t4)) ∧ ((((w.alloc (.cells c1 t1)).alloc (.cells c2 t2)).alloc (.cells c3 t3)).alloc (.cells c4 t4)).heap.size = w.heap.size + 1 + 1 + 1 + 1 ∧ Blk (w.heap.size) c1 t1 ((((w.alloc (.cells c1 t1)).alloc (.cells c2 t2)).alloc (.cells c3 t3)).alloc (.cells c4 t4)) ∧ Blk (w.heap.size + 1) c2 t2 ((((w.alloc (.cells c1 t1)).alloc (.cells c2 t2)).alloc (.cells c3 t3)).alloc (.cells c4 t4)) ∧ Blk (w.heap.size + 1 + 1) c3 t3 ((((w.alloc (.cells c1 t1)).alloc (.cells c2 t2)).alloc (.cells c3 t3)).alloc (.cells c4 t4)) ∧ Blk (w.heap.size + 1 + 1 + 1) c4 t4 ((((w.alloc (.cells c1 t1)).alloc (.cells c2 t2)).alloc (.cells c3 t3)).alloc (.cells c4 t4)) := by
  have g1 : Grown w (w.alloc (.cells c1 t1)) := (Grown.refl _).alloc _ _
  have b1 := Blk.new w c1 t1
  have s1 : (w.alloc (.cells c1 t1)).heap.size = w.heap.size + 1 := by rw [World.size_alloc]
  generalize w.alloc (.cells c1 t1) = w1 at *
  have g2 : Grown w1 (w1.alloc (.cells c2 t2)) := (Grown.refl _).alloc _ _
  have b2 := Blk.new w1 c2 t2
  have s2 : (w1.alloc (.cells c2 t2)).heap.size = w.heap.size + 1 + 1 := by rw [World.size_alloc, s1]
  rw [s1] at b2
  generalize w1.alloc (.cells c2 t2) = w2 at *
  have g3 : Grown w2 (w2.alloc (.cells c3 t3)) := (Grown.refl _).alloc _ _
  have b3 := Blk.new w2 c3 t3
  have s3 : (w2.alloc (.cells c3 t3)).heap.size = w.heap.size + 1 + 1 + 1 := by rw [World.size_alloc, s2]
  rw [s2] at b3
  generalize w2.alloc (.cells c3 t3) = w3 at *
  have g4 : Grown w3 (w3.alloc (.cells c4 t4)) := (Grown.refl _).alloc _ _
  have b4 := Blk.new w3 c4 t4
  have s4 : (w3.alloc (.cells c4 t4)).heap.size = w.heap.size + 1 + 1 + 1 + 1 := by rw [World.size_alloc, s3]
  rw [s3] at b4
  generalize w3.alloc (.cells c4 t4) = w4 at *
  refine ⟨gtrans (gtrans (gtrans g1 g2) g3) g4, s4, (Blk.grown (Blk.grown (Blk.grown b1 g2) g3) g4), (Blk.grown (Blk.grown b2 g3) g4), (Blk.grown b3 g4), b4⟩
theorem alloc5 (w : World) (c1 : Array Value) (t1 : TypeId) (c2 : Array Value) (t2 : TypeId) (c3 : Array Value) (t3 : TypeId) (c4 : Array Value) (t4 : TypeId) (c5 : Array Value) (t5 : TypeId) : Grown w (((((w.alloc (.cells c1 t1)).alloc (.cells c2 t2)).alloc (.cells c3 t3)).alloc (.cells c4 t4)).alloc (.cells c5 t5)) ∧ (((((w.alloc (.cells c1 t1)).alloc (.cells c2 t2)).alloc (.cells c3 t3)).alloc (.cells c4 t4)).alloc (.cells c5 t5)).heap.size = w.heap.size + 1 + 1 + 1 + 1 + 1 ∧ Blk (w.heap.size) c1 t1 (((((w.alloc (.cells c1 t1)).alloc (.cells c2 t2)).alloc (.cells c3 t3)).alloc (.cells c4 t4)).alloc (.cells c5 t5)) ∧ Blk (w.heap.size + 1) c2 t2 (((((w.alloc (.cells c1 t1)).alloc (.cells c2 t2)).alloc (.cells c3 t3)).alloc (.cells c4 t4)).alloc (.cells c5 t5)) ∧ Blk (w.heap.size + 1 + 1) c3 t3 (((((w.alloc (.cells c1 t1)).alloc (.cells c2 t2)).alloc (.cells c3 t3)).alloc (.cells c4 t4)).alloc (.cells c5 t5)) ∧ Blk (w.heap.size + 1 + 1 + 1) c4 t4 (((((w.alloc (.cells c1 t1)).alloc (.cells c2 t2)).alloc (.cells c3 t3)).alloc (.cells c4 t4)).alloc (.cells c5 t5)) ∧ Blk (w.heap.size + 1 + 1 + 1 + 1) c5 t5 (((((w.alloc (.cells c1 t1)).alloc (.cells c2 t2)).alloc (.cells c3 t3)).alloc (.cells c4 t4)).alloc (.cells c5 t5)) := by
  have g1 : Grown w (w.alloc (.cells c1 t1)) := (Grown.refl _).alloc _ _
  have b1 := Blk.new w c1 t1
  have s1 : (w.alloc (.cells c1 t1)).heap.size = w.heap.size + 1 := by rw [World.size_alloc]
  generalize w.alloc (.cells c1 t1) = w1 at *
  have g2 : Grown w1 (w1.alloc (.cells c2 t2)) := (Grown.refl _).alloc _ _
  have b2 := Blk.new w1 c2 t2
  have s2 : (w1.alloc (.cells c2 t2)).heap.size = w.heap.size + 1 + 1 := by rw [World.size_alloc, s1]
  rw [s1] at b2
  generalize w1.alloc (.cells c2 t2) = w2 at *
  have g3 : Grown w2 (w2.alloc (.cells c3 t3)) := (Grown.refl _).alloc _ _
  have b3 := Blk.new w2 c3 t3
  have s3 : (w2.alloc (.cells c3 t3)).heap.size = w.heap.size + 1 + 1 + 1 := by rw [World.size_alloc, s2]
  rw [s2] at b3
  generalize w2.alloc (.cells c3 t3) = w3 at *
  have g4 : Grown w3 (w3.alloc (.cells c4 t4)) := (Grown.refl _).alloc _ _
  have b4 := Blk.new w3 c4 t4
  have s4 : (w3.alloc (.cells c4 t4)).heap.size = w.heap.size + 1 + 1 + 1 + 1 := by rw [World.size_alloc, s3]
  rw [s3] at b4
  generalize w3.alloc (.cells c4 t4) = w4 at *
  have g5 : Grown w4 (w4.alloc (.cells c5 t5)) := (Grown.refl _).alloc _ _
  have b5 := Blk.new w4 c5 t5
  have s5 : (w4.alloc (.cells c5 t5)).heap.size = w.heap.size + 1 + 1 + 1 + 1 + 1 := by rw [World.size_alloc, s4]
  rw [s4] at b5
  generalize w4.alloc (.cells c5 t5) = w5 at *
  refine ⟨gtrans (gtrans (gtrans (gtrans g1 g2) g3) g4) g5, s5, (Blk.grown (Blk.grown (Blk.grown (Blk.grown b1 g2) g3) g4) g5), (Blk.grown (Blk.grown (Blk.grown b2 g3) g4) g5), (Blk.grown (Blk.grown b3 g4) g5), (Blk.grown b4 g5), b5⟩

set_option maxHeartbeats 2000000 in
theorem matMul_ok (U : Nat) (c0 : Bool) (n0 : Int) (hn : 0 ≤ n0 ∧ n0 < 1152921504606846976) (r m c b o cap b2 o2 cap2 : Nat) (A B : Nat → Int) (hr : 1 ≤ r ∧ r ≤ 12) (hm : 1 ≤ m ∧ m ≤ 12) (hc : 1 ≤ c ∧ c ≤ 12) (hcap : r * m ≤ cap)
    (hA : ∀ j, j < r * m → I64 (A j)) (hB : ∀ j, j < m * c → I64 (B j)) (w : World) (h : UC U c0 n0 w) (za : ∀ j, j < r * m → w.cell? ⟨b, o + j, none⟩ = some (.int .i64 (A j))) (zb : ∀ j, j < m * c → w.cell? ⟨b2, o2 + j, none⟩ = some (.int .i64 (B j))) (n4 : b ≠ U) (n5 : b2 ≠ U) :
    Calls Tryz.prog 46 #[.pointer (some ⟨U, 0, none⟩), .agg #[.int .i64 r, .int .i64 m, .slice (some ⟨b, o, none⟩) (r * m) cap], .agg #[.int .i64 m, .int .i64 c, .slice (some ⟨b2, o2, none⟩) (m * c) cap2]] w fun e w' => MatP r c (r * c) (mulZ A B m c) 0 (fun w' => UC U (c0 || orC (mulG A B m c) (r * c)) (n0 + 2 * m * ((r * c : Nat) : Int)) w' ∧ Mk U w w') w e w' := by
  have hlt := Blk.lt h
  obtain ⟨G, s5, bu, ba, bb, br, bx⟩ := alloc5 w #[.pointer (some ⟨U, 0, none⟩)] 25 #[.int .i64 r, .int .i64 m, .slice (some ⟨b, o, none⟩) (r * m) cap] 24 #[.int .i64 m, .int .i64 c, .slice (some ⟨b2, o2, none⟩) (m * c) cap2] 24 #[.int .i64 0, .int .i64 0, .slice none 0 0] 24 #[.int .i64 r, .int .i64 m, .slice (some ⟨b, o, none⟩) (r * m) cap, .int .i64 m, .int .i64 c, .slice (some ⟨b2, o2, none⟩) (m * c) cap2] 24
  have RF := hide (refuse2 U c0 n0 ⟨hn.1, by omega⟩ r m (some ⟨b, o, none⟩) (r * m) cap m c (some ⟨b2, o2, none⟩) (m * c) cap2 (w.heap.size + 1 + 1 + 1 + 1) 0 (Or.inl ⟨⟨⟨by omega, by omega, by rw [Int.natCast_mul]⟩, ⟨by omega, by omega, by rw [Int.natCast_mul]⟩⟩, rfl⟩) _ (Blk.grown h G) bx (by omega))
  have TD : Hid (∀ wx, Mod U w wx → Calls Tryz.prog 77 #[.agg #[.int .i64 m, .int .i64 c, .slice (some ⟨b2, o2, none⟩) (m * c) cap2]] wx fun e w' => MadeP c m (turnZ B m c) (Kp wx) wx e w') := fun wx mu => matTurned m c b2 o2 cap2 B hm hc wx (fun j hj => mu.cell (zb j hj) n5)
  have MD : Hid (∀ (L Bc : Nat) wx, Mk U w wx → UC U c0 n0 wx → Blk (w.heap.size) #[.pointer (some ⟨U, 0, none⟩)] 25 wx → Blk (w.heap.size + 1) #[.int .i64 r, .int .i64 m, .slice (some ⟨b, o, none⟩) (r * m) cap] 24 wx → Blk Bc #[.int .i64 c, .int .i64 m, .slice (some ⟨L, 0, none⟩) (c * m) (c * m)] 24 wx → Blk L (ints (c * m) (turnZ B m c)) 3 wx → L ≠ U → Bc ≠ U →
      Calls Tryz.prog 61 #[.int .i64 r, .int .i64 c, .func (.func 78) #[] #[.pointer (some ⟨w.heap.size, 0, none⟩), .pointer (some ⟨w.heap.size + 1, 0, none⟩), .pointer (some ⟨Bc, 0, none⟩)]] wx fun e w' => MadeP r c (mulZ A B m c) (fun w' => UC U (c0 || orC (mulG A B m c) (r * c)) (n0 + 2 * m * ((r * c : Nat) : Int)) w' ∧ Mk U wx w') wx e w') := by
    intro L Bc wx mx ux xu xa xc xl nL nB
    refine madeU U c0 n0 (2 * m) (by omega) (mulG A B m c) 78 (enters_of Tryz.func78 (by kernel_rfl) rfl) _ r c hr hc (mulZ A B m c) wx hn ux (fun cc nn i k a hi hk hnn ua ma => ?_)
    have := mul1 U cc nn hnn r m c i k b o cap L w.heap.size (w.heap.size + 1) Bc A (turnZ B m c) hr hm hc hi hk hcap hA (turn_I64 B m c hB) a ua (Blk.mk xu ma (by omega)) (Blk.mk xa ma (by omega)) (Blk.mk xc ma nB)
      (fun j hj => ma.cell (mx.cell (za j hj) n4) n4) (fun j hj => by rw [Nat.zero_add, Blk.cell (Blk.mk xl ma nL), ints_at _ _ j hj]) (by omega) (by omega) nB n4 nL
    rw [(mul_rows A B m c i k hk).1, (mul_rows A B m c i k hk).2] at this
    exact this
  have HB := hide (And.intro bu (And.intro ba (And.intro bb br)))
  have HG := hide (And.intro G (And.intro s5 hlt))
  obtain ⟨la, hla⟩ : ∃ q, r * m = q := ⟨_, rfl⟩
  obtain ⟨lb, hlb⟩ : ∃ q, m * c = q := ⟨_, rfl⟩
  rw [hla, hlb] at RF HG HB
  rw [hlb] at TD
  rw [hla] at MD
  rw [hla, hlb]
  clear G s5 bu ba bb br bx h hlt za zb hA hB hr hm hc hcap hla hlb n4 n5 hn
  go_enter Tryz.func46, Tryz.ntmps46
  go_wp2_with fail
  generalize (((((w.alloc (.cells #[.pointer (some ⟨U, 0, none⟩)] 25)).alloc (.cells #[.int .i64 r, .int .i64 m, .slice (some ⟨b, o, none⟩) la cap] 24)).alloc (.cells #[.int .i64 m, .int .i64 c, .slice (some ⟨b2, o2, none⟩) lb cap2] 24)).alloc (.cells #[.int .i64 0, .int .i64 0, .slice none 0 0] 24)).alloc (.cells #[.int .i64 r, .int .i64 m, .slice (some ⟨b, o, none⟩) la cap, .int .i64 m, .int .i64 c, .slice (some ⟨b2, o2, none⟩) lb cap2] 24)) = w1 at *
  refine (unhide RF).mono ?_
  rintro e w2 ⟨rfl, u2, m2⟩
  have M2 : Hid (Mod U w w2) := (Mod.of (unhide HG).1).trans m2
  have Z2 : Hid (w.heap.size + 1 + 1 + 1 + 1 + 1 ≤ w2.heap.size) := by have := (unhide HG).2.1; have := m2.2.2.2.2; show _ ≤ _; omega
  obtain ⟨bu, ba, bb, br⟩ := unhide HB
  have lU : Hid (U < w.heap.size) := (unhide HG).2.2
  have bu2 := Blk.keep bu m2 (by have := unhide lU; omega)
  have ba2 := Blk.keep ba m2 (by have := unhide lU; omega)
  have bb2 := Blk.keep bb m2 (by have := unhide lU; omega)
  have br2 := Blk.keep br m2 (by have := unhide lU; omega)
  have p1 : w2.cell? ⟨w.heap.size + 1, 0, none⟩ = some (.int .i64 r) := Blk.cell ba2 0
  have p2 : w2.cell? ⟨w.heap.size + 1, 1, none⟩ = some (.int .i64 m) := Blk.cell ba2 1
  have q0 : w2.cell? ⟨w.heap.size + 1 + 1, 0, none⟩ = some (.int .i64 m) := Blk.cell bb2 0
  have q1 : w2.cell? ⟨w.heap.size + 1 + 1, 1, none⟩ = some (.int .i64 c) := Blk.cell bb2 1
  have q2 : w2.cell? ⟨w.heap.size + 1 + 1, 2, none⟩ = some (.slice (some ⟨b2, o2, none⟩) lb cap2) := Blk.cell bb2 2
  have H2 := hide (And.intro u2 (And.intro bu2 (And.intro ba2 (And.intro bb2 br2))))
  have T2 := hide (unhide TD w2 (unhide M2))
  clear bu ba bb br bu2 ba2 bb2 br2 u2 m2 RF TD HB
  go_wp2_with fail
  refine (unhide T2).mono ?_
  rintro e w3 ⟨L, h1, rfl, h3, k3⟩
  have G3 : Hid (Grown w3 (w3.alloc (.cells #[.int .i64 c, .int .i64 m, .slice (some ⟨L, 0, none⟩) (c * m) (c * m)] 24))) := (Grown.refl _).alloc _ _
  have HC : Hid (Blk w3.heap.size #[.int .i64 c, .int .i64 m, .slice (some ⟨L, 0, none⟩) (c * m) (c * m)] 24 (w3.alloc (.cells #[.int .i64 c, .int .i64 m, .slice (some ⟨L, 0, none⟩) (c * m) (c * m)] 24))) := Blk.new w3 _ _
  have K4 : Hid (Kp w2 (w3.alloc (.cells #[.int .i64 c, .int .i64 m, .slice (some ⟨L, 0, none⟩) (c * m) (c * m)] 24))) := k3.grown (unhide G3)
  have nL : Hid (L ≠ U ∧ w3.heap.size ≠ U) := by
    have := Blk.lt (unhide H2).1
    have := k3.2.2.2
    show L ≠ U ∧ w3.heap.size ≠ U
    omega
  have L3 : Hid (w2.heap.size ≤ L ∧ Blk L (ints (c * m) (turnZ B m c)) 3 (w3.alloc (.cells #[.int .i64 c, .int .i64 m, .slice (some ⟨L, 0, none⟩) (c * m) (c * m)] 24))) := ⟨h1, Blk.grown h3 (unhide G3)⟩
  clear h1 h3 k3 T2 G3
  generalize hw4 : w3.alloc (.cells #[.int .i64 c, .int .i64 m, .slice (some ⟨L, 0, none⟩) (c * m) (c * m)] 24) = w4 at HC K4 L3
  have r1 : w4.cell? ⟨w.heap.size + 1, 0, none⟩ = some (.int .i64 r) := Blk.cell (Blk.kp (unhide H2).2.2.1 (unhide K4)) 0
  have r2 : w4.cell? ⟨w.heap.size + 1 + 1, 1, none⟩ = some (.int .i64 c) := Blk.cell (Blk.kp (unhide H2).2.2.2.1 (unhide K4)) 1
  have M4 := hide (unhide MD L w3.heap.size w4 ((Mk.of (unhide M2)).trans ⟨(unhide K4).1, (unhide K4).2.1, fun k hk _ => (unhide K4).2.2.1 k hk, (unhide K4).2.2.2⟩) (Blk.kp (unhide H2).1 (unhide K4)) (Blk.kp (unhide H2).2.1 (unhide K4)) (Blk.kp (unhide H2).2.2.1 (unhide K4)) (unhide HC) (unhide L3).2 (unhide nL).1 (unhide nL).2)
  clear MD p1 p2 q0 q1 q2
  go_wp2_with fail
  clear hw4
  refine (unhide M4).mono ?_
  rintro e w5 ⟨Lb, h1, rfl, h3, u5, mk5⟩
  have b3 : Blk (w.heap.size + 1 + 1 + 1) #[.int .i64 0, .int .i64 0, .slice none 0 0] 24 w5 := Blk.mk (Blk.kp (unhide H2).2.2.2.2 (unhide K4)) mk5 (by have := unhide lU; omega)
  have e0 : w5.cell? ⟨w.heap.size + 1 + 1 + 1, 0, none⟩ = some (.int .i64 0) := Blk.cell b3 0
  have e1 : w5.cell? ⟨w.heap.size + 1 + 1 + 1, 1, none⟩ = some (.int .i64 0) := Blk.cell b3 1
  have e2 : w5.cell? ⟨w.heap.size + 1 + 1 + 1, 2, none⟩ = some (.slice none 0 0) := Blk.cell b3 2
  have f := Blk.free b3
  have R := hide (And.intro b3 (And.intro h1 (And.intro h3 (And.intro u5 mk5))))
  clear b3 h1 h3 u5 mk5 M4 r1 r2
  go_wp2
  obtain ⟨b3, h1, h3, u5, mk5⟩ := unhide R

  have P := putM b3 (.int .i64 r) (.int .i64 c) (.slice (some ⟨Lb, 0, none⟩) (r * c) (r * c))
  generalize (((w5.setCell ⟨w.heap.size + 1 + 1 + 1, 0, none⟩ (.int .i64 r)).setCell ⟨w.heap.size + 1 + 1 + 1, 1, none⟩ (.int .i64 c)).setCell ⟨w.heap.size + 1 + 1 + 1, 2, none⟩ (.slice (some ⟨Lb, 0, none⟩) (r * c) (r * c))) = wE at *
  have c0 : wE.cell? ⟨w.heap.size + 1 + 1 + 1, 0, none⟩ = some (.int .i64 r) := Blk.cell P.1 0
  have c1 : wE.cell? ⟨w.heap.size + 1 + 1 + 1, 1, none⟩ = some (.int .i64 c) := Blk.cell P.1 1
  have c2 : wE.cell? ⟨w.heap.size + 1 + 1 + 1, 2, none⟩ = some (.slice (some ⟨Lb, 0, none⟩) (r * c) (r * c)) := Blk.cell P.1 2
  refine bodyPost_ret (v := .tuple #[.agg #[.int .i64 r, .int .i64 c, .slice (some ⟨Lb, 0, none⟩) (r * c) (r * c)], .int .i64 0]) (by simp [results, Tryz.results46, go_sem, c0, c1, c2]) rfl ?_
  have hz := unhide Z2
  have hk := (unhide K4).2.2.2
  have hu := unhide lU
  have mw : Mk U w w4 := (Mk.of (unhide M2)).trans ⟨(unhide K4).1, (unhide K4).2.1, fun k hk _ => (unhide K4).2.2.1 k hk, (unhide K4).2.2.2⟩
  have hw5 := (mw.trans mk5).2.2.2
  exact ⟨_, _, Lb, rfl, by omega, Or.inr ⟨rfl, Blk.keep h3 P.2 (by omega)⟩, Nat.le_refl _, Blk.keep u5 P.2 (by omega), (mw.trans mk5).new P.2 (by omega)⟩


set_option maxHeartbeats 2000000 in
theorem matMul_bad (U : Nat) (c0 : Bool) (n0 : Int) (hn : 0 ≤ n0 ∧ n0 < 1152921504606846976) (R1 C1 R2 C2 : Int) (a1 a2 : Option Addr) (l1 p1 l2 p2 : Nat) (Z : Nat → Int) (hb : ¬ (okM R1 C1 l1 ∧ okM R2 C2 l2 ∧ C1 = R2)) (w : World) (h : UC U c0 n0 w) :
    Calls Tryz.prog 46 #[.pointer (some ⟨U, 0, none⟩), .agg #[.int .i64 R1, .int .i64 C1, .slice a1 l1 p1], .agg #[.int .i64 R2, .int .i64 C2, .slice a2 l2 p2]] w fun e w' => MatP 0 0 0 Z 3 (fun w' => UC U c0 n0 w' ∧ Mk U w w') w e w' := by
  have hlt := Blk.lt h
  obtain ⟨G, s5, bu, ba, bb, br, bx⟩ := alloc5 w #[.pointer (some ⟨U, 0, none⟩)] 25 #[.int .i64 R1, .int .i64 C1, .slice a1 l1 p1] 24 #[.int .i64 R2, .int .i64 C2, .slice a2 l2 p2] 24 #[.int .i64 0, .int .i64 0, .slice none 0 0] 24 #[.int .i64 R1, .int .i64 C1, .slice a1 l1 p1, .int .i64 R2, .int .i64 C2, .slice a2 l2 p2] 24
  have hu := Blk.grown h G
  have lU : Hid (U < w.heap.size) := hlt
  have HB := hide (And.intro ba (And.intro bb br))
  have HG := hide G
  by_cases ho : okM R1 C1 l1 ∧ okM R2 C2 l2
  · have RF := hide (refuse2 U c0 n0 ⟨hn.1, by omega⟩ R1 C1 a1 l1 p1 R2 C2 a2 l2 p2 (w.heap.size + 1 + 1 + 1 + 1) 0 (Or.inl ⟨ho, rfl⟩) _ hu bx (by omega))
    have hne : (C1 != R2) = true := by simpa using (fun e => hb ⟨ho.1, ho.2, e⟩)
    clear G s5 bu ba bb br bx h hu hlt hb ho hn
    go_enter Tryz.func46, Tryz.ntmps46
    go_wp2_with fail
    generalize (((((w.alloc (.cells #[.pointer (some ⟨U, 0, none⟩)] 25)).alloc (.cells #[.int .i64 R1, .int .i64 C1, .slice a1 l1 p1] 24)).alloc (.cells #[.int .i64 R2, .int .i64 C2, .slice a2 l2 p2] 24)).alloc (.cells #[.int .i64 0, .int .i64 0, .slice none 0 0] 24)).alloc (.cells #[.int .i64 R1, .int .i64 C1, .slice a1 l1 p1, .int .i64 R2, .int .i64 C2, .slice a2 l2 p2] 24)) = w1 at *
    refine (unhide RF).mono ?_
    rintro e w2 ⟨rfl, u2, m2⟩
    have b3 := Blk.keep (unhide HB).2.2 m2 (by have := unhide lU; omega)
    have p2 : w2.cell? ⟨w.heap.size + 1, 1, none⟩ = some (.int .i64 C1) := Blk.cell (Blk.keep (unhide HB).1 m2 (by have := unhide lU; omega)) 1
    have q0 : w2.cell? ⟨w.heap.size + 1 + 1, 0, none⟩ = some (.int .i64 R2) := Blk.cell (Blk.keep (unhide HB).2.1 m2 (by have := unhide lU; omega)) 0
    have e0 : w2.cell? ⟨w.heap.size + 1 + 1 + 1, 0, none⟩ = some (.int .i64 0) := Blk.cell b3 0
    have e1 : w2.cell? ⟨w.heap.size + 1 + 1 + 1, 1, none⟩ = some (.int .i64 0) := Blk.cell b3 1
    have e2 : w2.cell? ⟨w.heap.size + 1 + 1 + 1, 2, none⟩ = some (.slice none 0 0) := Blk.cell b3 2
    have f := Blk.free b3
    have R := hide (And.intro b3 (And.intro u2 (Mk.of ((Mod.of (unhide HG)).trans m2))))
    clear b3 u2 m2 RF
    go_wp2
    obtain ⟨b3, u2, m2⟩ := unhide R
    have P := putM b3 (.int .i64 0) (.int .i64 0) (.slice none 0 0)
    generalize (((w2.setCell ⟨w.heap.size + 1 + 1 + 1, 0, none⟩ (.int .i64 0)).setCell ⟨w.heap.size + 1 + 1 + 1, 1, none⟩ (.int .i64 0)).setCell ⟨w.heap.size + 1 + 1 + 1, 2, none⟩ (.slice none 0 0)) = wE at *
    have c0 : wE.cell? ⟨w.heap.size + 1 + 1 + 1, 0, none⟩ = some (.int .i64 0) := Blk.cell P.1 0
    have c1 : wE.cell? ⟨w.heap.size + 1 + 1 + 1, 1, none⟩ = some (.int .i64 0) := Blk.cell P.1 1
    have c2 : wE.cell? ⟨w.heap.size + 1 + 1 + 1, 2, none⟩ = some (.slice none 0 0) := Blk.cell P.1 2
    refine bodyPost_ret (v := .tuple #[.agg #[.int .i64 0, .int .i64 0, .slice none 0 0], .int .i64 3]) (by simp [results, Tryz.results46, go_sem, c0, c1, c2]) rfl ?_
    exact ⟨none, 0, w.heap.size, rfl, Nat.le_refl _, Or.inl rfl, Nat.le_refl _, Blk.keep u2 P.2 (by have := unhide lU; omega), m2.new P.2 (by omega)⟩
  · have RF := hide (refuse2 U c0 n0 ⟨hn.1, by omega⟩ R1 C1 a1 l1 p1 R2 C2 a2 l2 p2 (w.heap.size + 1 + 1 + 1 + 1) 3 (Or.inr ⟨ho, rfl⟩) _ hu bx (by omega))
    clear G s5 bu ba bb br bx h hu hlt hb ho hn
    go_enter Tryz.func46, Tryz.ntmps46
    go_wp2_with fail
    generalize (((((w.alloc (.cells #[.pointer (some ⟨U, 0, none⟩)] 25)).alloc (.cells #[.int .i64 R1, .int .i64 C1, .slice a1 l1 p1] 24)).alloc (.cells #[.int .i64 R2, .int .i64 C2, .slice a2 l2 p2] 24)).alloc (.cells #[.int .i64 0, .int .i64 0, .slice none 0 0] 24)).alloc (.cells #[.int .i64 R1, .int .i64 C1, .slice a1 l1 p1, .int .i64 R2, .int .i64 C2, .slice a2 l2 p2] 24)) = w1 at *
    refine (unhide RF).mono ?_
    rintro e w2 ⟨rfl, u2, m2⟩
    have b3 := Blk.keep (unhide HB).2.2 m2 (by have := unhide lU; omega)
    have e0 : w2.cell? ⟨w.heap.size + 1 + 1 + 1, 0, none⟩ = some (.int .i64 0) := Blk.cell b3 0
    have e1 : w2.cell? ⟨w.heap.size + 1 + 1 + 1, 1, none⟩ = some (.int .i64 0) := Blk.cell b3 1
    have e2 : w2.cell? ⟨w.heap.size + 1 + 1 + 1, 2, none⟩ = some (.slice none 0 0) := Blk.cell b3 2
    have f := Blk.free b3
    have R := hide (And.intro b3 (And.intro u2 (Mk.of ((Mod.of (unhide HG)).trans m2))))
    clear b3 u2 m2 RF
    go_wp2
    obtain ⟨b3, u2, m2⟩ := unhide R
    have P := putM b3 (.int .i64 0) (.int .i64 0) (.slice none 0 0)
    generalize (((w2.setCell ⟨w.heap.size + 1 + 1 + 1, 0, none⟩ (.int .i64 0)).setCell ⟨w.heap.size + 1 + 1 + 1, 1, none⟩ (.int .i64 0)).setCell ⟨w.heap.size + 1 + 1 + 1, 2, none⟩ (.slice none 0 0)) = wE at *
    have c0 : wE.cell? ⟨w.heap.size + 1 + 1 + 1, 0, none⟩ = some (.int .i64 0) := Blk.cell P.1 0
    have c1 : wE.cell? ⟨w.heap.size + 1 + 1 + 1, 1, none⟩ = some (.int .i64 0) := Blk.cell P.1 1
    have c2 : wE.cell? ⟨w.heap.size + 1 + 1 + 1, 2, none⟩ = some (.slice none 0 0) := Blk.cell P.1 2
    refine bodyPost_ret (v := .tuple #[.agg #[.int .i64 0, .int .i64 0, .slice none 0 0], .int .i64 3]) (by simp [results, Tryz.results46, go_sem, c0, c1, c2]) rfl ?_
    exact ⟨none, 0, w.heap.size, rfl, Nat.le_refl _, Or.inl rfl, Nat.le_refl _, Blk.keep u2 P.2 (by have := unhide lU; omega), m2.new P.2 (by omega)⟩

set_option maxHeartbeats 2000000 in
theorem matMul_none (p : Option Addr) (R1 C1 R2 C2 : Int) (a1 a2 : Option Addr) (l1 p1 l2 p2 : Nat) (Z : Nat → Int) (w : World) (h : NU p w) :
    Calls Tryz.prog 46 #[.pointer p, .agg #[.int .i64 R1, .int .i64 C1, .slice a1 l1 p1], .agg #[.int .i64 R2, .int .i64 C2, .slice a2 l2 p2]] w fun e w' => MatP 0 0 0 Z 1 (Kp w) w e w' := by
  obtain ⟨G, s5, bu, ba, bb, br, bx⟩ := alloc5 w #[.pointer p] 25 #[.int .i64 R1, .int .i64 C1, .slice a1 l1 p1] 24 #[.int .i64 R2, .int .i64 C2, .slice a2 l2 p2] 24 #[.int .i64 0, .int .i64 0, .slice none 0 0] 24 #[.int .i64 R1, .int .i64 C1, .slice a1 l1 p1, .int .i64 R2, .int .i64 C2, .slice a2 l2 p2] 24
  have HB := hide br
  have HG := hide G
  have RF := hide (fun s => refuseNone p s _ (h.grown G))
  clear G s5 bu ba bb br bx h
  go_enter Tryz.func46, Tryz.ntmps46
  go_wp2_with fail
  generalize (((((w.alloc (.cells #[.pointer p] 25)).alloc (.cells #[.int .i64 R1, .int .i64 C1, .slice a1 l1 p1] 24)).alloc (.cells #[.int .i64 R2, .int .i64 C2, .slice a2 l2 p2] 24)).alloc (.cells #[.int .i64 0, .int .i64 0, .slice none 0 0] 24)).alloc (.cells #[.int .i64 R1, .int .i64 C1, .slice a1 l1 p1, .int .i64 R2, .int .i64 C2, .slice a2 l2 p2] 24)) = w1 at *
  refine (unhide RF _).mono ?_
  rintro e w2 ⟨rfl, rfl⟩
  have e0 : w2.cell? ⟨w.heap.size + 1 + 1 + 1, 0, none⟩ = some (.int .i64 0) := Blk.cell (unhide HB) 0
  have e1 : w2.cell? ⟨w.heap.size + 1 + 1 + 1, 1, none⟩ = some (.int .i64 0) := Blk.cell (unhide HB) 1
  have e2 : w2.cell? ⟨w.heap.size + 1 + 1 + 1, 2, none⟩ = some (.slice none 0 0) := Blk.cell (unhide HB) 2
  have f := Blk.free (unhide HB)
  clear RF
  go_wp2
  have b3 := unhide HB
  have P := putM b3 (.int .i64 0) (.int .i64 0) (.slice none 0 0)
  generalize (((w2.setCell ⟨w.heap.size + 1 + 1 + 1, 0, none⟩ (.int .i64 0)).setCell ⟨w.heap.size + 1 + 1 + 1, 1, none⟩ (.int .i64 0)).setCell ⟨w.heap.size + 1 + 1 + 1, 2, none⟩ (.slice none 0 0)) = wE at *
  have c0 : wE.cell? ⟨w.heap.size + 1 + 1 + 1, 0, none⟩ = some (.int .i64 0) := Blk.cell P.1 0
  have c1 : wE.cell? ⟨w.heap.size + 1 + 1 + 1, 1, none⟩ = some (.int .i64 0) := Blk.cell P.1 1
  have c2 : wE.cell? ⟨w.heap.size + 1 + 1 + 1, 2, none⟩ = some (.slice none 0 0) := Blk.cell P.1 2
  refine bodyPost_ret (v := .tuple #[.agg #[.int .i64 0, .int .i64 0, .slice none 0 0], .int .i64 1]) (by simp [results, Tryz.results46, go_sem, c0, c1, c2]) rfl ?_
  exact ⟨none, 0, w.heap.size, rfl, Nat.le_refl _, Or.inl rfl, Nat.le_refl _, (Kp.of (unhide HG)).mod P.2 (by omega)⟩


end Go.Proofs.YtopaakjildmjcaaGreat

/- A region that draws its order, in a round of a range over a function: it goes by what holds in every order outside a round. -/
namespace Go.Proofs.YtopaakjildmjcaaGreat
open Go.RowKit Go.Shelf Go.Proofs.Wd
set_option linter.unusedVariables false
set_option linter.unusedSimpArgs false
set_option maxRecDepth 10000

/-- Q where the end is reached, and no other end. -/
def OnlyN (Q : Exit → Act → World → Prop) : Exit → Act → World → Prop
  | .normal, a, w => Q .normal a w
  | _, _, _ => False
theorem OnlyN.imp {Q : Exit → Act → World → Prop} : ∀ (e : Exit) (a : Act) (w : World), OnlyN Q e a w → Q e a w := fun e a w h => by
  cases e <;> first | exact h | exact (h : False).elim
theorem OnlyN.out {Q : Exit → Act → World → Prop} : ¬ LetsOut (OnlyN Q) := fun ⟨_, _, h⟩ => h
theorem rowsIn_wide {n : Nat} {P : Program} {row : String} {args : Array Value} {w : World} {R : Value → World → Prop} (h : Rows P row args w R) : RowsIn Fence.wide n P row args w R :=
  fun c cs _ => let ⟨v, w', r, s⟩ := h c cs; ⟨v, w', r, stepsIn_wide.2 s⟩

theorem wpOpIn_of {P : Program} {ops : Array Oper} {Q : Exit → Act → World → Prop} {i l n : Nat} {K : Act → World → Prop} {a : Act} {w : World} (hd : ∀ (j : Nat) (o : Oper), ops[j]? = some o → ∀ c, o.op ≠ .defer c) (hq : ¬ LetsOut Q) (h : wpOp P ops Q i K a w) : wpOpIn (Fence.wide.inRound l) n P ops Q i K a w := by
  unfold wpOp at h
  unfold wpOpIn
  cases ho : ops[i]? with
  | none => simpa [ho] using h
  | some o =>
    simp only [ho] at h ⊢
    by_cases hw : Region.wanted o (yielded ops a.tmps) = true
    · rw [if_pos hw] at h ⊢
      rcases h with h | h
      · refine ⟨fun _ _ => trivial, ?_⟩
        rw [Fence.inRound_round, Oper.semAt_some l _ o (hd i o ho)]
        unfold Oper.wp at h
        generalize (execOp a.eval o).run P w = r at *
        cases r with
        | ok x w' =>
          cases x <;> simp only [Oper.upon, Oper.uponIn] at h ⊢ <;>
            first
              | exact h
              | exact ⟨fun e => (by cases e), CallsIn.inRound l (callsIn_wide.2 h)⟩
              | exact ⟨fun e => (by cases e), rowsIn_wide h⟩
        | halt x w' => cases x <;> simp only [Oper.upon, Oper.uponIn] at h ⊢ <;> exact h
      · exact absurd h.2 hq
    · rw [if_neg hw] at h ⊢
      exact ⟨fun _ _ => trivial, h⟩
theorem wpAnyIn_of {P : Program} {ops : Array Oper} {Q : Exit → Act → World → Prop} {l n : Nat} {md : Region.Mode} {S : World → Prop} (hd : ∀ (j : Nat) (o : Oper), ops[j]? = some o → ∀ c, o.op ≠ .defer c) (hq : ¬ LetsOut Q) :
    ∀ (fuel : Nat) (listed : Array Bool) (a : Act) (w : World), wpAnyH P md ops Q S fuel listed a w → wpAnyIn (Fence.wide.inRound l) n P md ops Q fuel listed a w
  | 0, _, _, _, h => h
  | fuel + 1, _, _, _, h => ⟨h.1, fun i hi => wpOpIn_mono (fun a' w' h' => wpAnyIn_of hd hq fuel _ a' w' h'.2) (wpOpIn_of hd hq (h.2 i hi))⟩

/-- The beginning. -/
theorem region_in {P : Program} {ops : Array Oper} {Q : Exit → Act → World → Prop} {id l n : Nat} {a : Act} {w : World} (S : World → Prop) (hm : P.follows .mixedOrders = true) (hd : (ops.all fun o => match o.op with | .defer _ => false | _ => true) = true) (hS : S w.drew)
    (h : S w.drew → wpAnyH P .any ops (OnlyN Q) S ops.size (Array.replicate ops.size false) a w.drew) : (Code.region id ops true).wpIn (Fence.wide.inRound l) n P Q a w := by
  refine Code.wpIn_mono OnlyN.imp (wpIn_region_any hm (wpAnyIn_of (fun j o ho c e => ?_) OnlyN.out _ _ _ _ (h hS)))
  rw [Array.all_eq_true] at hd
  obtain ⟨hj, hjo⟩ := Array.getElem?_eq_some_iff.1 ho
  have := hd j hj
  rw [hjo, e] at this
  cases this

/-- An operation that is taken first: its slot written out. -/
theorem take_slotN {P : Program} {ops : Array Oper} {Q : Exit → Act → World → Prop} {md : Region.Mode} {S : World → Prop} {i d : Nat} {oi : Oper} {v : Value} {fuel : Nat} {listed : Array Bool} {a : Act} {w : World} (hi : ops[i]? = some oi) (hd : oi.dst = some d)
    (hs : Region.noSelect ops = true) (hf : Region.free md ops listed i = true) (hr : (Region.ready md ops listed).contains i = true)
    (hy : YieldsIf P ops S oi v a) (hS : S w)
    (h : wpAnyH P md ops (OnlyN Q) S fuel (listed.setIfInBounds i true) (a.put (some d) v) w) : wpAnyH P md ops (OnlyN Q) S (fuel + 1) listed a w :=
  wpAnyH_take hi hs hf hr (fun _ _ _ h => h) hy hS (by rw [hd]; exact h)

end Go.Proofs.YtopaakjildmjcaaGreat

/- Package mat: Apply. -/
namespace Go.Proofs.YtopaakjildmjcaaGreat
open Go.RowKit Go.Shelf Go.Proofs.Wd
set_option linter.unusedVariables false
set_option linter.unusedSimpArgs false
set_option maxRecDepth 10000

/-- Apply under way: w is the world at the list's making. -/
def ApS (w : World) (U r m : Nat) (M : Value) (c0 : Bool) (n0 : Int) (Z : Nat → Int) (G : Nat → Bool) (ps : List Nat) (W : World) : Prop :=
  UC U (c0 || ps.any G) (n0 + 2 * m * (ps.length : Int)) W ∧ Blk w.heap.size (ints r (soFar Z ps)) 3 W ∧ Blk (w.heap.size + 1) #[.slice (some ⟨w.heap.size, 0, none⟩) r r] 22 W ∧ Blk (w.heap.size + 1 + 1) #[.int .i64 r, .int .i64 m, M] 24 W ∧ Mk U w W ∧ w.heap.size + 3 ≤ W.heap.size
def nums {r : Nat} (pre : List (Fin r)) : List Nat := pre.map fun x => x.1
theorem nums_all (r : Nat) : nums (allR r) = List.range r := by
  have : nums (allR r) = vis 1 (allR r) := by
    unfold nums vis
    simp [List.range_succ, List.flatMap_singleton', List.map_eq_flatMap]
  rw [this, vis_all, Nat.mul_one]
theorem apS_own (w : World) (U r m : Nat) (hU : U < w.heap.size) (M : Value) (c0 : Bool) (n0 : Int) (Z : Nat → Int) (G : Nat → Bool) (B : Nat) (hB : w.heap.size ≤ B) : OwnFrom B (fun pre : List (Fin r) => ApS w U r m M c0 n0 Z G (nums pre)) := by
  rintro pre W W' row ⟨h1, h2, h3, h4, h5, h6⟩ hg hr
  have hr' : ∀ r, row = some r → ∃ o : Obj, W.heap[r]? = some o ∧ o.isCells = false := fun r e => (hr r e).2
  exact ⟨blk_own h1 hg hr', blk_own h2 hg hr', blk_own h3 hg hr', blk_own h4 hg hr', h5.by hg (fun k e => Nat.le_trans hB (hr k e).1), Nat.le_trans h6 hg.size⟩
/-- A number has been reckoned, and is put. -/
theorem ApS.put {w : World} {U r m : Nat} {M : Value} {c0 : Bool} {n0 : Int} {Z : Nat → Int} {G : Nat → Bool} {ps : List Nat} {p : Nat} {W W1 : World} (hU : U < w.heap.size) (h : ApS w U r m M c0 n0 Z G ps W) (u : UC U (c0 || ps.any G || G p) (n0 + 2 * m * (ps.length : Int) + 2 * m) W1) (s : Mod U W W1) :
    ApS w U r m M c0 n0 Z G (ps ++ [p]) (W1.setCell ⟨w.heap.size, p, none⟩ (.int .i64 (Z p))) ∧ Blk w.heap.size (ints r (soFar Z ps)) 3 W1 ∧ Blk (w.heap.size + 1) #[.slice (some ⟨w.heap.size, 0, none⟩) r r] 22 W1 ∧ KeepsFrom (w.heap.size + 3) W (W1.setCell ⟨w.heap.size, p, none⟩ (.int .i64 (Z p))) ∧ KpR (w.heap.size + 1 + 1) W (W1.setCell ⟨w.heap.size, p, none⟩ (.int .i64 (Z p))) := by
  obtain ⟨h1, h2, h3, h4, h5, h6⟩ := h
  have q : Mod w.heap.size W1 (W1.setCell ⟨w.heap.size, p, none⟩ (.int .i64 (Z p))) := (Mod.refl _ _).setCell _ _
  have b2 := Blk.keep h2 s (by omega)
  have b3 := Blk.keep h3 s (by omega)
  have b4 := Blk.keep h4 s (by omega)
  have ks : KeepsFrom (w.heap.size + 3) W W1 := ⟨s.2.2.2.2, fun k o hk e _ => (s.2.2.1 k (Array.getElem?_eq_some_iff.1 e).1 (by omega)).trans e⟩
  refine ⟨⟨Blk.keep ?_ q (by omega), ?_, Blk.keep b3 q (by omega), Blk.keep b4 q (by omega), (h5.trans (Mk.of s)).new q (Nat.le_refl _), Nat.le_trans (Nat.le_trans h6 s.2.2.2.2) q.2.2.2.2⟩, b2, b3, ks.trans ((KeepsOthers.setCell _ _ _).from _), ?_⟩
  · rw [List.any_append, List.length_append, ← Bool.or_assoc]
    show UC U (c0 || ps.any G || (G p || false)) (n0 + 2 * m * ((ps.length + 1 : Nat) : Int)) W1
    rw [Bool.or_false, show n0 + 2 * m * ((ps.length + 1 : Nat) : Int) = n0 + 2 * m * (ps.length : Int) + 2 * m by rw [Int.natCast_add, Int.mul_add]; omega]
    exact u
  · have := Blk.setI b2 p (Z p)
    rwa [soFar_snoc] at this
  · exact (q.2.2.1 _ (by have := Blk.lt b4; omega) (by omega)).trans (s.2.2.1 _ (by omega) (by omega))

def encRo {r : Nat} (b o c : Nat) (x : Fin r) : Array Value := encR b o c x
theorem rows_stopsL (n : Nat) (hn : 1 ≤ n) (Bs r c b o len cap : Nat) (hr : 1 ≤ r ∧ r ≤ 12) (hc : 1 ≤ c ∧ c ≤ 12) (hlen : r * c = len) (hcap : len ≤ cap) (w : World) (hB : Blk Bs #[.int .i64 r, .int .i64 c, .slice (some ⟨b, o, none⟩) len cap] 24 w) :
    SeqStopsK Fence.wide n Tryz.prog 115 #[.pointer (some ⟨Bs, 0, none⟩)] (encR (r := r) b o c) (KpR Bs) (fun ys => ys = allR r) (fun pre => pre <+: allR r) r w := by
  subst hlen
  exact rows_stops n hn Bs r c b o cap hr hc hcap w hB

/-- A list and an error that a call tells. -/
def ListP (len : Nat) (Z : Nat → Int) (err : Int) (X : World → Prop) (w : World) (e : Ending) (w' : World) : Prop :=
  ∃ ao cap B, e = .returned (.tuple #[.slice ao len cap, .int .i64 err]) ∧ w.heap.size ≤ B ∧ (len = 0 ∨ (ao = some ⟨B, 0, none⟩ ∧ Blk B (ints len Z) 3 w')) ∧ len ≤ cap ∧ X w'

section
attribute [local go_sem] Oper.semAt_some


end


end Go.Proofs.YtopaakjildmjcaaGreat

/- Package slices: Clone; package mat: Row. -/
namespace Go.Proofs.YtopaakjildmjcaaGreat
open Go.RowKit Go.Shelf Go.Proofs.Wd
set_option linter.unusedVariables false
set_option linter.unusedSimpArgs false
set_option maxRecDepth 10000

/-- Numbers at the beginning of a block that is known whole. -/
def Own (B len : Nat) (Z : Nat → Int) (w : World) : Prop := ∃ cur, Blk B cur 3 w ∧ ∀ i, i < len → cur[i]? = some (.int .i64 (Z i))
theorem Own.of {B len : Nat} {Z : Nat → Int} {w : World} (h : Blk B (ints len Z) 3 w) : Own B len Z w := ⟨_, h, fun i hi => ints_at len Z i hi⟩
theorem Own.row {B len : Nat} {Z : Nat → Int} {w : World} (h : Own B len Z w) : Row w (some ⟨B, 0, none⟩) len Z := by
  obtain ⟨cur, h1, h2⟩ := h
  refine Or.inr ⟨B, 0, rfl, fun i hi => ?_⟩
  rw [Nat.zero_add, Blk.cell h1, h2 i hi]
theorem Own.kp {B len : Nat} {Z : Nat → Int} {w w' : World} (h : Own B len Z w) (k : Kp w w') : Own B len Z w' := let ⟨cur, h1, h2⟩ := h; ⟨cur, Blk.kp h1 k, h2⟩
theorem Own.mk {B len U : Nat} {Z : Nat → Int} {w w' : World} (h : Own B len Z w) (k : Mk U w w') (hne : B ≠ U) : Own B len Z w' := let ⟨cur, h1, h2⟩ := h; ⟨cur, Blk.mk h1 k hne, h2⟩
theorem Own.by {B len : Nat} {Z : Nat → Int} {w w' : World} {row : Option Nat} (h : Own B len Z w) (k : w.grownBy w' row) (hne : some B ≠ row) : Own B len Z w' := let ⟨cur, h1, h2⟩ := h; ⟨cur, Blk.by h1 k hne, h2⟩
theorem owns_own {w : World} {base n : Nat} {v : Value} {Z : Nat → Int} (hn : 1 ≤ n) (h : w.ownsRow base 3 1 v n ((List.range n).map fun i => Value.int .i64 (Z i))) : ∃ B cap, v = .slice (some ⟨B, 0, none⟩) n cap ∧ base ≤ B ∧ Own B n Z w := by
  rcases h.2 with ⟨rfl, rfl⟩ | ⟨g, cap, cur, rfl, hb, hg, hn', _, hsz, hxs⟩
  · omega
  · refine ⟨g, cap, rfl, hb, cur, hg, fun i hi => ?_⟩
    have e : (cur.toList.take (n * 1))[i]? = some (.int .i64 (Z i)) := by rw [hxs]; simp [hi]
    rw [List.getElem?_take, if_pos (by omega)] at e
    simpa using e

set_option maxRecDepth 50000 in
set_option maxHeartbeats 1000000 in
theorem sliceClone (b o n cap : Nat) (Z : Nat → Int) (h1 : 1 ≤ n) (hn : n ≤ 1000000) (w : World) (hr : Row w (some ⟨b, o, none⟩) n Z) :
    Calls Tryz.prog 35 #[.slice (some ⟨b, o, none⟩) n cap] w fun e w' => ∃ B cap', e = .returned (.slice (some ⟨B, 0, none⟩) n cap') ∧ w.heap.size ≤ B ∧ Own B n Z w' ∧ Kp w w' := by
  obtain ⟨i0, hi, hz0, hz1, hz2⟩ := info_parts Tryz.infoInt
  have OM := hide (World.ownsRow_made (base := w.heap.size) (e := 3) (size := 1) w #[] 0 (Nat.le_refl _) (by unfold maxLen; omega) (by simp))
  have NEWH : Hid (∀ j u, ((List.range n).map fun i => Value.int .i64 (Z i))[j]? = some u → (w.alloc (.cells #[] 3)).cell? ((⟨b, o, none⟩ : Addr).add j) = some u) := by
    intro j u hu
    rw [List.getElem?_map] at hu
    by_cases hj : j < n
    · rw [List.getElem?_range hj] at hu
      simp at hu
      subst hu
      obtain ⟨b', o', e, hc⟩ := hr.at hj
      cases e
      rw [Go.WideShapes.add_plain]
      exact gat ((Grown.refl _).alloc _ _) hc
    · rw [List.getElem?_eq_none (by simpa using hj)] at hu
      simp at hu
  have H1 := hide h1
  have q22 : ∀ w : World, (binOp .eql 22 (.slice (some ⟨b, o, none⟩) n cap) (.slice none 0 0)).run Tryz.prog w = .ok (.bool false) w := fun w => Lib.run_eql_slice_nil w _ _ _ n cap 0 0 Tryz.underlying22
  clear hr h1
  go_enter Tryz.func35, Tryz.ntmps35
  go_wp2_with (at_builtin; refine wpList_append_own _ rfl _ _ 22 rfl w.heap.size 3 i0 (.int .i64 0) 1 8 Tryz.underlying22 hi hz0 hz1 hz2 rfl (by decide) _ _ _ rfl (unhide OM) ⟨b, o, none⟩ n cap ((List.range n).map fun i => Value.int .i64 (Z i)) rfl (by simp) (unhide NEWH) (cells_one _ _) (by unfold maxLen; omega) (by omega) (by simp) ?_; intro v' w1 hown' hgrow _)
  rw [Nat.zero_add, List.nil_append] at hown'
  obtain ⟨B, cap2, rfl, hB, own2⟩ := owns_own (unhide H1) hown'
  have K1 : Hid (Kp w w1) := Kp.by ((Kp.refl _).alloc _ _) hgrow (fun k e => by have := ((unhide OM).lt k e).1; omega)
  have R1 := hide (And.intro hB own2)
  clear hown' hgrow hB own2
  go_wp2
  go_ret
  exact ⟨_, _, rfl, (unhide R1).1, (unhide R1).2, unhide K1⟩

/-- A list and an error: where it lies. -/
def RowP (len : Nat) (Z : Nat → Int) (err : Int) (w : World) (e : Ending) (w' : World) : Prop :=
  ∃ ao cap B, e = .returned (.tuple #[.slice ao len cap, .int .i64 err]) ∧ w.heap.size ≤ B ∧ (len = 0 ∨ (ao = some ⟨B, 0, none⟩ ∧ Own B len Z w')) ∧ Kp w w'

/-- What a round that leaves knows. -/
def RwX (w : World) (c : Nat) (Z : Nat → Int) (i : Int) {r : Nat} (cd : Code) (pre : List (Fin r)) (W : World) : Prop :=
  cd = .ret ∧ ∃ k : Nat, k < r ∧ (k : Int) = i ∧ ∃ B cap, w.heap.size ≤ B ∧ Own B c (rowZ Z c k) W ∧ Blk (w.heap.size + 1 + 1) #[.slice (some ⟨B, 0, none⟩) c cap] 22 W ∧ Blk (w.heap.size + 1 + 1 + 1) #[.int .i64 0] 32 W ∧ Kp w W
def RwI (W0 : World) (i : Int) {r : Nat} (pre : List (Fin r)) (W : World) : Prop := Kp W0 W ∧ ∀ x ∈ pre, (x.1 : Int) ≠ i
theorem blk_own2 {U : Nat} {cs : Array Value} {T : TypeId} {W W' : World} {row : Option Nat} (h : Blk U cs T W) (hg : W.grownBy W' row) (hr : ∀ r, row = some r → ∃ o : Obj, W.heap[r]? = some o ∧ o.isCells = false) : Blk U cs T W' := blk_own h hg hr
theorem own_own {B len : Nat} {Z : Nat → Int} {W W' : World} {row : Option Nat} (h : Own B len Z W) (hg : W.grownBy W' row) (hr : ∀ r, row = some r → ∃ o : Obj, W.heap[r]? = some o ∧ o.isCells = false) : Own B len Z W' := let ⟨cur, h1, h2⟩ := h; ⟨cur, blk_own h1 hg hr, h2⟩
theorem rwX_own (w : World) (c : Nat) (Z : Nat → Int) (i : Int) (r B : Nat) (hB : w.heap.size ≤ B) (cd : Code) : OwnFrom B (RwX w c Z i (r := r) cd) := by
  rintro pre W W' row ⟨hc, k, hk, hi, b, cap, h1, h2, h3, h4, h5⟩ hg hr
  have hr' : ∀ r, row = some r → ∃ o : Obj, W.heap[r]? = some o ∧ o.isCells = false := fun r e => (hr r e).2
  exact ⟨hc, k, hk, hi, b, cap, h1, own_own h2 hg hr', blk_own h3 hg hr', blk_own h4 hg hr', h5.by hg (fun k e => Nat.le_trans hB (hr k e).1)⟩
theorem rwI_own (W0 : World) (i : Int) (r : Nat) : OwnFrom W0.heap.size (RwI W0 i (r := r)) := by
  rintro pre W W' row ⟨h1, h2⟩ hg hr
  exact ⟨h1.by hg (fun k e => (hr k e).1), h2⟩

section
attribute [local go_sem] Oper.semAt_some

end

end Go.Proofs.YtopaakjildmjcaaGreat

/- The laws' kit: matrices' copies, matrices side by side, lists written over; the laws' long. -/
namespace Go.Proofs.YtopaakjildmjcaaGreat
open Go.RowKit Go.Shelf Go.Proofs.Wd
set_option linter.unusedVariables false
set_option linter.unusedSimpArgs false
set_option maxRecDepth 10000

/-- Numbers that the call itself has gathered, and how much room there is. -/
theorem owns_rowC {w : World} {base n : Nat} {v : Value} {Z : Nat → Int} (h : w.ownsRow base 3 1 v n ((List.range n).map fun i => Value.int .i64 (Z i))) : ∃ ao cap, v = .slice ao n cap ∧ n ≤ cap ∧ Row w ao n Z ∧ ∀ U, U < base → Off U n ao := by
  obtain ⟨ao, cap, rfl, h1, h2⟩ := owns_row h
  rcases h.2 with ⟨e, rfl⟩ | ⟨g, cap', cur, e, hb, hg, hn, _⟩
  · exact ⟨ao, cap, rfl, Nat.zero_le _, h1, h2⟩
  · injection e with e1 e2 e3
    exact ⟨ao, cap, rfl, by omega, h1, h2⟩
def CopyQ (n : Nat) (Z : Nat → Int) (w : World) (e : Ending) (w' : World) : Prop := ∃ ao cap, e = .returned (.slice ao n cap) ∧ n ≤ cap ∧ Row w' ao n Z ∧ (∀ U, U < w.heap.size → Off U n ao) ∧ Kp w w'

set_option maxRecDepth 20000 in
set_option maxHeartbeats 1000000 in
theorem kitCopyC (ao : Option Addr) (n cap : Nat) (Z : Nat → Int) (hn : n ≤ 1000000) (h0 : ao = none → n = 0 ∧ cap = 0) (w : World) (hr : Row w ao n Z) :
    Calls Tryz.prog 24 #[.slice ao n cap] w fun e w' => CopyQ n Z w e w' := by
  have HR := hide hr
  clear hr
  obtain ⟨i0, hi, hz0, hz1, hz2⟩ := info_parts Tryz.infoInt
  have OM := hide (World.ownsRow_made (base := w.heap.size) (e := 3) (size := 1) w #[] 0 (Nat.le_refl _) (by unfold maxLen; omega) (by simp))
  cases ao with
  | none =>
    obtain ⟨rfl, rfl⟩ := h0 rfl
    clear h0
    go_enter Tryz.func24, Tryz.ntmps24
    go_wp2_with (at_builtin; refine wpList_append_own_none rfl _ _ 22 rfl w.heap.size 3 i0 1 Tryz.underlying22 hi _ _ _ rfl (unhide OM) rfl ?_)
    go_ret
    exact (show CopyQ _ _ _ _ _ from ⟨_, _, rfl, Nat.zero_le _, Or.inl rfl, fun U hU h => absurd h (Nat.lt_irrefl _), (Kp.refl _).alloc _ _⟩)
  | some a =>
    clear h0
    have NEW : ∀ j u, ((List.range n).map fun i => Value.int .i64 (Z i))[j]? = some u → (w.alloc (.cells #[] 3)).cell? (a.add j) = some u := by
      intro j u hu
      rw [List.getElem?_map] at hu
      by_cases hj : j < n
      · rw [List.getElem?_range hj] at hu
        simp at hu
        subst hu
        obtain ⟨b, o, e, hc⟩ := (unhide HR).at hj
        cases e
        rw [Go.WideShapes.add_plain]
        exact gat ((Grown.refl _).alloc _ _) hc
      · rw [List.getElem?_eq_none (by simpa using hj)] at hu
        simp at hu
    have NEWH := hide NEW
    clear NEW
    go_enter Tryz.func24, Tryz.ntmps24
    go_wp2_with (at_builtin; refine wpList_append_own _ rfl _ _ 22 rfl w.heap.size 3 i0 (.int .i64 0) 1 8 Tryz.underlying22 hi hz0 hz1 hz2 rfl (by decide) _ _ _ rfl (unhide OM) a n cap ((List.range n).map fun i => Value.int .i64 (Z i)) rfl (by simp) (unhide NEWH) (cells_one _ _) (by unfold maxLen; omega) (by omega) (by simp) ?_; intro v' w1 hown' hgrow _)
    rw [Nat.zero_add, List.nil_append] at hown'
    obtain ⟨ao2, cap2, rfl, hc2, row2, off2⟩ := owns_rowC hown'
    have K1 : Hid (Kp w w1) := Kp.by ((Kp.refl _).alloc _ _) hgrow (fun k e => by have := ((unhide OM).lt k e).1; omega)
    have R1 := hide (And.intro hc2 (And.intro row2 off2))
    clear hown' hgrow row2 off2 hc2
    go_wp2
    go_ret
    exact (show CopyQ _ _ _ _ _ from ⟨_, _, rfl, (unhide R1).1, (unhide R1).2.1, (unhide R1).2.2, unhide K1⟩)

/-- A matrix's copy. -/
def CopyM (r c : Int) (n : Nat) (Z : Nat → Int) (w : World) (e : Ending) (w' : World) : Prop := ∃ ao cap, e = .returned (.agg #[.int .i64 r, .int .i64 c, .slice ao n cap]) ∧ n ≤ cap ∧ Row w' ao n Z ∧ (∀ U, U < w.heap.size → Off U n ao) ∧ Kp w w'

set_option maxRecDepth 20000 in
set_option maxHeartbeats 2000000 in
theorem kitCopyM (r c : Int) (ao : Option Addr) (n cap : Nat) (Z : Nat → Int) (hn : n ≤ 1000000) (h0 : ao = none → n = 0 ∧ cap = 0) (w : World) (hr : Row w ao n Z) :
    Calls Tryz.prog 8 #[.agg #[.int .i64 r, .int .i64 c, .slice ao n cap]] w fun e w' => CopyM r c n Z w e w' := by
  have G : Grown w ((w.alloc (.cells #[.int .i64 r, .int .i64 c, .slice ao n cap] 24)).alloc (.cells #[.int .i64 0, .int .i64 0, .slice none 0 0] 24)) := ((Grown.refl _).alloc _ _).alloc _ _
  have bl : Blk w.heap.size #[.int .i64 r, .int .i64 c, .slice ao n cap] 24 ((w.alloc (.cells #[.int .i64 r, .int .i64 c, .slice ao n cap] 24)).alloc (.cells #[.int .i64 0, .int .i64 0, .slice none 0 0] 24)) := Blk.grown (Blk.new w _ _) ((Grown.refl _).alloc _ _)
  have br := blk_new2 w (.cells #[.int .i64 r, .int .i64 c, .slice ao n cap] 24) #[.int .i64 0, .int .i64 0, .slice none 0 0] 24
  have CC := hide (fun wx hx => kitCopyC ao n cap Z hn h0 wx hx)
  have HR := hide (hr.grown G)
  have HG := hide G
  have HB := hide (And.intro bl br)
  clear G bl br hr h0 hn
  go_enter Tryz.func8, Tryz.ntmps8
  go_wp2
  generalize (w.alloc (.cells #[.int .i64 r, .int .i64 c, .slice ao n cap] 24)).alloc (.cells #[.int .i64 0, .int .i64 0, .slice none 0 0] 24) = w1 at *
  have y0 : w1.cell? ⟨w.heap.size, 0, none⟩ = some (.int .i64 r) := Blk.cell (unhide HB).1 0
  have y1 : w1.cell? ⟨w.heap.size, 1, none⟩ = some (.int .i64 c) := Blk.cell (unhide HB).1 1
  have y2 : w1.cell? ⟨w.heap.size, 2, none⟩ = some (.slice ao n cap) := Blk.cell (unhide HB).1 2
  go_region_held3 (fun w' => w'.cell? ⟨w.heap.size, 0, none⟩ = some (.int .i64 r) ∧ w'.cell? ⟨w.heap.size, 1, none⟩ = some (.int .i64 c) ∧ w'.cell? ⟨w.heap.size, 2, none⟩ = some (.slice ao n cap))
      (simp [go_sem, *])
      (first | (go_at_call 24; refine (unhide CC _ (by exact (unhide HR))).mono ?_; rintro e w3 ⟨ao2, cap2, rfl, h1, h2, h3, k3⟩; have k4 : Kp w1 w3 := k3; have b3 := Blk.kp (unhide HB).2 k4; have b4 := Blk.kp (unhide HB).1 k4; have z0 : w3.cell? ⟨w.heap.size, 0, none⟩ = some (.int .i64 r) := (Blk.cell b4 0); have z1 : w3.cell? ⟨w.heap.size, 1, none⟩ = some (.int .i64 c) := (Blk.cell b4 1); have z2 : w3.cell? ⟨w.heap.size, 2, none⟩ = some (.slice ao n cap) := (Blk.cell b4 2); have e0 : w3.cell? ⟨w.heap.size + 1, 0, none⟩ = some (.int .i64 0) := (Blk.cell b3 0); have e1 : w3.cell? ⟨w.heap.size + 1, 1, none⟩ = some (.int .i64 0) := (Blk.cell b3 1); have e2 : w3.cell? ⟨w.heap.size + 1, 2, none⟩ = some (.slice none 0 0) := (Blk.cell b3 2); have f := Blk.free b3; have R := hide (And.intro b3 (And.intro h1 (And.intro h2 (And.intro h3 k4)))); clear b3 b4 h1 h2 h3 k3 k4))
  go_wp2
  obtain ⟨b3, h1, h2, h3, k4⟩ := unhide R
  have P := putM b3 (.int .i64 r) (.int .i64 c) (.slice ao2 n cap2)
  generalize (((w3.setCell ⟨w.heap.size + 1, 0, none⟩ (.int .i64 r)).setCell ⟨w.heap.size + 1, 1, none⟩ (.int .i64 c)).setCell ⟨w.heap.size + 1, 2, none⟩ (.slice ao2 n cap2)) = wE at *
  have c0 : wE.cell? ⟨w.heap.size + 1, 0, none⟩ = some (.int .i64 r) := Blk.cell P.1 0
  have c1 : wE.cell? ⟨w.heap.size + 1, 1, none⟩ = some (.int .i64 c) := Blk.cell P.1 1
  have c2 : wE.cell? ⟨w.heap.size + 1, 2, none⟩ = some (.slice ao2 n cap2) := Blk.cell P.1 2
  refine bodyPost_ret (v := .agg #[.int .i64 r, .int .i64 c, .slice ao2 n cap2]) (by simp [results, Tryz.results8, go_sem, c0, c1, c2]) rfl ?_
  have hB := Blk.lt (unhide HB).2
  have hs := (unhide HG).2.2
  exact ⟨_, _, rfl, h1, h2.mod P.2 (h3 _ hB), fun U hU => h3 U (Nat.lt_of_lt_of_le hU hs), ((Kp.of (unhide HG)).trans k4).mod P.2 (by omega)⟩

set_option maxHeartbeats 1000000 in
theorem kitSameM (r c : Int) (ao bo : Option Addr) (len c1 c2 : Nat) (X : Nat → Int) (hl : len ≤ 1000000) (w : World) (hr : Row w ao len X) (ht : Row w bo len X) :
    Calls Tryz.prog 14 #[.agg #[.int .i64 r, .int .i64 c, .slice ao len c1], .agg #[.int .i64 r, .int .i64 c, .slice bo len c2]] w fun e w' => e = .returned (.bool true) ∧ Kp w w' := by
  have G : Grown w ((w.alloc (.cells #[.int .i64 r, .int .i64 c, .slice ao len c1] 24)).alloc (.cells #[.int .i64 r, .int .i64 c, .slice bo len c2] 24)) := ((Grown.refl _).alloc _ _).alloc _ _
  have S := hide (kitSameQ ao bo len c1 c2 X hl _ (hr.grown G) (ht.grown G))
  have HG := hide G
  clear G hr ht
  go_enter Tryz.func14, Tryz.ntmps14
  go_wp2_with fail
  refine (unhide S).mono ?_
  rintro e w2 ⟨rfl, n, rfl⟩
  have K : Hid (Kp w (((w.alloc (.cells #[.int .i64 r, .int .i64 c, .slice ao len c1] 24)).alloc (.cells #[.int .i64 r, .int .i64 c, .slice bo len c2] 24)).drewN n)) := Kp.of (unhide HG)
  go_wp2
  go_ret
  exact ⟨rfl, unhide K⟩

end Go.Proofs.YtopaakjildmjcaaGreat

/- append(out, x), as a step of a region that draws. -/
namespace Go.Proofs.YtopaakjildmjcaaGreat
open Go.RowKit Go.Proofs.Wd
set_option linter.unusedVariables false
set_option linter.unusedSimpArgs false
set_option maxRecDepth 10000

def intL (n : Nat) (Z : Nat → Int) : List Value := (List.range n).map fun i => Value.int .i64 (Z i)
theorem intL_succ (n : Nat) (Z : Nat → Int) : intL n Z ++ [.int .i64 (Z n)] = intL (n + 1) Z := by
  unfold intL; rw [List.range_succ, List.map_append]; rfl
/-- append(out, x), as a step of a region that draws. -/
theorem step_append_one {ops : Array Oper} {o : Oper} {a : Act} {w : World} {K : Act → World → Prop} {Q : Exit → Act → World → Prop} {E : Prop} (hgd : o.guard = none) (s x : Operand) (ho : o.op = .call { callee := .builtin .append, args := #[s, x], argTypes := #[22, 22] })
    (base n : Nat) (v : Value) (Z : Nat → Int) (z : Int) (hz : Z n = z) (b : Nat) (hs : a.eval s = v) (hx : a.eval x = .slice (some ⟨b, 0, none⟩) 1 1) (hown : w.ownsRow base 3 1 v n (intL n Z)) (hc : w.cell? ⟨b, 0, none⟩ = some (.int .i64 z)) (hn : n ≤ 1000000) (hb : base ≤ w.heap.size)
    (h : ∀ v' w', Hid (w'.ownsRow base 3 1 v' (n + 1) (intL (n + 1) Z) ∧ w.grownBy w' v.ownBlock) → K (a.put o.dst v') w') : if Region.wanted o (yielded ops a.tmps) = true then Oper.wp Tryz.prog o a w K Q else E := by
  subst hz
  have hw : Region.wanted o (yielded ops a.tmps) = true := by simp [Region.wanted, hgd]
  rw [if_pos hw]
  obtain ⟨i0, hi, hz0, hz1, hz2⟩ := info_parts Tryz.infoInt
  obtain ⟨v', w', hrun, r1, r2, _⟩ := run_append_own (P := Tryz.prog) w base 22 o.type 3 i0 (.int .i64 0) 1 8 Tryz.underlying22 hi hz0 hz1 hz2 rfl (by decide) v n (intL n Z) hown ⟨b, 0, none⟩ 1 1 [.int .i64 (Z n)] rfl
    (fun j u hj => by
      match j, hj with
      | 0, hj => simp at hj; subst hj; rw [Go.WideShapes.add_plain]; exact hc) (one_cell _) (by unfold maxLen; omega) (by omega) hb
  rw [intL_succ] at r1
  unfold Oper.wp
  simp [execOp, ho, resolve, invoke, builtin, hs, hx, hrun, Result.andThen]
  exact h v' w' ⟨r1, r2⟩

end Go.Proofs.YtopaakjildmjcaaGreat

/- The laws' helper of. -/
namespace Go.Proofs.YtopaakjildmjcaaGreat
open Go.RowKit Go.Shelf Go.Proofs.Wd
set_option linter.unusedVariables false
set_option linter.unusedSimpArgs false
set_option maxRecDepth 10000

/-- A matrix that is gathered: its cells, the list so far. -/
def OfI (w : World) (r c : Int) (Z : Nat → Int) (k : Nat) (v : Value) (wr : World) : Prop :=
  wr.ownsRow (w.heap.size + 1 + 1) 3 1 v k (intL k Z) ∧ Blk w.heap.size #[.int .i64 0, .int .i64 0, .slice none 0 0] 24 wr ∧ Blk (w.heap.size + 1) #[.int .i64 r, .int .i64 c, v] 24 wr ∧ Kp w wr ∧ w.heap.size + 1 + 1 ≤ wr.heap.size
theorem OfI.app {w wr wa w4 : World} {r c : Int} {Z : Nat → Int} {k : Nat} {v v' : Value} (h : OfI w r c Z k v wr) (g : Grown wr wa) (ha : wa.ownsRow (w.heap.size + 1 + 1) 3 1 v k (intL k Z)) (hg : w4.ownsRow (w.heap.size + 1 + 1) 3 1 v' (k + 1) (intL (k + 1) Z) ∧ wa.grownBy w4 v.ownBlock) :
    Blk (w.heap.size + 1) #[.int .i64 r, .int .i64 c, v] 24 w4 ∧ OfI w r c Z (k + 1) v' (w4.setCell ⟨w.heap.size + 1, 2, none⟩ v') := by
  obtain ⟨h1, h2, h3, h4, h5⟩ := h
  have lt := ha.lt
  have far : ∀ j, j < w.heap.size + 1 + 1 → some j ≠ v.ownBlock := fun j hj e => by have := (lt _ e.symm).1; omega
  have b2 := Blk.by (Blk.grown h2 g) hg.2 (far _ (by omega))
  have b3 := Blk.by (Blk.grown h3 g) hg.2 (far _ (by omega))
  have q : Mod (w.heap.size + 1) w4 (w4.setCell ⟨w.heap.size + 1, 2, none⟩ v') := (Mod.refl _ _).setCell 2 _
  refine ⟨b3, owns_mod hg.1 q (by omega), Blk.keep b2 q (by omega), Blk.set b3 2 _, ((h4.grown g).by hg.2 (fun j e => by have := (lt j e).1; omega)).mod q (by omega), ?_⟩
  have := hg.2.size
  have := g.2.2
  have := q.2.2.2.2
  omega

end Go.Proofs.YtopaakjildmjcaaGreat

/- Package mat: what each call comes to, whatever is handed in. -/
namespace Go.Proofs.YtopaakjildmjcaaGreat
open Go.RowKit Go.Shelf Go.Proofs.Wd
set_option linter.unusedVariables false
set_option linter.unusedSimpArgs false
set_option maxRecDepth 10000

theorem off_at {U len : Nat} {b o : Nat} (h : Off U len (some ⟨b, o, none⟩)) (hl : 1 ≤ len) : b ≠ U := h (by omega) _ rfl
/-- A matrix that is one, in natural numbers. -/
theorem okM.nat {R C : Int} {len : Nat} (h : okM R C len) : ∃ r c : Nat, R = r ∧ C = c ∧ (1 ≤ r ∧ r ≤ 12) ∧ (1 ≤ c ∧ c ≤ 12) ∧ len = r * c ∧ 1 ≤ len ∧ len ≤ 144 := by
  obtain ⟨h1, h2, h3⟩ := h
  refine ⟨R.toNat, C.toNat, by omega, by omega, by omega, by omega, ?_⟩
  have e : len = R.toNat * C.toNat := by
    have : ((R.toNat * C.toNat : Nat) : Int) = R * C := by rw [Int.natCast_mul, Int.toNat_of_nonneg (by omega), Int.toNat_of_nonneg (by omega)]
    omega
  exact ⟨e, by have := mul12n R.toNat C.toNat (by omega) (by omega); omega, by have := mul12n R.toNat C.toNat (by omega) (by omega); omega⟩

/-- What comes of a call: rows, columns, numbers, an error; whether something was cut, how many operations. -/
structure MO where
  r : Int
  c : Int
  len : Nat
  Z : Nat → Int
  err : Int
  cut : Bool
  n : Int
open Classical in
noncomputable def mulO (R1 C1 R2 C2 : Int) (l1 l2 : Nat) (A B : Nat → Int) (c0 : Bool) (n0 : Int) : MO :=
  if okM R1 C1 l1 ∧ okM R2 C2 l2 ∧ C1 = R2 then ⟨R1, C2, R1.toNat * C2.toNat, mulZ A B C1.toNat C2.toNat, 0, c0 || orC (mulG A B C1.toNat C2.toNat) (R1.toNat * C2.toNat), n0 + 2 * C1.toNat * ((R1.toNat * C2.toNat : Nat) : Int)⟩
  else ⟨0, 0, 0, A, 3, c0, n0⟩
open Classical in
noncomputable def turnO (R C : Int) (len : Nat) (A : Nat → Int) : MO :=
  if okM R C len then ⟨C, R, C.toNat * R.toNat, turnZ A R.toNat C.toNat, 0, false, 0⟩ else ⟨0, 0, 0, A, 3, false, 0⟩
open Classical in
noncomputable def eyeO (n : Int) : MO := if 1 ≤ n ∧ n ≤ 12 then ⟨n, n, n.toNat * n.toNat, diagZ oneZ n.toNat, 0, false, 0⟩ else ⟨0, 0, 0, oneZ, 3, false, 0⟩
open Classical in
noncomputable def diagO (n : Nat) (L : Nat → Int) : MO := if 1 ≤ n ∧ n ≤ 12 then ⟨n, n, n * n, diagZ L n, 0, false, 0⟩ else ⟨0, 0, 0, L, 3, false, 0⟩
open Classical in
noncomputable def rowO (R C : Int) (len : Nat) (A : Nat → Int) (i : Int) : MO :=
  if okM R C len ∧ 0 ≤ i ∧ i < R then ⟨0, 0, C.toNat, rowZ A C.toNat i.toNat, 0, false, 0⟩ else ⟨0, 0, 0, A, 3, false, 0⟩
open Classical in
noncomputable def appO (R C : Int) (len xl : Nat) (A X : Nat → Int) (c0 : Bool) (n0 : Int) : MO :=
  if okM R C len ∧ (xl : Int) = C then ⟨0, 0, R.toNat, appZ A X xl, 0, c0 || orC (appG A X xl) R.toNat, n0 + 2 * xl * (R.toNat : Int)⟩ else ⟨0, 0, 0, A, 3, c0, n0⟩

theorem mulO_of {R1 C1 R2 C2 : Int} {l1 l2 : Nat} {A B : Nat → Int} {c0 : Bool} {n0 : Int} (h1 : okM R1 C1 l1) (h2 : okM R2 C2 l2) (h3 : C1 = R2) : mulO R1 C1 R2 C2 l1 l2 A B c0 n0 = ⟨R1, C2, R1.toNat * C2.toNat, mulZ A B C1.toNat C2.toNat, 0, c0 || orC (mulG A B C1.toNat C2.toNat) (R1.toNat * C2.toNat), n0 + 2 * C1.toNat * ((R1.toNat * C2.toNat : Nat) : Int)⟩ := if_pos ⟨h1, h2, h3⟩
theorem turnO_of {R C : Int} {len : Nat} {A : Nat → Int} (h : okM R C len) : turnO R C len A = ⟨C, R, C.toNat * R.toNat, turnZ A R.toNat C.toNat, 0, false, 0⟩ := if_pos h
theorem mulAny (U : Nat) (c0 : Bool) (n0 : Int) (hn : 0 ≤ n0 ∧ n0 < 1152921504606846976) (R1 C1 R2 C2 : Int) (a1 a2 : Option Addr) (l1 p1 l2 p2 : Nat) (A B : Nat → Int) (hp : l1 ≤ p1) (hA : ∀ j, j < l1 → I64 (A j)) (hB : ∀ j, j < l2 → I64 (B j)) (w : World) (h : UC U c0 n0 w) (ra : Row w a1 l1 A) (oa : Off U l1 a1) (rb : Row w a2 l2 B) (ob : Off U l2 a2) (q : MO) (hq : mulO R1 C1 R2 C2 l1 l2 A B c0 n0 = q) :
    Calls Tryz.prog 46 #[.pointer (some ⟨U, 0, none⟩), .agg #[.int .i64 R1, .int .i64 C1, .slice a1 l1 p1], .agg #[.int .i64 R2, .int .i64 C2, .slice a2 l2 p2]] w fun e w' => MatP q.r q.c q.len q.Z q.err (fun w' => UC U q.cut q.n w' ∧ Mk U w w') w e w' := by
  subst hq
  unfold mulO
  by_cases hg : okM R1 C1 l1 ∧ okM R2 C2 l2 ∧ C1 = R2
  · rw [if_pos hg]
    obtain ⟨h1, h2, h3⟩ := hg
    obtain ⟨r, m, rfl, rfl, hr, hm, rfl, k1, k2⟩ := h1.nat
    obtain ⟨m', c, e1, rfl, hm', hc, rfl, k3, k4⟩ := h2.nat
    obtain rfl : m = m' := by omega
    obtain ⟨b, o, rfl, za⟩ := ra.some k1
    obtain ⟨b2, o2, rfl, zb⟩ := rb.some k3
    subst h3
    exact matMul_ok U c0 n0 hn r m c b o p1 b2 o2 p2 A B hr hm hc hp hA hB w h za zb (off_at oa k1) (off_at ob k3)
  · rw [if_neg hg]
    exact matMul_bad U c0 n0 hn R1 C1 R2 C2 a1 a2 l1 p1 l2 p2 A hg w h

theorem eyeAny (n : Int) (w : World) (q : MO) (hq : eyeO n = q) : Calls Tryz.prog 45 #[.int .i64 n] w fun e w' => MatP q.r q.c q.len q.Z q.err (Kp w) w e w' := by
  subst hq
  unfold eyeO
  by_cases hg : 1 ≤ n ∧ n ≤ 12
  · rw [if_pos hg]
    obtain ⟨k, rfl⟩ : ∃ k : Nat, n = k := ⟨n.toNat, by omega⟩
    exact matEye_ok k (by omega) w
  · rw [if_neg hg]
    exact matEye_bad n hg oneZ w
theorem diagAny (n cap : Nat) (ao : Option Addr) (L : Nat → Int) (w : World) (hr : Row w ao n L) (q : MO) (hq : diagO n L = q) : Calls Tryz.prog 75 #[.slice ao n cap] w fun e w' => MatP q.r q.c q.len q.Z q.err (Kp w) w e w' := by
  subst hq
  unfold diagO
  by_cases hg : 1 ≤ n ∧ n ≤ 12
  · rw [if_pos hg]
    exact matDiag_ok n cap ao L hg w hr
  · rw [if_neg hg]
    exact matDiag_bad n cap ao L hg w
/-! What the laws have under way: blocks that may be written (E), matrices in cells, lists. -/
def LS (w : World) (E : List Nat) (bx : List (Nat × Array Value)) (rows : List (Option Addr × Nat × (Nat → Int))) (wx : World) : Prop :=
  Kp w wx ∧ (∀ e ∈ E, w.heap.size ≤ e ∧ e < wx.heap.size) ∧ (∀ b ∈ bx, Blk b.1 b.2 24 wx ∧ b.1 ∉ E) ∧ (∀ r ∈ rows, Row wx r.1 r.2.1 r.2.2 ∧ ∀ e ∈ E, Off e r.2.1 r.1)
section
variable {w : World} {E : List Nat} {bx : List (Nat × Array Value)} {rows : List (Option Addr × Nat × (Nat → Int))} {wx w' : World}
theorem LS.kp (h : LS w E bx rows wx) (k : Kp wx w') : LS w E bx rows w' :=
  ⟨h.1.trans k, fun e he => ⟨(h.2.1 e he).1, Nat.lt_of_lt_of_le (h.2.1 e he).2 k.2.2.2⟩, fun b hb => ⟨Blk.kp (h.2.2.1 b hb).1 k, (h.2.2.1 b hb).2⟩, fun r hr => ⟨(h.2.2.2 r hr).1.kp k, (h.2.2.2 r hr).2⟩⟩
theorem LS.mk {U : Nat} (h : LS w E bx rows wx) (hU : U ∈ E) (m : Mk U wx w') : LS w E bx rows w' :=
  ⟨h.1.mk m (h.2.1 U hU).1, fun e he => ⟨(h.2.1 e he).1, Nat.lt_of_lt_of_le (h.2.1 e he).2 m.2.2.2⟩, fun b hb => ⟨Blk.mk (h.2.2.1 b hb).1 m (fun e => (h.2.2.1 b hb).2 (e ▸ hU)), (h.2.2.1 b hb).2⟩, fun r hr => ⟨(h.2.2.2 r hr).1.mk m ((h.2.2.2 r hr).2 U hU), (h.2.2.2 r hr).2⟩⟩
theorem LS.box (h : LS w E bx rows wx) (cs : Array Value) : LS w E ((wx.heap.size, cs) :: bx) rows (wx.alloc (.cells cs 24)) := by
  have k := h.kp (Kp.of ((Grown.refl wx).alloc cs 24))
  refine ⟨k.1, k.2.1, fun b hb => ?_, k.2.2.2⟩
  rcases List.mem_cons.1 hb with rfl | hb
  · exact ⟨Blk.new wx _ _, fun he => Nat.lt_irrefl _ (h.2.1 _ he).2⟩
  · exact k.2.2.1 b hb
theorem LS.box2 (h : LS w E bx rows wx) (cs ds : Array Value) : LS w E ((wx.heap.size + 1, ds) :: (wx.heap.size, cs) :: bx) rows ((wx.alloc (.cells cs 24)).alloc (.cells ds 24)) := by
  have := (h.box cs).box ds
  rwa [World.size_alloc] at this
theorem LS.box1 (h : LS w E bx rows wx) (cs : Array Value) : LS w E ((wx.heap.size, cs) :: bx) rows (wx.alloc (.cells cs 24)) := h.box cs
theorem LS.row (h : LS w E bx rows wx) {ao : Option Addr} {len : Nat} {Z : Nat → Int} (r : Row wx ao len Z) (ho : ∀ e ∈ E, Off e len ao) : LS w E bx ((ao, len, Z) :: rows) wx :=
  ⟨h.1, h.2.1, h.2.2.1, fun q hq => by
    rcases List.mem_cons.1 hq with rfl | hq
    · exact ⟨r, ho⟩
    · exact h.2.2.2 q hq⟩
theorem LS.cell (h : LS w E bx rows wx) {b : Nat} {cs : Array Value} (hb : (b, cs) ∈ bx) (o : Nat) : wx.cell? ⟨b, o, none⟩ = cs[o]? := Blk.cell (h.2.2.1 _ hb).1 o
theorem LS.lt (h : LS w E bx rows wx) {b : Nat} {cs : Array Value} (hb : (b, cs) ∈ bx) : b < wx.heap.size := Blk.lt (h.2.2.1 _ hb).1
theorem LS.at (h : LS w E bx rows wx) {ao : Option Addr} {len : Nat} {Z : Nat → Int} (hr : (ao, len, Z) ∈ rows) : Row wx ao len Z ∧ ∀ e ∈ E, Off e len ao := h.2.2.2 _ hr
/-- A matrix that the program tells. -/
theorem LS.told {r c err : Int} {len : Nat} {Z : Nat → Int} {X : World → Prop} {e : Ending} (h : LS w E bx rows wx) (h' : LS w E bx rows w') (m : MatP r c len Z err X wx e w') : ∃ ao cap B, e = .returned (.tuple #[.agg #[.int .i64 r, .int .i64 c, .slice ao len cap], .int .i64 err]) ∧ len ≤ cap ∧ (len = 0 ∨ (ao = some ⟨B, 0, none⟩ ∧ Blk B (ints len Z) 3 w')) ∧ wx.heap.size ≤ B ∧ LS w E bx ((ao, len, Z) :: rows) w' ∧ X w' := by
  obtain ⟨ao, cap, B, h1, h2, h3, h4, h5⟩ := m
  refine ⟨ao, cap, B, h1, h4, h3, h2, h'.row ?_ (fun e he => ?_), h5⟩
  · rcases h3 with rfl | ⟨rfl, hb⟩
    · exact Or.inl rfl
    · exact hb.row
  · rcases h3 with rfl | ⟨rfl, hb⟩
    · exact fun hl => absurd hl (Nat.lt_irrefl _)
    · exact off_blk (by have := (h.2.1 e he).2; omega)
/-- A list that is gathered, or copied. -/
theorem LS.copy {r c : Int} {len : Nat} {Z : Nat → Int} {e : Ending} (h : LS w E bx rows wx) (m : CopyM r c len Z wx e w') : ∃ ao cap, e = .returned (.agg #[.int .i64 r, .int .i64 c, .slice ao len cap]) ∧ len ≤ cap ∧ LS w E bx ((ao, len, Z) :: rows) w' := by
  obtain ⟨ao, cap, h1, h2, h3, h4, h5⟩ := m
  exact ⟨ao, cap, h1, h2, (h.kp h5).row h3 (fun e he => h4 e (h.2.1 e he).2)⟩
theorem LS.congr {bx : List (Nat × Array Value)} {ao : Option Addr} {len : Nat} {Z Y : Nat → Int} (h : LS w E bx ((ao, len, Z) :: rows) wx) (hz : ∀ i, i < len → Z i = Y i) : LS w E bx ((ao, len, Y) :: rows) wx := by
  have h0 := (h.at (List.mem_cons_self ..)).1
  refine ⟨h.1, h.2.1, h.2.2.1, fun q hq => ?_⟩
  rcases List.mem_cons.1 hq with rfl | hq
  · refine ⟨?_, (h.at (List.mem_cons_self ..)).2⟩
    rcases h0 with h0 | ⟨b, o, rfl, hc⟩
    · exact Or.inl h0
    · exact Or.inr ⟨b, o, rfl, fun i hi => by rw [hc i hi, hz i hi]⟩
  · exact h.2.2.2 q (List.mem_cons_of_mem _ hq)
end

end Go.Proofs.YtopaakjildmjcaaGreat
