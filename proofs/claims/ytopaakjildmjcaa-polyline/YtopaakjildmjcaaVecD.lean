/- Package slices: Repeat, of one number; package vec: Scale, Most. -/
import Derived.Test.YtopaakjildmjcaaVecC
import Derived.Deep.RegionLaw
namespace Go.Proofs.Ytopaakjildmjcaa
open Go.RowKit Go.Proofs.Wd
set_option linter.unusedVariables false
set_option linter.unusedSimpArgs false
set_option maxRecDepth 10000

set_option maxHeartbeats 1000000 in
theorem bitsMul (x y : Int) (hx : U64 x) (hy : U64 y) (w : World) :
    Calls Try.prog 40 #[.int .u64 x, .int .u64 y] w fun e w' => e = .returned (.tuple #[.int .u64 (x * y / 18446744073709551616), .int .u64 (x * y % 18446744073709551616)]) ∧ w' = w := by
  have M := hide (mul64 x y hx hy w)
  generalize x * y / 18446744073709551616 = h at *
  generalize x * y % 18446744073709551616 = l at *
  clear hx hy
  go_enter Try.func40, Try.ntmps40
  go_wp2_with fail
  refine (unhide M).mono ?_
  rintro e w1 ⟨rfl, rfl⟩
  go_wp2
  go_ret2
  exact ⟨rfl, rfl⟩

/-- The first k are s, what is behind them 0. -/
def fst0 (s : Int) (k : Nat) (i : Nat) : Int := if i < k then s else 0
theorem splice_fst (n k m : Nat) (s : Int) (h : k + m ≤ n) : splice (ints n (fst0 s k)).toList k (List.replicate m (Value.int .i64 s)) = (ints n (fst0 s (k + m))).toList := by
  apply List.ext_getElem?
  intro i
  have E : ∀ (Z : Nat → Int), (ints n Z).toList[i]? = (ints n Z)[i]? := fun Z => by simp
  rw [E]
  unfold splice
  have l1 : ((ints n (fst0 s k)).toList.take k).length = k := by simp [ints_size]; omega
  by_cases h1 : i < k
  · rw [List.getElem?_append_left (by omega), List.getElem?_take, if_pos h1, E, ints_at n _ i (by omega), ints_at n _ i (by omega)]
    unfold fst0
    rw [if_pos h1, if_pos (by omega)]
  · rw [List.getElem?_append_right (by omega), l1]
    by_cases h2 : i < k + m
    · rw [List.getElem?_append_left (by simp; omega), ints_at n _ i (by omega), List.getElem?_replicate, if_pos (by omega)]
      unfold fst0
      rw [if_pos (by omega)]
    · rw [List.getElem?_append_right (by simp; omega), List.getElem?_drop]
      simp only [List.length_replicate]
      rw [show k + m + (i - k - m) = i by omega, E]
      by_cases h3 : i < n
      · rw [ints_at n _ i h3, ints_at n _ i h3]
        unfold fst0
        rw [if_neg h1, if_neg h2]
      · rw [ints_none n _ i h3, ints_none n _ i h3]

theorem slice_from (g len cap k : Nat) (h : k < cap) (hl : k ≤ len) (w : World) : (Instr.sliceAt 24 (.slice (some ⟨g, 0, none⟩) len cap) (some (.int .i64 k)) none none).run Try.prog w = .ok (.slice (some ⟨g, k, none⟩) (len - k) (cap - k)) w := by
  have e : Try.prog.underlying 24 = some (.slice (Try.prog.elem 24)) := by kernel_rfl
  have s1 : (sizeOf (Try.prog.elem 24)).run Try.prog w = .ok 1 w := by kernel_rfl
  rw [run_sliceAt_slice w 24 _ _ _ _ e, run_slice_l w 24 _ len cap e .i64 k (by omega) (by omega), s1]
  show Result.ok (sliced _ (k : Int).toNat len cap 1) w = _
  unfold sliced
  rw [Int.toNat_natCast, if_neg (by omega)]
  show Result.ok (Value.slice (some ((⟨g, 0, none⟩ : Addr).add (k * 1))) _ _) w = _
  rw [Go.WideShapes.add_plain, Nat.zero_add, Nat.mul_one]

theorem infoSize : (Try.prog.info? 3).map (·.size) = some 1 := by kernel_rfl
/-- Cells of one block, copied behind the first k of it. -/
theorem run_copy_ints (w : World) (ty : TypeId) (g N k m dLen dCap sLen sCap xb : Nat) (s : Int) (hb : Blk g (ints N (fst0 s k)) 3 w) (hm : m = Nat.min sLen dLen) (hk : k + m ≤ N) (hx : ∀ j, j < m → w.cell? ⟨xb, j, none⟩ = some (.int .i64 s)) :
    ∃ w', (Builtin.copy_ #[24, 24] ty #[.slice (some ⟨g, k, none⟩) dLen dCap, .slice (some ⟨xb, 0, none⟩) sLen sCap]).run Try.prog w = .ok (.int .i64 m) w' ∧ Blk g (ints N (fst0 s (k + m))) 3 w' ∧ Mod g w w' := by
  have hl : (List.replicate m (Value.int .i64 s)).length = m := List.length_replicate
  have := run_copy_row (P := Try.prog) w 24 24 ty 3 g k dLen dCap ⟨xb, 0, none⟩ sLen sCap (ints N (fst0 s k)) 3 (List.replicate m (.int .i64 s)) Try.underlying24 infoSize hb (by rw [hl]; exact hm)
    (fun j v hv => by
      rw [List.getElem?_replicate] at hv
      split at hv
      · next hj =>
        cases hv
        rw [Go.WideShapes.add_plain, Nat.zero_add]
        exact hx j hj
      · simp at hv)
    (by rw [hl, ints_size]; exact hk) (fun v hv => by rw [List.eq_of_mem_replicate hv]; rfl)
  rw [hl] at this
  refine ⟨_, this, ?_, Mod.setRow _ _ _⟩
  have e := splice_fst N k m s hk
  unfold splice at e
  rw [hl] at e
  have e2 := setRow_heap w g (ints N (fst0 s k)) ((ints N (fst0 s k)).toList.take k ++ List.replicate m (Value.int .i64 s) ++ (ints N (fst0 s k)).toList.drop (k + m)).toArray 3 (0, 0) hb
  rw [List.append_assoc, e] at e2
  rw [List.append_assoc, e]
  exact e2
theorem wpList_copy_ints {w : World} {ops : Array Oper} {rest : List Oper} {o : Oper} {a : Act} {Q : Exit → Act → World → Prop} (hgd : o.guard = none) (d s : Operand) (ho : o.op = .call { callee := .builtin .copy, args := #[d, s], argTypes := #[24, 24] })
    (g N k m dLen dCap sLen sCap xb : Nat) (x : Int) (hd : a.eval d = .slice (some ⟨g, k, none⟩) dLen dCap) (hs : a.eval s = .slice (some ⟨xb, 0, none⟩) sLen sCap) (hb : Blk g (ints N (fst0 x k)) 3 w) (hm : m = Nat.min sLen dLen) (hk : k + m ≤ N) (hx : ∀ j, j < m → w.cell? ⟨xb, j, none⟩ = some (.int .i64 x))
    (h : ∀ w', Hid (Blk g (ints N (fst0 x (k + m))) 3 w' ∧ Mod g w w') → wpList Try.prog ops Q rest (a.put o.dst (.int .i64 m)) w') : wpList Try.prog ops Q (o :: rest) a w := by
  refine wpList_plain hgd fun K hK => ?_
  obtain ⟨w', hrun, h1, h2⟩ := run_copy_ints w o.type g N k m dLen dCap sLen sCap xb x hb hm hk hx
  unfold Oper.wp
  simp [execOp, ho, resolve, invoke, builtin, hd, hs, hrun, Result.andThen]
  exact hK _ _ (h w' ⟨h1, h2⟩)
theorem step_copy_ints {ops : Array Oper} {o : Oper} {a : Act} {w : World} {K : Act → World → Prop} {Q : Exit → Act → World → Prop} {E : Prop} (hgd : o.guard = none) (d s : Operand) (ho : o.op = .call { callee := .builtin .copy, args := #[d, s], argTypes := #[24, 24] })
    (g N k m dLen dCap sLen sCap xb : Nat) (x : Int) (hd : a.eval d = .slice (some ⟨g, k, none⟩) dLen dCap) (hs : a.eval s = .slice (some ⟨xb, 0, none⟩) sLen sCap) (hb : Blk g (ints N (fst0 x k)) 3 w) (hm : m = Nat.min sLen dLen) (hk : k + m ≤ N) (hx : ∀ j, j < m → w.cell? ⟨xb, j, none⟩ = some (.int .i64 x))
    (h : ∀ w', Hid (Blk g (ints N (fst0 x (k + m))) 3 w' ∧ Mod g w w') → K (a.put o.dst (.int .i64 m)) w') : if Region.wanted o (yielded ops a.tmps) = true then Oper.wp Try.prog o a w K Q else E := by
  have hw : Region.wanted o (yielded ops a.tmps) = true := by simp [Region.wanted, hgd]
  rw [if_pos hw]
  obtain ⟨w', hrun, h1, h2⟩ := run_copy_ints w o.type g N k m dLen dCap sLen sCap xb x hb hm hk hx
  unfold Oper.wp
  simp [execOp, ho, resolve, invoke, builtin, hd, hs, hrun, Result.andThen]
  exact h w' ⟨h1, h2⟩

set_option maxRecDepth 20000 in
set_option maxHeartbeats 1000000 in
theorem slicesRepeat (s : Int) (N xb cap : Nat) (hN : N ≤ 1000000) (w : World) (hx : w.cell? ⟨xb, 0, none⟩ = some (.int .i64 s)) :
    Calls Try.prog 23 #[.slice (some ⟨xb, 0, none⟩) 1 cap, .int .i64 N] w fun e w' => e = .returned (.slice (some ⟨w.heap.size, 0, none⟩) N N) ∧ Blk w.heap.size (ints N (fun _ => s)) 3 w' ∧ Mod w.heap.size w w' := by
  have MK := make_ints N hN
  have M : Hid (∀ w, Calls Try.prog 40 #[.int .u64 1, .int .u64 N] w fun e w' => e = .returned (.tuple #[.int .u64 0, .int .u64 N]) ∧ w' = w) := by
    intro w
    have := bitsMul 1 N (by unfold U64; omega) (by unfold U64; omega) w
    rw [show (1 : Int) * N / 18446744073709551616 = 0 by omega, show (1 : Int) * N % 18446744073709551616 = N by omega] at this
    exact this
  have G : Hid (Blk w.heap.size (ints N (fst0 s 0)) 3 (w.alloc (.cells (ints N (fun _ => 0)) 3)) ∧ Mod w.heap.size w (w.alloc (.cells (ints N (fun _ => 0)) 3)) ∧ (w.alloc (.cells (ints N (fun _ => 0)) 3)).cell? ⟨xb, 0, none⟩ = some (.int .i64 s)) := by
    refine ⟨?_, Mod.of ((Grown.refl _).alloc _ _), gat ((Grown.refl _).alloc _ _) hx⟩
    rw [ints_congr N (fst0 s 0) (fun _ => 0) (fun i hi => by unfold fst0; rw [if_neg (by omega)])]
    exact Blk.new w _ _
  have hw1 : IntKind.u64.wrap (N : Int) = N := by rw [IntKind.wrap_u64]; omega
  have hw2 : IntKind.i64.wrap (N : Int) = N := by rw [IntKind.wrap_i64]; omega
  have hq : decide ((9223372036854775807 : Int) < N) = false := decide_eq_false (by omega)
  clear hx
  go_enter Try.func23, Try.ntmps23
  go_wp2_with fail
  refine (unhide M w).mono ?_
  rintro e w1 ⟨rfl, rfl⟩
  go_wp2_with fail
  obtain ⟨k0, ek⟩ : ∃ k0, Nat.min 1 N = k0 := ⟨_, rfl⟩
  have hk0 : k0 ≤ 1 ∧ k0 ≤ N ∧ (k0 = 0 → N = 0) := by
    have h1 : Nat.min 1 N ≤ 1 := Nat.min_le_left _ _
    have h2 : Nat.min 1 N ≤ N := Nat.min_le_right _ _
    have h3 : N ≠ 0 → Nat.min 1 N = 1 := fun h => Nat.min_eq_left (by omega)
    rw [ek] at h1 h2 h3
    refine ⟨h1, h2, fun e => ?_⟩
    rcases Nat.eq_zero_or_pos N with h | h
    · exact h
    · have := h3 (by omega); omega
  obtain ⟨w2, hrun, b2, m2⟩ := run_copy_ints _ 3 w1.heap.size N 0 k0 N N 1 cap xb s (unhide G).1 ek.symm (by omega) (fun j hj => by obtain rfl : j = 0 := (by omega); exact (unhide G).2.2)
  have G2 : Hid (Blk w1.heap.size (ints N (fst0 s k0)) 3 w2 ∧ Mod w1.heap.size w1 w2) := by
    rw [Nat.zero_add] at b2
    exact ⟨b2, (unhide G).2.1.trans m2⟩
  rw [hrun]
  clear hrun b2 m2 G ek
  go_wp2_with fail
  go_loopw [8] (fun i wr => ∃ k : Nat, k ≤ N ∧ (k = 0 → N = 0) ∧ i = .int .i64 k ∧ Hid (Blk w1.heap.size (ints N (fst0 s k)) 3 wr ∧ Mod w1.heap.size w1 wr)) (fun i _ => N - (intOf i).toNat)
  case atStart => exact ⟨k0, hk0.2.1, hk0.2.2, rfl, unhide G2⟩
  case round =>
    obtain ⟨k, hk, hz, rfl, HI⟩ := hrel
    by_cases hlt : k < N
    · have hs1 := slice_to (some ⟨w1.heap.size, 0, none⟩) N N k hk
      have hs2 := slice_from w1.heap.size N N k hlt hk
      obtain ⟨m, em⟩ : ∃ m, m = Nat.min k (N - k) := ⟨_, rfl⟩
      have hm : m ≤ k ∧ k + m ≤ N ∧ 0 < m := by
        have h1 : Nat.min k (N - k) ≤ k := Nat.min_le_left _ _
        have h2 : Nat.min k (N - k) ≤ N - k := Nat.min_le_right _ _
        have h3 : 0 < Nat.min k (N - k) := Nat.lt_min.2 ⟨by omega, by omega⟩
        rw [← em] at h1 h2 h3
        omega
      have hb0 : ∀ j, j < m → wr.cell? ⟨w1.heap.size, j, none⟩ = some (.int .i64 s) := fun j hj => by
        rw [Blk.cell (unhide HI).1, ints_at N _ j (by omega)]
        unfold fst0
        rw [if_pos (by omega)]
      have HB := hide (And.intro hb0 em)
      clear hb0 em
      have hwk : IntKind.i64.wrap ((k : Int) + (m : Int)) = ((k + m : Nat) : Int) := by rw [IntKind.wrap_i64]; omega
      go_wp2
      go_region_law (refine step_copy_ints rfl (.tmp 41) (.tmp 44) rfl w1.heap.size N k m (N - k) (N - k) k N w1.heap.size s (by simp [Act.eval, Act.put]) (by simp [Act.eval, Act.put]) (unhide HI).1 (unhide HB).2 hm.2.1 (unhide HB).1 ?_; intro w3 hg3)
      have R : Hid (Blk w1.heap.size (ints N (fst0 s (k + m))) 3 w3 ∧ Mod w1.heap.size w1 w3) := ⟨(unhide hg3).1, (unhide HI).2.trans (unhide hg3).2⟩
      clear hg3 HI HB
      simp [Act.put]
      go_wp2
      go_roundw
      case rel => exact ⟨k + m, by omega, by omega, by go_num, R⟩
      case measure => simp [intOf]; omega
    · obtain rfl : k = N := by omega
      have R : Hid (Blk w1.heap.size (ints k (fun _ => s)) 3 wr ∧ Mod w1.heap.size w1 wr) := by
        obtain ⟨b, m⟩ := unhide HI
        rw [ints_congr k (fst0 s k) (fun _ => s) (fun i hi => by unfold fst0; rw [if_pos hi])] at b
        exact ⟨b, m⟩
      clear HI
      go_wp2
      go_ret
      exact ⟨rfl, unhide R⟩

end Go.Proofs.Ytopaakjildmjcaa
