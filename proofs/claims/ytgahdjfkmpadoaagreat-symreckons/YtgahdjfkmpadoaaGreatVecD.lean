/- Package slices: Repeat, of one number; package vec: Scale, Most. -/
import Derived.Test.YtgahdjfkmpadoaaGreatVecC
import Derived.Deep.RegionLaw
namespace Go.Proofs.YtgahdjfkmpadoaaGreat
open Go.RowKit Go.Proofs.Wd
set_option linter.unusedVariables false
set_option linter.unusedSimpArgs false
set_option maxRecDepth 10000

/-- The first k are s, what is behind them 0. -/
def fst0 (s : Int) (k : Nat) (i : Nat) : Int := if i < k then s else 0
theorem splice_fst (n k m : Nat) (s : Int) (h : k + m ≤ n) : splice (ints n (fst0 s k)).toList k (List.replicate m (Value.int .i64 s)) = (ints n (fst0 s (k + m))).toList := by
  apply List.ext_getElem?
  intro i
  have E : ∀ (Z : Nat → Int), (ints n Z).toList[i]? = (ints n Z)[i]? := fun Z => by simp
  rw [E]
  unfold splice
  have l1 : ((ints n (fst0 s k)).toList.take k).length = k := by simp [ints_size]; omega
  by_cases h1 : i < k
  · rw [List.getElem?_append_left (by omega), List.getElem?_take, if_pos h1, E, ints_at n _ i (by omega), ints_at n _ i (by omega)]
    unfold fst0
    rw [if_pos h1, if_pos (by omega)]
  · rw [List.getElem?_append_right (by omega), l1]
    by_cases h2 : i < k + m
    · rw [List.getElem?_append_left (by simp; omega), ints_at n _ i (by omega), List.getElem?_replicate, if_pos (by omega)]
      unfold fst0
      rw [if_pos (by omega)]
    · rw [List.getElem?_append_right (by simp; omega), List.getElem?_drop]
      simp only [List.length_replicate]
      rw [show k + m + (i - k - m) = i by omega, E]
      by_cases h3 : i < n
      · rw [ints_at n _ i h3, ints_at n _ i h3]
        unfold fst0
        rw [if_neg h1, if_neg h2]
      · rw [ints_none n _ i h3, ints_none n _ i h3]

theorem slice_from (g len cap k : Nat) (h : k < cap) (hl : k ≤ len) (w : World) : (Instr.sliceAt 22 (.slice (some ⟨g, 0, none⟩) len cap) (some (.int .i64 k)) none none).run Tryz.prog w = .ok (.slice (some ⟨g, k, none⟩) (len - k) (cap - k)) w := by
  have e : Tryz.prog.underlying 22 = some (.slice (Tryz.prog.elem 22)) := by kernel_rfl
  have s1 : (sizeOf (Tryz.prog.elem 22)).run Tryz.prog w = .ok 1 w := by kernel_rfl
  rw [run_sliceAt_slice w 22 _ _ _ _ e, run_slice_l w 22 _ len cap e .i64 k (by omega) (by omega), s1]
  show Result.ok (sliced _ (k : Int).toNat len cap 1) w = _
  unfold sliced
  rw [Int.toNat_natCast, if_neg (by omega)]
  show Result.ok (Value.slice (some ((⟨g, 0, none⟩ : Addr).add (k * 1))) _ _) w = _
  rw [Go.WideShapes.add_plain, Nat.zero_add, Nat.mul_one]

theorem infoSize : (Tryz.prog.info? 3).map (·.size) = some 1 := by kernel_rfl
/-- Cells of one block, copied behind the first k of it. -/
theorem run_copy_ints (w : World) (ty : TypeId) (g N k m dLen dCap sLen sCap xb : Nat) (s : Int) (hb : Blk g (ints N (fst0 s k)) 3 w) (hm : m = Nat.min sLen dLen) (hk : k + m ≤ N) (hx : ∀ j, j < m → w.cell? ⟨xb, j, none⟩ = some (.int .i64 s)) :
    ∃ w', (Builtin.copy_ #[22, 22] ty #[.slice (some ⟨g, k, none⟩) dLen dCap, .slice (some ⟨xb, 0, none⟩) sLen sCap]).run Tryz.prog w = .ok (.int .i64 m) w' ∧ Blk g (ints N (fst0 s (k + m))) 3 w' ∧ Mod g w w' := by
  have hl : (List.replicate m (Value.int .i64 s)).length = m := List.length_replicate
  have := run_copy_row (P := Tryz.prog) w 22 22 ty 3 g k dLen dCap ⟨xb, 0, none⟩ sLen sCap (ints N (fst0 s k)) 3 (List.replicate m (.int .i64 s)) Tryz.underlying22 infoSize hb (by rw [hl]; exact hm)
    (fun j v hv => by
      rw [List.getElem?_replicate] at hv
      split at hv
      · next hj =>
        cases hv
        rw [Go.WideShapes.add_plain, Nat.zero_add]
        exact hx j hj
      · simp at hv)
    (by rw [hl, ints_size]; exact hk) (fun v hv => by rw [List.eq_of_mem_replicate hv]; rfl)
  rw [hl] at this
  refine ⟨_, this, ?_, Mod.setRow _ _ _⟩
  have e := splice_fst N k m s hk
  unfold splice at e
  rw [hl] at e
  have e2 := setRow_heap w g (ints N (fst0 s k)) ((ints N (fst0 s k)).toList.take k ++ List.replicate m (Value.int .i64 s) ++ (ints N (fst0 s k)).toList.drop (k + m)).toArray 3 (0, 0) hb
  rw [List.append_assoc, e] at e2
  rw [List.append_assoc, e]
  exact e2
theorem wpList_copy_ints {w : World} {ops : Array Oper} {rest : List Oper} {o : Oper} {a : Act} {Q : Exit → Act → World → Prop} (hgd : o.guard = none) (d s : Operand) (ho : o.op = .call { callee := .builtin .copy, args := #[d, s], argTypes := #[22, 22] })
    (g N k m dLen dCap sLen sCap xb : Nat) (x : Int) (hd : a.eval d = .slice (some ⟨g, k, none⟩) dLen dCap) (hs : a.eval s = .slice (some ⟨xb, 0, none⟩) sLen sCap) (hb : Blk g (ints N (fst0 x k)) 3 w) (hm : m = Nat.min sLen dLen) (hk : k + m ≤ N) (hx : ∀ j, j < m → w.cell? ⟨xb, j, none⟩ = some (.int .i64 x))
    (h : ∀ w', Hid (Blk g (ints N (fst0 x (k + m))) 3 w' ∧ Mod g w w') → wpList Tryz.prog ops Q rest (a.put o.dst (.int .i64 m)) w') : wpList Tryz.prog ops Q (o :: rest) a w := by
  refine wpList_plain hgd fun K hK => ?_
  obtain ⟨w', hrun, h1, h2⟩ := run_copy_ints w o.type g N k m dLen dCap sLen sCap xb x hb hm hk hx
  unfold Oper.wp
  simp [execOp, ho, resolve, invoke, builtin, hd, hs, hrun, Result.andThen]
  exact hK _ _ (h w' ⟨h1, h2⟩)
theorem step_copy_ints {ops : Array Oper} {o : Oper} {a : Act} {w : World} {K : Act → World → Prop} {Q : Exit → Act → World → Prop} {E : Prop} (hgd : o.guard = none) (d s : Operand) (ho : o.op = .call { callee := .builtin .copy, args := #[d, s], argTypes := #[22, 22] })
    (g N k m dLen dCap sLen sCap xb : Nat) (x : Int) (hd : a.eval d = .slice (some ⟨g, k, none⟩) dLen dCap) (hs : a.eval s = .slice (some ⟨xb, 0, none⟩) sLen sCap) (hb : Blk g (ints N (fst0 x k)) 3 w) (hm : m = Nat.min sLen dLen) (hk : k + m ≤ N) (hx : ∀ j, j < m → w.cell? ⟨xb, j, none⟩ = some (.int .i64 x))
    (h : ∀ w', Hid (Blk g (ints N (fst0 x (k + m))) 3 w' ∧ Mod g w w') → K (a.put o.dst (.int .i64 m)) w') : if Region.wanted o (yielded ops a.tmps) = true then Oper.wp Tryz.prog o a w K Q else E := by
  have hw : Region.wanted o (yielded ops a.tmps) = true := by simp [Region.wanted, hgd]
  rw [if_pos hw]
  obtain ⟨w', hrun, h1, h2⟩ := run_copy_ints w o.type g N k m dLen dCap sLen sCap xb x hb hm hk hx
  unfold Oper.wp
  simp [execOp, ho, resolve, invoke, builtin, hd, hs, hrun, Result.andThen]
  exact h w' ⟨h1, h2⟩

end Go.Proofs.YtgahdjfkmpadoaaGreat
