/- Decimals, for stage 5's laws: a byte more, the bytes that stand in one, digits and noughts. -/
import Derived.Test.YtnelkhmahmoclaaGreatDoorTextPM
namespace Go.Proofs.Wd
set_option linter.unusedVariables false

theorem put_inj (a b : Int) (ha : -9223372036854775807 ≤ a ∧ a ≤ 9223372036854775807) (hb : -9223372036854775807 ≤ b ∧ b ≤ 9223372036854775807) (h : putL a = putL b) : a = b := by
  have h1 := get_put a ha.1 ha.2
  rw [h, get_put b hb.1 hb.2] at h1
  exact (Prod.mk.inj h1).1.symm
/-- One byte more that is no digit. -/
theorem form_more (h r : Nat) (hr : r < 4294967296) (c : UInt8) (hc : isD c = false) : formL (wholeL h ++ (if r = 0 then [] else 46 :: fracL 32 r) ++ [c]) = none := by
  have h46 : isD (46 : UInt8) = false := by decide
  by_cases c0 : r = 0
  · rw [if_pos c0, List.append_nil]
    have hn : nd (wholeL h ++ [c]) = (wholeL h).length := nd_all _ _ (whole_all h) (Or.inr (by simpa using hc))
    have hd : (wholeL h ++ [c]).drop ((wholeL h).length + 1) = [] := List.drop_eq_nil_of_le (by simp)
    unfold formL
    rw [hn, hd]
    split
    · rfl
    · rw [if_pos (by simp), if_pos (Or.inr (Or.inl (by rw [nd_nil]; omega)))]
  · rw [if_neg c0, List.append_assoc, List.cons_append]
    have hn : nd (wholeL h ++ 46 :: (fracL 32 r ++ [c])) = (wholeL h).length := nd_all _ _ (whole_all h) (Or.inr (by simpa using h46))
    have hd : (wholeL h ++ 46 :: (fracL 32 r ++ [c])).drop ((wholeL h).length + 1) = fracL 32 r ++ [c] := by
      rw [List.drop_append]
      simp
    have hf : nd (fracL 32 r ++ [c]) = (fracL 32 r).length := nd_all _ _ (frac_all 32 r hr) (Or.inr (by simpa using hc))
    unfold formL
    rw [hn, hd, hf]
    split
    · rfl
    · rw [if_pos (by simp), if_pos (Or.inr (Or.inr (Or.inr (by simp; omega))))]
theorem get_more (a : Int) (c : UInt8) (hc : isD c = false) : getR (putL a ++ [c]) = (0, 5) := by
  have hf := form_more (absF a / 4294967296) (absF a % 4294967296) (Nat.mod_lt _ (by omega)) c hc
  by_cases ha : a < 0
  · have hput : putL a ++ [c] = 45 :: (wholeL (absF a / 4294967296) ++ (if absF a % 4294967296 = 0 then [] else 46 :: fracL 32 (absF a % 4294967296)) ++ [c]) := by
      unfold putL
      rw [if_pos ha]
      simp
    have hneg : negL (putL a ++ [c]) = true := by rw [hput]; unfold negL; simp
    have hrest : restL (putL a ++ [c]) = wholeL (absF a / 4294967296) ++ (if absF a % 4294967296 = 0 then [] else 46 :: fracL 32 (absF a % 4294967296)) ++ [c] := by unfold restL; rw [hneg, if_pos rfl, hput]; rfl
    unfold getR
    rw [hrest, hf]
  · have hput : putL a ++ [c] = wholeL (absF a / 4294967296) ++ (if absF a % 4294967296 = 0 then [] else 46 :: fracL 32 (absF a % 4294967296)) ++ [c] := by
      unfold putL
      rw [if_neg ha]
      simp
    have hneg : negL (putL a ++ [c]) = false := by
      rw [hput, List.append_assoc]
      unfold negL
      rw [decide_eq_false_iff_not]
      exact fun h => whole_head _ _ h.2
    have hrest : restL (putL a ++ [c]) = wholeL (absF a / 4294967296) ++ (if absF a % 4294967296 = 0 then [] else 46 :: fracL 32 (absF a % 4294967296)) ++ [c] := by unfold restL; rw [hneg, if_neg (by decide), hput]
    unfold getR
    rw [hrest, hf]
/-- Which bytes stand in a decimal. -/
theorem put_bytes (a : Int) (i : Nat) (hi : i < (putL a).length) : isD ((putL a).getD i 0) = true ∨ (putL a).getD i 0 = 46 ∨ ((putL a).getD i 0 = 45 ∧ i = 0) := by
  have hb : ∀ c ∈ wholeL (absF a / 4294967296) ++ (if absF a % 4294967296 = 0 then [] else 46 :: fracL 32 (absF a % 4294967296)), isD c = true ∨ c = 46 := by
    intro c hc
    rcases List.mem_append.1 hc with hc | hc
    · exact Or.inl (whole_all _ c hc)
    · split at hc
      · simp at hc
      · rcases List.mem_cons.1 hc with hc | hc
        · exact Or.inr hc
        · exact Or.inl (frac_all 32 _ (Nat.mod_lt _ (by omega)) c hc)
  have key : ∀ (l : List UInt8) (j : Nat), j < l.length → l.getD j 0 ∈ l := fun l j hj => by
    simp only [List.getD, List.getElem?_eq_getElem hj, Option.getD_some]
    exact List.getElem_mem _
  by_cases ha : a < 0
  · have hput : putL a = 45 :: (wholeL (absF a / 4294967296) ++ (if absF a % 4294967296 = 0 then [] else 46 :: fracL 32 (absF a % 4294967296))) := by
      unfold putL
      rw [if_pos ha]
      simp
    rw [hput] at hi ⊢
    cases i with
    | zero => exact Or.inr (Or.inr ⟨rfl, rfl⟩)
    | succ j =>
      rw [List.getD_cons_succ]
      rcases hb _ (key _ j (by simpa using hi)) with h | h
      · exact Or.inl h
      · exact Or.inr (Or.inl h)
  · have hput : putL a = wholeL (absF a / 4294967296) ++ (if absF a % 4294967296 = 0 then [] else 46 :: fracL 32 (absF a % 4294967296)) := by
      unfold putL
      rw [if_neg ha]
      simp
    rw [hput] at hi ⊢
    rcases hb _ (key _ i hi) with h | h
    · exact Or.inl h
    · exact Or.inr (Or.inl h)
/-- Digits that were written, read as a number. -/
theorem rdig_all : ∀ k n, (rdig k n).all isD = true
  | 0, _ => rfl
  | k + 1, n => by
    rw [rdig, List.all_cons, rdig_all k (n / 10), isD_chr (n % 10) (by omega)]
    rfl
theorem pad_all (k n : Nat) : (padL k n).all isD = true := by rw [padL, List.all_reverse]; exact rdig_all k n
theorem num_pad : ∀ k n, n < 10 ^ k → numL (padL k n) = n
  | 0, n, h => by simp at h; subst h; rfl
  | k + 1, n, h => by
    rw [Nat.pow_succ] at h
    rw [padL_succ, numL_snoc, num_pad k (n / 10) (by omega), chr_nat (n % 10) (by omega)]
    omega
theorem form_dot (h : Nat) (b : List UInt8) (hh : h < 10000000000) (hb : b.all isD = true) (h1 : 1 ≤ b.length) (h2 : b.length ≤ 32) : formL (wholeL h ++ 46 :: b) = some (h, numL b, b.length) := by
  have hp := whole_pos h
  have hl : (wholeL h).length ≤ 10 := wholeL_len h 9 (by omega)
  have h46 : isD (46 : UInt8) = false := by decide
  have hn : nd (wholeL h ++ 46 :: b) = (wholeL h).length := nd_all _ _ (whole_all h) (Or.inr (by simpa using h46))
  have hd : (wholeL h ++ 46 :: b).drop ((wholeL h).length + 1) = b := by
    rw [List.drop_append]
    simp
  have hf : nd b = b.length := (nd_full b).1 hb
  unfold formL
  rw [hn, hd, hf, if_neg, if_pos (by simp), if_neg]
  · rw [numL_append, whole_num]
    rfl
  · intro e
    rcases e with e | e | e | e
    · apply e; simp [List.getD]
    · omega
    · omega
    · simp at e; omega
  · intro e
    rcases e with e | e | ⟨e1, e2⟩
    · omega
    · omega
    · refine whole_first h (whole_one h e1) ?_
      rw [head_append _ _ hp] at e2
      exact e2
/-- A whole part, so many digits, so many noughts. -/
def nearL (h low many z : Nat) : List UInt8 := wholeL h ++ 46 :: (padL many low ++ List.replicate z 48)
def nearQ5 (low unit : Nat) : Nat := (2 * low * 4294967296 + unit) / (2 * unit)
theorem near_form (h low many z : Nat) (hh : h < 10000000000) (hl : low < 10 ^ many) (h1 : 1 ≤ many) (h2 : many + z ≤ 32) : formL (nearL h low many z) = some (h, low * 10 ^ z, many + z) := by
  have hb : (padL many low ++ List.replicate z 48).all isD = true := by
    rw [List.all_append, pad_all]
    simp [isD]
  have hlen : (padL many low ++ List.replicate z 48).length = many + z := by rw [List.length_append, padL_len, List.length_replicate]
  have e := form_dot h (padL many low ++ List.replicate z 48) hh hb (by omega) (by omega)
  rw [hlen, num_app, num_pad many low hl, num_zeros, List.length_replicate] at e
  exact e
theorem near_cancel (low many z : Nat) : (2 * (low * 10 ^ z) * 4294967296 + 10 ^ (many + z)) / (2 * 10 ^ (many + z)) = nearQ5 low (10 ^ many) := by
  have hz : 0 < 10 ^ z := Nat.pow_pos (by omega)
  unfold nearQ5
  rw [Nat.pow_add]
  have e1 : 2 * (low * 10 ^ z) * 4294967296 + 10 ^ many * 10 ^ z = (2 * low * 4294967296 + 10 ^ many) * 10 ^ z := by grind
  have e2 : 2 * (10 ^ many * 10 ^ z) = 2 * 10 ^ many * 10 ^ z := by grind
  rw [e1, e2, Nat.mul_div_mul_right _ _ hz]
theorem near_bounds (low unit : Nat) (hu : 0 < unit) (hb : unit ≤ 1000000000) (hl : low < unit) : nearQ5 low unit < 4294967296 ∧ 2 * unit * nearQ5 low unit ≤ 2 * low * 4294967296 + unit ∧ 2 * low * 4294967296 + unit < 2 * unit * nearQ5 low unit + 2 * unit := by
  have a1 : 2 * unit * nearQ5 low unit ≤ 2 * low * 4294967296 + unit := Nat.mul_div_le _ _
  have a2 : 2 * low * 4294967296 + unit < 2 * unit * (nearQ5 low unit + 1) := Nat.lt_mul_div_succ _ (by omega)
  refine ⟨?_, a1, by rw [Nat.mul_add] at a2; omega⟩
  unfold nearQ5
  rw [Nat.div_lt_iff_lt_mul (by omega)]
  omega
theorem near_get (h low many z : Nat) (hh : h < 2147483648) (hl : low < 10 ^ many) (h1 : 1 ≤ many) (h9 : many ≤ 9) (h2 : many + z ≤ 32) :
    getR (nearL h low many z) = (((h * 4294967296 + nearQ5 low (10 ^ many) : Nat) : Int), 0) ∧ getR (45 :: nearL h low many z) = (-((h * 4294967296 + nearQ5 low (10 ^ many) : Nat) : Int), 0) := by
  have hf := near_form h low many z (by omega) hl h1 h2
  have hu : 0 < 10 ^ many := Nat.pow_pos (by omega)
  have hb : 10 ^ many ≤ 1000000000 := by
    have : (1000000000 : Nat) = 10 ^ 9 := by decide
    rw [this]
    exact Nat.pow_le_pow_right (by omega) h9
  have hq := (near_bounds low (10 ^ many) hu hb hl).1
  have hnum : ∀ bl, numR bl h (low * 10 ^ z) (many + z) = (if bl then -((h * 4294967296 + nearQ5 low (10 ^ many) : Nat) : Int) else ((h * 4294967296 + nearQ5 low (10 ^ many) : Nat) : Int), 0) := by
    intro bl
    unfold numR
    rw [if_neg (by omega), near_cancel]
    generalize nearQ5 low (10 ^ many) = q at *
    have : min (h * 4294967296 + q) 9223372036854775807 = h * 4294967296 + q := by omega
    rw [this]
  constructor
  · have hneg : negL (nearL h low many z) = false := by
      unfold negL
      rw [decide_eq_false_iff_not]
      exact fun h => whole_head _ _ h.2
    have hrest : restL (nearL h low many z) = nearL h low many z := by unfold restL; rw [hneg, if_neg (by decide)]
    unfold getR
    rw [hrest, hf, hneg]
    show numR false h (low * 10 ^ z) (many + z) = _
    rw [hnum false, if_neg (by decide)]
  · have hneg : negL (45 :: nearL h low many z) = true := by unfold negL; simp
    have hrest : restL (45 :: nearL h low many z) = nearL h low many z := by unfold restL; rw [hneg, if_pos rfl]; rfl
    unfold getR
    rw [hrest, hf, hneg]
    show numR true h (low * 10 ^ z) (many + z) = _
    rw [hnum true, if_pos rfl]
end Go.Proofs.Wd
