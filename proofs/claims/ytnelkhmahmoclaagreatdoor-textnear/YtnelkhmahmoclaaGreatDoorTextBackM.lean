/- What is put is got: in whole numbers. -/
import Derived.Test.YtnelkhmahmoclaaGreatDoorTextNum
namespace Go.Proofs.Wd
set_option linter.unusedVariables false

theorem preV_congr (D E : Nat → Nat) : ∀ k, (∀ i, i < k → D i = E i) → preV D k = preV E k
  | 0, _ => rfl
  | k + 1, h => by
    show 10 * preV D k + D k = 10 * preV E k + E k
    rw [preV_congr D E k (fun i hi => h i (by omega)), h k (by omega)]
def numL (l : List UInt8) : Nat := preV (dig l) l.length
theorem dig_append (l x : List UInt8) (i : Nat) (h : i < l.length) : dig (l ++ x) i = dig l i := by
  unfold dig
  simp [List.getD, List.getElem?_append_left h]
theorem numL_append (l x : List UInt8) : preV (dig (l ++ x)) l.length = numL l := preV_congr _ _ _ (fun i hi => dig_append l x i hi)
theorem numL_snoc (l : List UInt8) (c : UInt8) : numL (l ++ [c]) = 10 * numL l + (c.toNat - 48) := by
  unfold numL
  rw [List.length_append]
  show 10 * preV (dig (l ++ [c])) l.length + dig (l ++ [c]) l.length = _
  rw [numL_append]
  unfold numL dig
  simp [List.getD]
theorem preV_cons (c : UInt8) (l : List UInt8) : ∀ k, preV (dig (c :: l)) (k + 1) = (c.toNat - 48) * 10 ^ k + preV (dig l) k
  | 0 => by simp [preV, dig]
  | k + 1 => by
    show 10 * preV (dig (c :: l)) (k + 1) + dig (c :: l) (k + 1) = _ + (10 * preV (dig l) k + dig l k)
    rw [preV_cons c l k, show dig (c :: l) (k + 1) = dig l k by simp [dig], Nat.pow_succ]
    grind
theorem numL_cons (c : UInt8) (l : List UInt8) : numL (c :: l) = (c.toNat - 48) * 10 ^ l.length + numL l := preV_cons c l l.length

theorem isD_chr (d : Nat) (h : d < 10) : isD (chr d) = true := by
  unfold isD
  rw [chr_nat d h]
  simp
  omega
theorem whole_all (n : Nat) : ∀ c ∈ wholeL n, isD c = true := by
  induction n using Nat.strongRecOn with
  | ind n ih =>
    intro c hc
    by_cases h : n < 10
    · rw [wholeL_lt n h] at hc
      simp at hc
      rw [hc]
      exact isD_chr n h
    · rw [wholeL_ge n h, List.mem_append] at hc
      rcases hc with hc | hc
      · exact ih (n / 10) (by omega) c hc
      · simp at hc
        rw [hc]
        exact isD_chr _ (by omega)
theorem whole_num (n : Nat) : numL (wholeL n) = n := by
  induction n using Nat.strongRecOn with
  | ind n ih =>
    by_cases h : n < 10
    · rw [wholeL_lt n h]
      show 10 * 0 + dig [chr n] 0 = n
      unfold dig
      simp only [List.getD_cons_zero]
      rw [chr_nat n h]
      omega
    · rw [wholeL_ge n h, numL_snoc, ih (n / 10) (by omega), chr_nat _ (by omega)]
      omega
theorem whole_pos (n : Nat) : 0 < (wholeL n).length := by
  by_cases h : n < 10
  · rw [wholeL_lt n h]; simp
  · rw [wholeL_ge n h]; simp
theorem head_append (l x : List UInt8) (h : 0 < l.length) : (l ++ x).getD 0 0 = l.getD 0 0 := by
  simp only [List.getD, List.getElem?_append_left h]
/-- Its first digit is 0 only if it is alone. -/
theorem whole_first (n : Nat) : 0 < n → (wholeL n).getD 0 0 ≠ 48 := by
  induction n using Nat.strongRecOn with
  | ind n ih =>
    intro h0
    by_cases h : n < 10
    · rw [wholeL_lt n h]
      intro e
      have e2 := congrArg UInt8.toNat e
      simp only [List.getD_cons_zero] at e2
      rw [chr_nat n h] at e2
      have : (48 : UInt8).toNat = 48 := rfl
      omega
    · rw [wholeL_ge n h, head_append _ _ (whole_pos (n / 10))]
      exact ih (n / 10) (by omega) (by omega)
theorem whole_one (n : Nat) (h : 1 < (wholeL n).length) : 0 < n := by
  by_cases c : n < 10
  · rw [wholeL_lt n c] at h; simp at h
  · omega
theorem nd_all (l x : List UInt8) (h : ∀ c ∈ l, isD c = true) (hx : x = [] ∨ isD (x.getD 0 0) = false) : nd (l ++ x) = l.length := by
  induction l with
  | nil =>
    rcases hx with rfl | hx
    · rfl
    · cases x with
      | nil => rfl
      | cons c x =>
        rw [List.nil_append, nd_cons, if_neg (by simpa using hx)]
        rfl
  | cons c l ih =>
    rw [List.cons_append, nd_cons, if_pos (h c (by simp)), ih (fun d hd => h d (by simp [hd]))]
    rfl
theorem frac_all : ∀ f r, r < 4294967296 → ∀ c ∈ fracL f r, isD c = true
  | 0, _, _ => by simp [fracL]
  | f + 1, r, h => by
    intro c hc
    unfold fracL at hc
    split at hc
    · simp at hc
    · rw [List.mem_cons] at hc
      rcases hc with hc | hc
      · rw [hc]; exact isD_chr _ (by omega)
      · exact frac_all f _ (Nat.mod_lt _ (by omega)) c hc
theorem frac_num : ∀ f r, Even2 f r → numL (fracL f r) * 4294967296 = r * 10 ^ (fracL f r).length
  | 0, r, h => by rw [h.zero]; simp [fracL, numL, preV]
  | f + 1, r, h => by
    by_cases c : r = 0
    · rw [c, fracL_zero]; simp [numL, preV]
    · have hr := h.2.1
      rw [fracL_step f r c, numL_cons, chr_nat _ (by omega), List.length_cons, Nat.add_mul, frac_num f _ h.step, Nat.pow_succ]
      have e : r * 10 = r * 10 / 4294967296 * 4294967296 + r * 10 % 4294967296 := by omega
      generalize 10 ^ (fracL f (r * 10 % 4294967296)).length = P
      generalize r * 10 / 4294967296 = q at *
      generalize r * 10 % 4294967296 = r' at *
      rw [show 48 + q - 48 = q by omega]
      grind
theorem frac_pos (f r : Nat) (h : r ≠ 0) : 0 < (fracL (f + 1) r).length := by rw [fracL_step f r h]; simp
theorem round_exact (N r P : Nat) (hP : 0 < P) (h : N * 4294967296 = r * P) : (2 * N * 4294967296 + P) / (2 * P) = r := by
  have e : 2 * N * 4294967296 + P = P + r * (2 * P) := by grind
  rw [e, Nat.add_mul_div_right _ _ (by omega), Nat.div_eq_of_lt (by omega)]
  omega

/-- The form of a decimal that was put. -/
theorem form_put (h r : Nat) (hh : h < 2147483648) (hr : r < 4294967296) : ∃ N K, formL (wholeL h ++ (if r = 0 then [] else 46 :: fracL 32 r)) = some (h, N, K) ∧ (2 * N * 4294967296 + 10 ^ K) / (2 * 10 ^ K) = r := by
  have hp := whole_pos h
  have hl : (wholeL h).length ≤ 10 := wholeL_len h 9 (by omega)
  have h46 : isD (46 : UInt8) = false := by decide
  by_cases c : r = 0
  · rw [if_pos c, List.append_nil]
    have hn : nd (wholeL h) = (wholeL h).length := by have := nd_all (wholeL h) [] (whole_all h) (Or.inl rfl); rwa [List.append_nil] at this
    refine ⟨0, 0, ?_, by rw [c]⟩
    unfold formL
    rw [hn, if_neg, if_neg (by omega)]
    · show some (numL (wholeL h), 0, 0) = _
      rw [whole_num]
    · intro e
      rcases e with e | e | ⟨e1, e2⟩
      · omega
      · omega
      · exact whole_first h (whole_one h e1) e2
  · rw [if_neg c]
    have hn : nd (wholeL h ++ 46 :: fracL 32 r) = (wholeL h).length := nd_all _ _ (whole_all h) (Or.inr (by simpa using h46))
    have hd : (wholeL h ++ 46 :: fracL 32 r).drop ((wholeL h).length + 1) = fracL 32 r := by
      rw [List.drop_append]
      simp
    have hf : nd (fracL 32 r) = (fracL 32 r).length := by have := nd_all (fracL 32 r) [] (frac_all 32 r hr) (Or.inl rfl); rwa [List.append_nil] at this
    refine ⟨numL (fracL 32 r), (fracL 32 r).length, ?_, round_exact _ _ _ (Nat.pow_pos (by omega)) (frac_num 32 r (Even2.start r hr))⟩
    have f1 : 0 < (fracL 32 r).length := frac_pos 31 r c
    have f2 := fracL_len 32 r
    unfold formL
    rw [hn, hd, hf, if_neg, if_pos (by simp), if_neg]
    · rw [numL_append, whole_num]
      rfl
    · intro e
      rcases e with e | e | e | e
      · apply e; simp [List.getD]
      · omega
      · omega
      · simp at e; omega
    · intro e
      rcases e with e | e | ⟨e1, e2⟩
      · omega
      · omega
      · refine whole_first h (whole_one h e1) ?_
        rw [head_append _ _ hp] at e2
        exact e2

theorem whole_head (n : Nat) (x : List UInt8) : (wholeL n ++ x).getD 0 0 ≠ 45 := by
  have hp := whole_pos n
  have hd := whole_all n ((wholeL n).getD 0 0) (by
    simp only [List.getD, List.getElem?_eq_getElem hp, Option.getD_some]
    exact List.getElem_mem _)
  intro e
  have e2 : (wholeL n).getD 0 0 = 45 := by rw [head_append _ _ hp] at e; exact e
  rw [e2] at hd
  exact absurd hd (by decide)

/-- What is put is got. -/
theorem get_put (a : Int) (h0 : -9223372036854775807 ≤ a) (h1 : a ≤ 9223372036854775807) : getR (putL a) = (a, 0) := by
  obtain ⟨m, hm⟩ : ∃ m, absF a = m := ⟨_, rfl⟩
  have ma : (a < 0 ∧ a = -(m : Int)) ∨ (0 ≤ a ∧ a = (m : Int)) := by
    rw [← hm]; unfold absF
    split
    · split <;> omega
    · omega
  have hm2 : m ≤ 9223372036854775807 := by omega
  obtain ⟨N, K, f1, f2⟩ := form_put (m / 4294967296) (m % 4294967296) (by omega) (Nat.mod_lt _ (by omega))
  have hput : putL a = (if a < 0 then [45] else []) ++ (wholeL (m / 4294967296) ++ (if m % 4294967296 = 0 then [] else 46 :: fracL 32 (m % 4294967296))) := by
    unfold putL
    rw [hm, List.append_assoc]
  have hnum : ∀ bl, numR bl (m / 4294967296) N K = (if bl then -(m : Int) else (m : Int), 0) := by
    intro bl
    unfold numR
    rw [if_neg (by omega), f2]
    have : min (m / 4294967296 * 4294967296 + m % 4294967296) 9223372036854775807 = m := by omega
    rw [this]
  rcases ma with ⟨c, e⟩ | ⟨c, e⟩
  · rw [if_pos c] at hput
    have hneg : negL (putL a) = true := by rw [hput]; unfold negL; simp
    have hrest : restL (putL a) = wholeL (m / 4294967296) ++ (if m % 4294967296 = 0 then [] else 46 :: fracL 32 (m % 4294967296)) := by unfold restL; rw [hneg, if_pos rfl, hput]; rfl
    unfold getR
    rw [hrest, f1, hneg]
    show numR true _ N K = _
    rw [hnum true, if_pos rfl, e]
  · rw [if_neg (by omega), List.nil_append] at hput
    have hneg : negL (putL a) = false := by rw [hput]; unfold negL; rw [decide_eq_false_iff_not]; exact fun h => whole_head _ _ h.2
    have hrest : restL (putL a) = wholeL (m / 4294967296) ++ (if m % 4294967296 = 0 then [] else 46 :: fracL 32 (m % 4294967296)) := by unfold restL; rw [hneg, if_neg (by decide), hput]
    unfold getR
    rw [hrest, f1, hneg]
    show numR false _ N K = _
    rw [hnum false, if_neg (by decide), e]

end Go.Proofs.Wd
