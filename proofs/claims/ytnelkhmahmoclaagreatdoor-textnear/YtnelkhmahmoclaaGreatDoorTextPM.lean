/- Decimals as the program reckons them: digits from the last one on, runs of digits, a text cut at a byte. -/
import Derived.Test.YtnelkhmahmoclaaGreatDoorTextBackM
import Derived.Lib.TrimByte
import Derived.Lib.SlTrimSet
import Derived.Lib.Atoi
import Derived.Lib.Bytealg
namespace Go.Proofs.Wd
set_option linter.unusedVariables false

/-- The last k digits of n, the last one first; and what is ahead of them. -/
def rdig : Nat → Nat → List UInt8
  | 0, _ => []
  | k + 1, n => chr (n % 10) :: rdig k (n / 10)
def shr : Nat → Nat → Nat
  | 0, n => n
  | k + 1, n => shr k (n / 10)
theorem shr_step : ∀ k n, shr (k + 1) n = shr k n / 10
  | 0, n => rfl
  | k + 1, n => by
    show shr (k + 1) (n / 10) = shr k (n / 10) / 10
    exact shr_step k (n / 10)
theorem rdig_snoc : ∀ k n, rdig (k + 1) n = rdig k n ++ [chr (shr k n % 10)]
  | 0, n => rfl
  | k + 1, n => by
    show chr (n % 10) :: rdig (k + 1) (n / 10) = (chr (n % 10) :: rdig k (n / 10)) ++ [chr (shr k (n / 10) % 10)]
    rw [rdig_snoc k (n / 10)]
    rfl
theorem rdig_len : ∀ k n, (rdig k n).length = k
  | 0, _ => rfl
  | k + 1, n => by simp [rdig, rdig_len k (n / 10)]
def padL (k n : Nat) : List UInt8 := (rdig k n).reverse
theorem padL_len (k n : Nat) : (padL k n).length = k := by simp [padL, rdig_len]
theorem padL_succ (k n : Nat) : padL (k + 1) n = padL k (n / 10) ++ [chr (n % 10)] := by simp [padL, rdig]
theorem shr_zero : ∀ k, shr k 0 = 0
  | 0 => rfl
  | k + 1 => shr_zero k
theorem shr_lt : ∀ k n, n < 10 ^ k → shr k n = 0
  | 0, n, h => by simp at h; simp [shr, h]
  | k + 1, n, h => by
    rw [Nat.pow_succ] at h
    exact shr_lt k (n / 10) (by omega)
theorem shr_ge : ∀ k j n, k ≤ j → shr k n = 0 → shr j n = 0
  | 0, j, n, _, h => by
    have h' : n = 0 := h
    rw [h', shr_zero]
  | k + 1, 0, n, h, _ => by omega
  | k + 1, j + 1, n, h, h2 => shr_ge k j (n / 10) (by omega) h2
/-- How many digits are written: at least so many. -/
def WrK (n least K : Nat) : Prop := least ≤ K ∧ shr K n = 0 ∧ (K = least ∨ shr (K - 1) n ≠ 0)
theorem wr_pad {n least K : Nat} (h : WrK n least K) (hn : n < 10 ^ least) : K = least := by
  obtain ⟨h1, h2, h3⟩ := h
  rcases h3 with h3 | h3
  · exact h3
  · rcases Nat.lt_or_ge least K with c | c
    · exact absurd (shr_ge least (K - 1) n (by omega) (shr_lt least n hn)) h3
    · omega
theorem wr_whole : ∀ (K n : Nat), WrK n 1 K → padL K n = wholeL n
  | 0, n, h => by have := h.1; omega
  | 1, n, h => by
    have h2 : n / 10 = 0 := h.2.1
    have : n < 10 := by omega
    rw [padL_succ, wholeL_lt n this, Nat.mod_eq_of_lt this]
    rfl
  | K + 2, n, h => by
    obtain ⟨h1, h2, h3⟩ := h
    have h3' : shr (K + 1) n ≠ 0 := by
      rcases h3 with h3 | h3
      · omega
      · exact h3
    have hn : ¬ n < 10 := fun c => h3' (shr_ge 1 (K + 1) n (by omega) (by show n / 10 = 0; omega))
    rw [padL_succ, wholeL_ge n hn, wr_whole (K + 1) (n / 10) ⟨by omega, h2, ?_⟩]
    cases K with
    | zero => left; rfl
    | succ K => right; exact h3'

/-- So many digits behind the point of r parts of 2^32. -/
def digs : Nat → Nat → List UInt8
  | 0, _ => []
  | f + 1, r => chr (r * 10 / 4294967296) :: digs f (r * 10 % 4294967296)
theorem digs_snoc : ∀ k r, digs (k + 1) r = digs k r ++ [chr (r * 10 ^ k % 4294967296 * 10 / 4294967296)] ∨ 4294967296 ≤ r
  | 0, r => by
    rcases Nat.lt_or_ge r 4294967296 with h | h
    · left; simp [digs, Nat.mod_eq_of_lt h]
    · right; exact h
  | k + 1, r => by
    left
    show chr (r * 10 / 4294967296) :: digs (k + 1) (r * 10 % 4294967296) = (chr (r * 10 / 4294967296) :: digs k (r * 10 % 4294967296)) ++ [chr (r * 10 ^ (k + 1) % 4294967296 * 10 / 4294967296)]
    rcases digs_snoc k (r * 10 % 4294967296) with h | h
    · rw [h]
      have e : r * 10 % 4294967296 * 10 ^ k % 4294967296 = r * 10 ^ (k + 1) % 4294967296 := by
        rw [Nat.mod_mul_mod, Nat.pow_succ, Nat.mul_assoc, Nat.mul_comm 10]
      rw [e]
      rfl
    · have := Nat.mod_lt (r * 10) (show 0 < 4294967296 by omega)
      omega
theorem digs_add : ∀ a b r, digs (a + b) r = digs a r ++ digs b (r * 10 ^ a % 4294967296) ∨ 4294967296 ≤ r
  | 0, b, r => by
    rcases Nat.lt_or_ge r 4294967296 with h | h
    · left; simp [digs, Nat.mod_eq_of_lt h]
    · right; exact h
  | a + 1, b, r => by
    left
    rw [show a + 1 + b = (a + b) + 1 by omega]
    show chr (r * 10 / 4294967296) :: digs (a + b) (r * 10 % 4294967296) = (chr (r * 10 / 4294967296) :: digs a (r * 10 % 4294967296)) ++ digs b (r * 10 ^ (a + 1) % 4294967296)
    rcases digs_add a b (r * 10 % 4294967296) with h | h
    · have e : r * 10 % 4294967296 * 10 ^ a % 4294967296 = r * 10 ^ (a + 1) % 4294967296 := by
        rw [Nat.mod_mul_mod, Nat.pow_succ, Nat.mul_assoc, Nat.mul_comm 10]
      rw [h, e]
      rfl
    · have := Nat.mod_lt (r * 10) (show 0 < 4294967296 by omega)
      omega
theorem digs_pad : ∀ k r, r < 4294967296 → digs k r = padL k (r * 10 ^ k / 4294967296)
  | 0, r, h => rfl
  | k + 1, r, h => by
    rcases digs_snoc k r with e | e
    · rw [e, padL_succ, digs_pad k r h]
      have hb : r * 10 ^ (k + 1) = r * 10 ^ k * 10 := by rw [Nat.pow_succ, Nat.mul_assoc]
      rw [hb]
      generalize r * 10 ^ k = x
      have e1 : x * 10 / 4294967296 / 10 = x / 4294967296 := by omega
      have e2 : x * 10 / 4294967296 % 10 = x % 4294967296 * 10 / 4294967296 := by omega
      rw [e1, e2]
    · omega
/-- Noughts at the end are taken away. -/
theorem trim_nil (c : UInt8) : Lib.trimRightB [] c = [] := rfl
theorem drop_append (c x : UInt8) (m : List UInt8) : List.dropWhile (· == c) (m ++ [x]) = if List.dropWhile (· == c) m = [] then (if (x == c) = true then [] else [x]) else List.dropWhile (· == c) m ++ [x] := by
  induction m with
  | nil => simp only [List.nil_append, List.dropWhile_cons, List.dropWhile_nil, if_true]
  | cons a m ih =>
    rw [List.cons_append, List.dropWhile_cons, List.dropWhile_cons]
    by_cases h : (a == c) = true
    · rw [if_pos h, if_pos h]; exact ih
    · rw [if_neg h, if_neg h]; simp
theorem trim_cons (c x : UInt8) (l : List UInt8) : Lib.trimRightB (x :: l) c = if Lib.trimRightB l c = [] then (if (x == c) = true then [] else [x]) else x :: Lib.trimRightB l c := by
  unfold Lib.trimRightB
  rw [List.reverse_cons, drop_append]
  by_cases h : List.dropWhile (· == c) l.reverse = []
  · have h' : (List.dropWhile (· == c) l.reverse).reverse = [] := by simp [h]
    rw [if_pos h, if_pos h']
    split <;> simp
  · have h' : ¬ (List.dropWhile (· == c) l.reverse).reverse = [] := by simp [h]
    rw [if_neg h, if_neg h']
    simp
theorem frac_nil : ∀ f r, Even2 f r → fracL f r = [] → r = 0
  | 0, r, h, _ => h.zero
  | f + 1, r, h, e => by
    by_cases h1 : r = 0
    · exact h1
    · have := frac_pos f r h1
      rw [e] at this
      simp at this
theorem trim_digs : ∀ f r, Even2 f r → Lib.trimRightB (digs f r) 48 = fracL f r
  | 0, r, h => by simp [digs, fracL, trim_nil]
  | f + 1, r, h => by
    have ih := trim_digs f (r * 10 % 4294967296) h.step
    have hz := frac_nil f (r * 10 % 4294967296) h.step
    show Lib.trimRightB (chr (r * 10 / 4294967296) :: digs f (r * 10 % 4294967296)) 48 = (if r = 0 then [] else chr (r * 10 / 4294967296) :: fracL f (r * 10 % 4294967296))
    rw [trim_cons, ih]
    have hr : r < 4294967296 := h.2.1
    have hq : r * 10 / 4294967296 < 10 := by omega
    have he : r * 10 = 4294967296 * (r * 10 / 4294967296) + r * 10 % 4294967296 := (Nat.div_add_mod _ _).symm
    have hc := chr_nat (r * 10 / 4294967296) hq
    clear ih h
    generalize r * 10 / 4294967296 = q at *
    generalize r * 10 % 4294967296 = r' at *
    by_cases h0 : r = 0
    · have q0 : q = 0 := by omega
      have r0 : r' = 0 := by omega
      rw [q0, r0, fracL_zero, if_pos rfl, if_pos h0]
      rfl
    · rw [if_neg h0]
      by_cases h1 : fracL f r' = []
      · have h2 : ¬ (chr q == 48) = true := by
          intro c
          have c' : chr q = 48 := by simpa using c
          rw [c'] at hc
          have h48 : (48 : UInt8).toNat = 48 := rfl
          have := hz h1
          omega
        rw [if_pos h1, if_neg h2, h1]
      · rw [if_neg h1]
theorem trim_pad (r : Nat) (h : r < 4294967296) : Lib.trimRightB (padL 16 (r * 10000000000000000 / 4294967296) ++ padL 16 (r * 10000000000000000 % 4294967296 * 10000000000000000 / 4294967296)) 48 = fracL 32 r := by
  have e1 := digs_pad 16 r h
  have e2 := digs_pad 16 (r * 10 ^ 16 % 4294967296) (Nat.mod_lt _ (by omega))
  rcases digs_add 16 16 r with e | e
  · rw [e1, e2] at e
    rw [← trim_digs 32 r (Even2.start r h)]
    exact congrArg (fun x => Lib.trimRightB x 48) e.symm
  · omega

/-- A text up to a byte. -/
def fi (c : UInt8) (l : List UInt8) : Nat := (l.takeWhile fun x => decide (x ≠ c)).length
theorem fi_cons (c x : UInt8) (l : List UInt8) : fi c (x :: l) = if x = c then 0 else fi c l + 1 := by
  unfold fi
  rw [List.takeWhile_cons]
  by_cases h : x = c <;> simp [h]
theorem fi_le (c : UInt8) : ∀ l, fi c l ≤ l.length
  | [] => by simp [fi]
  | x :: l => by rw [fi_cons]; have := fi_le c l; split <;> simp <;> omega
theorem fi_at (c : UInt8) : ∀ l, fi c l < l.length → l.getD (fi c l) 0 = c
  | [], h => by simp at h
  | x :: l, h => by
    rw [fi_cons] at h ⊢
    split
    · rename_i e; simp [e]
    · rename_i e
      rw [if_neg e] at h
      simpa using fi_at c l (by simpa using h)
theorem fi_not (c : UInt8) : ∀ l i, i < fi c l → l.getD i 0 ≠ c
  | [], i, h => by simp [fi] at h
  | x :: l, i, h => by
    rw [fi_cons] at h
    by_cases e : x = c
    · rw [if_pos e] at h; omega
    · rw [if_neg e] at h
      cases i with
      | zero => simpa using e
      | succ i => simpa using fi_not c l i (by omega)
theorem index_fi (c : UInt8) : ∀ l, Lib.indexByte l c = if fi c l < l.length then (fi c l : Int) else -1
  | [] => by simp [Lib.indexByte, fi]
  | x :: l => by
    have ih := index_fi c l
    have hl := fi_le c l
    rw [Lib.indexByte, fi_cons, ih]
    by_cases e : x = c
    · simp [e]
    · rw [if_neg e]
      have : (x == c) = false := by simpa using e
      rw [this]
      by_cases h : fi c l < l.length
      · have h2 : fi c l + 1 < (x :: l).length := by simp; omega
        have h3 : ((fi c l : Int) == -1) = false := beq_eq_false_iff_ne.2 (by omega)
        rw [if_pos h, if_pos h2, h3]
        simp
      · have h2 : ¬ fi c l + 1 < (x :: l).length := by simp; omega
        rw [if_neg h, if_neg h2]
        simp

/-- Some digits, not too many; what may stand ahead of a point. -/
def okD (l : List UInt8) (most : Nat) : Bool := decide (l ≠ []) && (decide (l.length ≤ most) && l.all isD)
def okW (l : List UInt8) : Bool := okD l 10 && (decide (l = [48]) || decide (l.getD 0 0 ≠ 48))
theorem nd_full (l : List UInt8) : l.all isD = true ↔ nd l = l.length := by
  induction l with
  | nil => simp [nd_nil]
  | cons c l ih =>
    rw [nd_cons, List.all_cons, Bool.and_eq_true, ih]
    by_cases h : isD c = true
    · simp [h]
    · simp [h]
theorem isD_46 : isD 46 = false := by decide
theorem nd_le_fi (l : List UInt8) : nd l ≤ fi 46 l := by
  induction l with
  | nil => simp [nd_nil]
  | cons c l ih =>
    rw [nd_cons, fi_cons]
    by_cases e : c = 46
    · subst e; rw [isD_46]; simp
    · rw [if_neg e]; split <;> omega
theorem nd_take (l : List UInt8) (j : Nat) (h : j ≤ l.length) : (l.take j).all isD = true ↔ j ≤ nd l := by
  induction l generalizing j with
  | nil => simp at h; subst h; simp
  | cons c l ih =>
    cases j with
    | zero => simp
    | succ j =>
      rw [List.take_succ_cons, List.all_cons, nd_cons, Bool.and_eq_true, ih j (by simpa using h)]
      by_cases e : isD c = true <;> simp [e]
theorem pre_take (l : List UInt8) (k : Nat) (h : k ≤ l.length) : preV (dig l) k = numL (l.take k) := by
  have e := numL_append (l.take k) (l.drop k)
  rw [List.take_append_drop, List.length_take, Nat.min_eq_left h] at e
  exact e
theorem form_cut (t : List UInt8) : formL t = if (!okW (t.take (fi 46 t)) || (decide (fi 46 t < t.length) && !okD (t.drop (fi 46 t + 1)) 32)) = true then none else some (numL (t.take (fi 46 t)), numL (t.drop (fi 46 t + 1)), (t.drop (fi 46 t + 1)).length) := by
  have hk := nd_le_fi t
  have hj := fi_le 46 t
  have hnt := nd_take t (fi 46 t) hj
  have hat := fi_at 46 t
  have hno := fi_not 46 t
  generalize fi 46 t = j at *
  by_cases hd : j ≤ nd t
  · have hjk : j = nd t := by omega
    subst hjk
    have hall : (t.take (nd t)).all isD = true := hnt.2 (Nat.le_refl _)
    have hlen : (t.take (nd t)).length = nd t := by rw [List.length_take]; omega
    have hw : okW (t.take (nd t)) = true ↔ ¬ (nd t < 1 ∨ 10 < nd t ∨ (1 < nd t ∧ t.getD 0 0 = 48)) := by
      unfold okW okD
      rw [hall, hlen]
      cases t with
      | nil => simp [nd_nil]
      | cons c t =>
        by_cases h1 : nd (c :: t) < 1
        · have : nd (c :: t) = 0 := by omega
          simp [this]
        · obtain ⟨m, hm⟩ : ∃ m, nd (c :: t) = m + 1 := ⟨nd (c :: t) - 1, by omega⟩
          rw [hm] at hlen ⊢
          simp only [List.take_succ_cons, List.getD_cons_zero]
          have hlt : (t.take m).length = m := by simpa using hlen
          have e1 : (c :: t.take m = [48]) ↔ (c = 48 ∧ m = 0) := by
            constructor
            · intro e
              have e2 : t.take m = [] := (List.cons.inj e).2
              exact ⟨(List.cons.inj e).1, by rw [e2] at hlt; simpa using hlt.symm⟩
            · rintro ⟨rfl, rfl⟩; simp
          simp only [Bool.and_eq_true, decide_eq_true_eq, Bool.or_eq_true, e1]
          constructor
          · rintro ⟨⟨_, h2, _⟩, h3⟩ c1
            rcases c1 with c1 | c1 | ⟨c1, c2⟩
            · omega
            · omega
            · rcases h3 with h3 | h3
              · omega
              · exact h3 c2
          · intro hn
            refine ⟨⟨by simp, by omega, trivial⟩, ?_⟩
            by_cases c2 : c = 48
            · left; refine ⟨c2, ?_⟩
              by_cases c3 : m = 0
              · exact c3
              · exact absurd (Or.inr (Or.inr ⟨by omega, c2⟩)) hn
            · right; exact c2
    unfold formL
    by_cases hbad : nd t < 1 ∨ 10 < nd t ∨ (1 < nd t ∧ t.getD 0 0 = 48)
    · have hwf : okW (t.take (nd t)) = false := by
        cases h : okW (t.take (nd t)) with
        | false => rfl
        | true => exact absurd hbad (hw.1 h)
      rw [if_pos hbad, hwf]; simp
    · have hwt := hw.2 hbad
      rw [if_neg hbad, hwt]
      by_cases hl : nd t < t.length
      · have h46 := hat hl
        rw [if_pos hl]
        generalize hb : t.drop (nd t + 1) = b
        have hbl : b.length = t.length - (nd t + 1) := by rw [← hb, List.length_drop]
        have hok : okD b 32 = true ↔ ¬ (nd b < 1 ∨ 32 < nd b ∨ nd t + 1 + nd b < t.length) := by
          unfold okD
          have hbn := nd_le b
          simp only [Bool.and_eq_true, decide_eq_true_eq, nd_full]
          constructor
          · rintro ⟨h1, h2, h3⟩ c
            have : 0 < b.length := List.length_pos_iff.2 h1
            omega
          · intro hn
            have h3 : nd b = b.length := by omega
            exact ⟨List.length_pos_iff.1 (by omega), by omega, h3⟩
        cases hc : okD b 32 with
        | true =>
          have hn := hok.1 hc
          have hbn := nd_le b
          rw [if_neg (by rintro (c | c | c | c); exact c h46; all_goals omega)]
          have h3 : nd b = b.length := by omega
          simp only [Bool.not_true, Bool.and_false, Bool.or_false, Bool.false_eq_true, if_false]
          rw [pre_take t (nd t) (by omega), h3]
          rfl
        | false =>
          have hn : (nd b < 1 ∨ 32 < nd b ∨ nd t + 1 + nd b < t.length) := Classical.byContradiction fun c => by
            have := hok.2 c
            rw [hc] at this
            cases this
          rw [if_pos (Or.inr hn)]
          simp [hl]
      · rw [if_neg hl]
        have hb : t.drop (nd t + 1) = [] := List.drop_eq_nil_of_le (by omega)
        rw [hb, pre_take t (nd t) (by omega)]
        simp [hl, numL, preV]
  · have hf : (t.take j).all isD = false := by
      cases h : (t.take j).all isD with
      | false => rfl
      | true => exact absurd (hnt.1 h) hd
    have hwf : okW (t.take j) = false := by unfold okW okD; rw [hf]; simp
    rw [hwf]
    simp only [Bool.not_false, Bool.true_or, if_true]
    unfold formL
    split
    · rfl
    · rw [if_pos (by omega), if_pos (Or.inl (hno (nd t) (by omega)))]

/-- Digits as strconv reads them. -/
theorem dec_from : ∀ (l : List UInt8) (acc : Nat), l.all isD = true → Lib.decFrom acc l = some (acc * 10 ^ l.length + numL l)
  | [], acc, _ => by simp [Lib.decFrom, numL, preV]
  | c :: l, acc, h => by
    rw [List.all_cons, Bool.and_eq_true] at h
    have hc : 48 ≤ c.toNat ∧ c.toNat ≤ 57 := by simpa [isD] using h.1
    rw [Lib.decFrom, Lib.digitVal, if_pos hc]
    show Lib.decFrom (acc * 10 + (c.toNat - 48)) l = _
    rw [dec_from l _ h.2, numL_cons, List.length_cons, Nat.pow_succ]
    congr 1
    grind
theorem atoi_num (l : List UInt8) (h : l ≠ []) (hd : l.all isD = true) : Lib.atoi l = some (numL l : Int) := by
  cases l with
  | nil => exact absurd rfl h
  | cons c l =>
    have hd' := hd
    rw [List.all_cons, Bool.and_eq_true] at hd
    have hc : 48 ≤ c.toNat ∧ c.toNat ≤ 57 := by simpa [isD] using hd.1
    have n1 : (c == 45) = false := by
      cases e : (c == 45) with
      | false => rfl
      | true => have : c = 45 := by simpa using e
                subst this; exact absurd hc.1 (by decide)
    have n2 : (c == 43) = false := by
      cases e : (c == 43) with
      | false => rfl
      | true => have : c = 43 := by simpa using e
                subst this; exact absurd hc.1 (by decide)
    rw [Lib.atoi, n1, n2]
    have e := dec_from (c :: l) 0 hd'
    simp only [Bool.false_eq_true, if_false, Lib.decNat, List.isEmpty_cons, e, Nat.zero_mul, Nat.zero_add, Option.map_some]
theorem num_app (x y : List UInt8) : numL (x ++ y) = numL x * 10 ^ y.length + numL y := by
  induction x with
  | nil => simp [numL, preV]
  | cons c x ih =>
    rw [List.cons_append, numL_cons, numL_cons, ih, List.length_append, Nat.pow_add]
    grind
theorem num_zeros : ∀ k, numL (List.replicate k 48) = 0
  | 0 => rfl
  | k + 1 => by rw [List.replicate_succ, numL_cons, num_zeros k]; simp
theorem num_lt (l : List UInt8) (h : l.all isD = true) : numL l < 10 ^ l.length := by
  refine preV_lt _ _ fun i hi => ?_
  have := (nd_full l).1 h
  exact (dig_le l i (by omega)).1
/-- The digits behind a point, in two runs. -/
theorem num_runs (b p : List UInt8) (hb : b.length ≤ 32) (hp : p = b ++ List.replicate (32 - b.length) 48) : numL (p.take 16) * 10000000000000000 + numL (p.drop 16) = numL b * 10 ^ (32 - b.length) := by
  have hl : p.length = 32 := by rw [hp]; simp; omega
  have e := num_app (p.take 16) (p.drop 16)
  rw [List.take_append_drop, List.length_drop, hl] at e
  have e2 : numL p = numL b * 10 ^ (32 - b.length) := by rw [hp, num_app, num_zeros, List.length_replicate]; simp
  have e3 : (10 : Nat) ^ (32 - 16) = 10000000000000000 := by decide
  rw [e3] at e
  omega
/-- To the nearest one by an odd number, twice. -/
theorem near_twice (F d q1 q2 : Nat) (hd : 0 < d) (ho : d % 2 = 1) (h1 : q1 = (2 * F + d) / (2 * d)) (h2 : q2 = (2 * q1 + d) / (2 * d)) : 2 * F < 2 * q2 * (d * d) + d * d ∧ 2 * q2 * (d * d) < 2 * F + d * d := by
  have a1 : 2 * d * q1 ≤ 2 * F + d := by rw [h1]; exact Nat.mul_div_le _ _
  have a2 : 2 * F + d < 2 * d * (q1 + 1) := by rw [h1]; exact Nat.lt_mul_div_succ _ (by omega)
  have b1 : 2 * d * q2 ≤ 2 * q1 + d := by rw [h2]; exact Nat.mul_div_le _ _
  have b2 : 2 * q1 + d < 2 * d * (q2 + 1) := by rw [h2]; exact Nat.lt_mul_div_succ _ (by omega)
  obtain ⟨m, rfl⟩ : ∃ m, d = 2 * m + 1 := ⟨d / 2, by omega⟩
  have a1' : (2 * m + 1) * q1 ≤ F + m := by
    have e : 2 * (2 * m + 1) * q1 = 2 * ((2 * m + 1) * q1) := by rw [Nat.mul_assoc]
    omega
  have a2' : F ≤ (2 * m + 1) * q1 + m := by
    have e : 2 * (2 * m + 1) * (q1 + 1) = 2 * ((2 * m + 1) * q1) + 2 * (2 * m + 1) := by rw [Nat.mul_assoc, Nat.mul_add]; omega
    omega
  have b1' : (2 * m + 1) * q2 ≤ q1 + m := by
    have e : 2 * (2 * m + 1) * q2 = 2 * ((2 * m + 1) * q2) := by rw [Nat.mul_assoc]
    omega
  have b2' : q1 ≤ (2 * m + 1) * q2 + m := by
    have e : 2 * (2 * m + 1) * (q2 + 1) = 2 * ((2 * m + 1) * q2) + 2 * (2 * m + 1) := by rw [Nat.mul_assoc, Nat.mul_add]; omega
    omega
  have c1 := Nat.mul_le_mul_left (2 * m + 1) b1'
  have c2 := Nat.mul_le_mul_left (2 * m + 1) b2'
  constructor <;> grind
/-- What is nearest to so many times 10^-32 in parts of 2^32. -/
theorem near_parts (N K q F : Nat) (hK : K ≤ 32) (hF : F = N * 10 ^ (32 - K)) (h1 : 2 * F < 2 * q * 23283064365386962890625 + 23283064365386962890625) (h2 : 2 * q * 23283064365386962890625 < 2 * F + 23283064365386962890625) : q = (2 * N * 4294967296 + 10 ^ K) / (2 * 10 ^ K) := by
  have hP : 0 < 10 ^ K := Nat.pow_pos (by omega)
  have e0 : 10 ^ (32 - K) * 10 ^ K = 100000000000000000000000000000000 := by
    rw [← Nat.pow_add, show 32 - K + K = 32 by omega]
  have e : F * 10 ^ K = N * 4294967296 * 23283064365386962890625 := by rw [hF, Nat.mul_assoc, e0]; omega
  generalize 10 ^ K = P at *
  have c1 := Nat.mul_lt_mul_of_pos_right h1 hP
  have c2 := Nat.mul_lt_mul_of_pos_right h2 hP
  have d1 : 2 * (N * 4294967296) < 2 * q * P + P := by
    refine Nat.lt_of_mul_lt_mul_right (a := 23283064365386962890625) ?_
    grind
  have d2 : 2 * q * P < 2 * (N * 4294967296) + P := by
    refine Nat.lt_of_mul_lt_mul_right (a := 23283064365386962890625) ?_
    grind
  clear c1 c2 h1 h2 e e0 hF
  symm
  refine Nat.div_eq_of_lt_le ?_ ?_
  · have : q * (2 * P) = 2 * q * P := by grind
    omega
  · have : (q + 1) * (2 * P) = 2 * q * P + 2 * P := by grind
    omega

/-- Nothing but digits: nothing is left by a trim. -/
def digitsL : List UInt8 := [48, 49, 50, 51, 52, 53, 54, 55, 56, 57]
theorem digits_has (c : UInt8) : digitsL.contains c = isD c := by
  unfold digitsL isD
  have h : ∀ k : UInt8, (c == k) = decide (c.toNat = k.toNat) := fun k => by
    by_cases e : c = k
    · subst e; simp
    · have : c.toNat ≠ k.toNat := fun e2 => e (UInt8.toNat_inj.1 e2)
      simp [e, this]
  simp only [List.contains_cons, List.contains_nil, h, Bool.or_false]
  simp only [show (48 : UInt8).toNat = 48 from rfl, show (49 : UInt8).toNat = 49 from rfl, show (50 : UInt8).toNat = 50 from rfl, show (51 : UInt8).toNat = 51 from rfl, show (52 : UInt8).toNat = 52 from rfl, show (53 : UInt8).toNat = 53 from rfl, show (54 : UInt8).toNat = 54 from rfl, show (55 : UInt8).toNat = 55 from rfl, show (56 : UInt8).toNat = 56 from rfl, show (57 : UInt8).toNat = 57 from rfl]
  rw [Bool.eq_iff_iff]
  simp only [Bool.or_eq_true, decide_eq_true_eq]
  omega
theorem drop_nil (p : UInt8 → Bool) (l : List UInt8) : l.dropWhile p = [] ↔ l.all p = true := by
  induction l with
  | nil => simp
  | cons c l ih => rw [List.dropWhile_cons, List.all_cons]; by_cases h : p c = true <;> simp [h, ih]
theorem drop_all (p : UInt8 → Bool) (l : List UInt8) : (l.dropWhile p).all p = true → l.all p = true := by
  induction l with
  | nil => simp
  | cons c l ih =>
    rw [List.dropWhile_cons]
    by_cases h : p c = true
    · rw [if_pos h]; intro k; rw [List.all_cons, h, ih k]; rfl
    · rw [if_neg h]; exact fun k => k
theorem trim_all (l : List UInt8) : Lib.trimS l digitsL = [] ↔ l.all isD = true := by
  have e : (digitsL.contains ·) = isD := funext digits_has
  unfold Lib.trimS Lib.trimLeftS Lib.trimRightS
  rw [e, drop_nil, List.all_reverse]
  constructor
  · intro h
    have := drop_all isD l.reverse h
    rwa [List.all_reverse] at this
  · intro h
    have : l.reverse.dropWhile isD = [] := (drop_nil isD l.reverse).2 (by rw [List.all_reverse]; exact h)
    rw [this]; rfl

end Go.Proofs.Wd
