/- Digits as numbers: from the left, from the right, doubled. -/
import Derived.Test.YtnelkhmahmoclaaGreatDoorTextMath
namespace Go.Proofs.Wd
set_option linter.unusedVariables false

def isD (c : UInt8) : Bool := decide (48 ≤ c.toNat ∧ c.toNat ≤ 57)
/-- How many digits a text begins with. -/
def nd (l : List UInt8) : Nat := (l.takeWhile isD).length
theorem nd_nil : nd [] = 0 := rfl
theorem nd_cons (c : UInt8) (l : List UInt8) : nd (c :: l) = if isD c then nd l + 1 else 0 := by
  unfold nd
  rw [List.takeWhile_cons]
  split <;> simp
theorem nd_le (l : List UInt8) : nd l ≤ l.length := by
  induction l with
  | nil => simp [nd_nil]
  | cons c l ih => rw [nd_cons]; split <;> simp <;> omega
theorem nd_eq (l : List UInt8) (k : Nat) (hk : k ≤ l.length) (h1 : ∀ i, i < k → isD (l.getD i 0) = true) (h2 : k = l.length ∨ isD (l.getD k 0) = false) : nd l = k := by
  induction l generalizing k with
  | nil => simp at hk; subst hk; rfl
  | cons c l ih =>
    rw [nd_cons]
    cases k with
    | zero =>
      rcases h2 with h2 | h2
      · simp at h2
      · have : isD c = false := by simpa using h2
        rw [this]; rfl
    | succ k =>
      have hc : isD c = true := by simpa using h1 0 (by omega)
      rw [if_pos hc, ih k (by simpa using hk) (fun i hi => by simpa using h1 (i + 1) (by omega)) (by rcases h2 with h2 | h2; left; simpa using h2; right; simpa using h2)]
theorem nd_at (l : List UInt8) (i : Nat) (h : i < nd l) : isD (l.getD i 0) = true := by
  induction l generalizing i with
  | nil => simp [nd_nil] at h
  | cons c l ih =>
    rw [nd_cons] at h
    by_cases hc : isD c = true
    · rw [if_pos hc] at h
      cases i with
      | zero => simpa using hc
      | succ i => simpa using ih i (by omega)
    · rw [if_neg hc] at h; omega

/-- The number of k digits, from the left; and of the last j of k. -/
def preV (D : Nat → Nat) : Nat → Nat
  | 0 => 0
  | i + 1 => 10 * preV D i + D i
def sufV (D : Nat → Nat) (k : Nat) : Nat → Nat
  | 0 => 0
  | j + 1 => D (k - 1 - j) * 10 ^ j + sufV D k j
theorem pre_suf (D : Nat → Nat) (k : Nat) : ∀ j, j ≤ k → preV D k = preV D (k - j) * 10 ^ j + sufV D k j
  | 0, _ => by simp [sufV]
  | j + 1, h => by
    have e : k - j = (k - (j + 1)) + 1 := by omega
    rw [pre_suf D k j (by omega), e]
    show (10 * preV D (k - (j + 1)) + D (k - (j + 1))) * 10 ^ j + sufV D k j = preV D (k - (j + 1)) * 10 ^ (j + 1) + (D (k - 1 - j) * 10 ^ j + sufV D k j)
    rw [show k - 1 - j = k - (j + 1) by omega, Nat.pow_succ]
    grind
theorem pre_eq_suf (D : Nat → Nat) (k : Nat) : preV D k = sufV D k k := by
  have := pre_suf D k k (Nat.le_refl _)
  rw [Nat.sub_self] at this
  simpa [preV] using this
theorem preV_lt (D : Nat → Nat) : ∀ k, (∀ i, i < k → D i ≤ 9) → preV D k < 10 ^ k
  | 0, _ => by simp [preV]
  | k + 1, h => by
    have h1 := preV_lt D k (fun i hi => h i (by omega))
    have h2 := h k (by omega)
    show 10 * preV D k + D k < 10 ^ (k + 1)
    rw [Nat.pow_succ]
    omega
theorem sufV_lt (D : Nat → Nat) (k : Nat) : ∀ j, j ≤ k → (∀ i, i < k → D i ≤ 9) → sufV D k j < 10 ^ j
  | 0, _, _ => by simp [sufV]
  | j + 1, h, hd => by
    have h1 := sufV_lt D k j (by omega) hd
    have h2 := hd (k - 1 - j) (by omega)
    show D (k - 1 - j) * 10 ^ j + sufV D k j < 10 ^ (j + 1)
    rw [Nat.pow_succ]
    have : D (k - 1 - j) * 10 ^ j ≤ 9 * 10 ^ j := Nat.mul_le_mul_right _ h2
    omega
theorem sufV_congr (D E : Nat → Nat) (k : Nat) : ∀ j, j ≤ k → (∀ i, k - j ≤ i → i < k → D i = E i) → sufV D k j = sufV E k j
  | 0, _, _ => rfl
  | j + 1, h, he => by
    show D (k - 1 - j) * 10 ^ j + sufV D k j = E (k - 1 - j) * 10 ^ j + sufV E k j
    rw [sufV_congr D E k j (by omega) (fun i h1 h2 => he i (by omega) h2), he (k - 1 - j) (by omega) (by omega)]
theorem preV_zero (D : Nat → Nat) : ∀ k, preV D k = 0 → ∀ i, i < k → D i = 0
  | 0, _, i, hi => by omega
  | k + 1, h, i, hi => by
    have h' : 10 * preV D k + D k = 0 := h
    by_cases e : i = k
    · rw [e]; omega
    · exact preV_zero D k (by omega) i (by omega)
theorem zero_preV (D : Nat → Nat) : ∀ k, (∀ i, i < k → D i = 0) → preV D k = 0
  | 0, _ => rfl
  | k + 1, h => by
    show 10 * preV D k + D k = 0
    rw [zero_preV D k (fun i hi => h i (by omega)), h k (by omega)]
/-- One digit more, doubled. -/
theorem dbl_step (D O : Nat → Nat) (k j m n : Nat) (hj : j < k) (h : 2 * sufV D k j = m * 10 ^ j + sufV O k j) (hn : n = 2 * D (k - 1 - j) + m) (ho : O (k - 1 - j) = n % 10) : 2 * sufV D k (j + 1) = n / 10 * 10 ^ (j + 1) + sufV O k (j + 1) := by
  show 2 * (D (k - 1 - j) * 10 ^ j + sufV D k j) = n / 10 * 10 ^ (j + 1) + (O (k - 1 - j) * 10 ^ j + sufV O k j)
  rw [ho, Nat.pow_succ]
  have e : n = 10 * (n / 10) + n % 10 := by omega
  have e2 : n * 10 ^ j = (10 * (n / 10) + n % 10) * 10 ^ j := by rw [← e]
  have e3 : n * 10 ^ j = 2 * D (k - 1 - j) * 10 ^ j + m * 10 ^ j := by rw [hn, Nat.add_mul]
  grind
/-- Thirty-two times doubled, and rounded. -/
theorem round_eq (N K l V : Nat) (hK : 0 < K) (h : N * 4294967296 = l * K + V) (hV : V < K) : l + (if K ≤ 2 * V then 1 else 0) = (2 * N * 4294967296 + K) / (2 * K) := by
  have e : 2 * N * 4294967296 + K = l * (2 * K) + (2 * V + K) := by grind
  rw [e, Nat.add_comm (l * (2 * K)), Nat.add_mul_div_right _ _ (by omega)]
  by_cases c : K ≤ 2 * V
  · rw [if_pos c, Nat.div_eq_of_lt_le (k := 1) (by omega) (by omega)]; omega
  · rw [if_neg c, Nat.div_eq_of_lt (by omega)]; omega

theorem dbl_inv (N K j l V O : Nat) (q : Bool) (h : N * 2 ^ j = l * 10 ^ K + V) (hV : V < 10 ^ K) (hq : decide (10 ^ K ≤ 2 * V) = q) (hO : O = 2 * V % 10 ^ K) : N * 2 ^ (j + 1) = (2 * l + (if q then 1 else 0)) * 10 ^ K + O := by
  have e0 : N * 2 ^ (j + 1) = 2 * (N * 2 ^ j) := by grind
  rw [e0, h]
  generalize 10 ^ K = P at *
  cases q with
  | true =>
    have hq' : P ≤ 2 * V := by simpa using hq
    have e : 2 * V % P = 2 * V - P := by rw [Nat.mod_eq_sub_mod hq', Nat.mod_eq_of_lt (by omega)]
    rw [hO, e]
    simp only [if_true]
    rw [Nat.add_mul, Nat.one_mul, Nat.mul_assoc 2]
    omega
  | false =>
    have hq' : ¬ P ≤ 2 * V := by simpa using hq
    rw [hO, Nat.mod_eq_of_lt (by omega)]
    simp only [Bool.false_eq_true, if_false, Nat.add_zero]
    rw [Nat.mul_assoc 2]
    omega
/-- A text's digits as numbers. -/
def dig (l : List UInt8) (i : Nat) : Nat := (l.getD i 0).toNat - 48
theorem dig_le (l : List UInt8) (i : Nat) (h : i < nd l) : dig l i ≤ 9 ∧ 48 ≤ (l.getD i 0).toNat ∧ (l.getD i 0).toNat ≤ 57 := by
  have := nd_at l i h
  unfold isD at this
  simp only [decide_eq_true_eq] at this
  unfold dig
  omega
/-- A decimal without its sign: its whole part; the number and how many of the digits behind the point. -/
def formL (t : List UInt8) : Option (Nat × Nat × Nat) :=
  if nd t < 1 ∨ 10 < nd t ∨ (1 < nd t ∧ t.getD 0 0 = 48) then none
  else if nd t < t.length then
    (if t.getD (nd t) 0 ≠ 46 ∨ nd (t.drop (nd t + 1)) < 1 ∨ 32 < nd (t.drop (nd t + 1)) ∨ nd t + 1 + nd (t.drop (nd t + 1)) < t.length then none
     else some (preV (dig t) (nd t), preV (dig (t.drop (nd t + 1))) (nd (t.drop (nd t + 1))), nd (t.drop (nd t + 1))))
  else some (preV (dig t) (nd t), 0, 0)
def numR (bl : Bool) (h N K : Nat) : Int × Int :=
  if 2147483648 < h ∨ (h = 2147483648 ∧ N ≠ 0) then (0, 4)
  else (if bl then -((min (h * 4294967296 + (2 * N * 4294967296 + 10 ^ K) / (2 * 10 ^ K)) 9223372036854775807 : Nat) : Int) else ((min (h * 4294967296 + (2 * N * 4294967296 + 10 ^ K) / (2 * 10 ^ K)) 9223372036854775807 : Nat) : Int), 0)
def negL (l : List UInt8) : Bool := decide (0 < l.length ∧ l.getD 0 0 = 45)
def restL (l : List UInt8) : List UInt8 := if negL l then l.drop 1 else l
/-- What a text is read as: the number, the error. -/
def getR (l : List UInt8) : Int × Int :=
  match formL (restL l) with
  | none => (0, 5)
  | some (h, N, K) => numR (negL l) h N K

end Go.Proofs.Wd
