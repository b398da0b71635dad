/- Decimals as lists of bytes: a number's digits, and what a text's number is. -/
import Derived.Test.YtnelkhmahmoclaaGreatDoorWideMath
namespace Go.Proofs.Wd
set_option linter.unusedVariables false

/-- A digit's byte. -/
def chr (d : Nat) : UInt8 := UInt8.ofNat (48 + d % 10)
theorem chr_nat (d : Nat) (h : d < 10) : (chr d).toNat = 48 + d := by
  unfold chr
  rw [Nat.mod_eq_of_lt h, UInt8.toNat_ofNat']
  omega
/-- The digits of a number. -/
def wholeL (n : Nat) : List UInt8 := if n < 10 then [chr n] else wholeL (n / 10) ++ [chr (n % 10)]
theorem wholeL_lt (n : Nat) (h : n < 10) : wholeL n = [chr n] := by rw [wholeL, if_pos h]
theorem wholeL_ge (n : Nat) (h : ¬ n < 10) : wholeL n = wholeL (n / 10) ++ [chr (n % 10)] := by rw [wholeL, if_neg h]
theorem wholeL_len (n : Nat) : ∀ k, n < 10 ^ (k + 1) → (wholeL n).length ≤ k + 1 := by
  intro k
  induction k generalizing n with
  | zero => intro h; rw [wholeL_lt n (by simpa using h)]; simp
  | succ k ih =>
    intro h
    by_cases c : n < 10
    · rw [wholeL_lt n c]; simp
    · rw [wholeL_ge n c]
      have := ih (n / 10) (by rw [Nat.div_lt_iff_lt_mul (by omega)]; rw [Nat.pow_succ] at h; omega)
      simp
      omega
theorem wholeL_len20 (n : Nat) (h : n < 18446744073709551616) : (wholeL n).length ≤ 20 := wholeL_len n 19 (by omega)

/-- The digits of r parts of 2^32, at most so many. -/
def fracL : Nat → Nat → List UInt8
  | 0, _ => []
  | f + 1, r => if r = 0 then [] else chr (r * 10 / 4294967296) :: fracL f (r * 10 % 4294967296)
theorem fracL_zero (f : Nat) : fracL f 0 = [] := by cases f <;> simp [fracL]
theorem fracL_step (f r : Nat) (h : r ≠ 0) : fracL (f + 1) r = chr (r * 10 / 4294967296) :: fracL f (r * 10 % 4294967296) := by simp [fracL, h]
theorem fracL_len : ∀ f r, (fracL f r).length ≤ f
  | 0, _ => by simp [fracL]
  | f + 1, r => by
    unfold fracL
    split
    · simp
    · have := fracL_len f (r * 10 % 4294967296)
      simp
      omega
/-- With so many digits left at most, r is as even as that. -/
def Even2 (f r : Nat) : Prop := f ≤ 32 ∧ r < 4294967296 ∧ 2 ^ (32 - f) ∣ r
theorem Even2.start (r : Nat) (h : r < 4294967296) : Even2 32 r := ⟨Nat.le_refl _, h, by simp⟩
theorem Even2.zero {r : Nat} (h : Even2 0 r) : r = 0 := by
  obtain ⟨_, h1, h2⟩ := h
  exact Nat.eq_zero_of_dvd_of_lt h2 (by simpa using h1)
theorem Even2.step {f r : Nat} (h : Even2 (f + 1) r) : Even2 f (r * 10 % 4294967296) := by
  obtain ⟨h0, h1, h2⟩ := h
  refine ⟨by omega, Nat.mod_lt _ (by omega), ?_⟩
  have e : 32 - f = (32 - (f + 1)) + 1 := by omega
  rw [e, Nat.pow_succ]
  obtain ⟨q, rfl⟩ := h2
  have a : 2 ^ (32 - (f + 1)) * 2 ∣ 2 ^ (32 - (f + 1)) * q * 10 := ⟨q * 5, by grind⟩
  have b : 2 ^ (32 - (f + 1)) * 2 ∣ 4294967296 := by
    rw [← Nat.pow_succ]
    exact Nat.pow_dvd_pow 2 (show 32 - (f + 1) + 1 ≤ 32 by omega)
  exact (Nat.dvd_mod_iff b).2 a
/-- A decimal: the sign, the whole part, and what is behind the point. -/
def absF (a : Int) : Nat := if a < 0 then (if a < -9223372036854775807 then 9223372036854775807 else (-a).toNat) else a.toNat
def putL (a : Int) : List UInt8 :=
  (if a < 0 then [45] else []) ++ wholeL (absF a / 4294967296) ++ (if absF a % 4294967296 = 0 then [] else 46 :: fracL 32 (absF a % 4294967296))
theorem putL_len (a : Int) (h : I64 a) : (putL a).length ≤ 60 := by
  unfold I64 at h
  have h1 : absF a < 18446744073709551616 := by unfold absF; split; split <;> omega; omega
  have h2 := wholeL_len20 (absF a / 4294967296) (by omega)
  have h3 := fracL_len 32 (absF a % 4294967296)
  unfold putL
  simp only [List.length_append]
  split <;> split <;> simp <;> omega

/-- A line: the decimals of Z's first k, a blank between. -/
def lineL (Z : Nat → Int) : Nat → List UInt8
  | 0 => []
  | k + 1 => lineL Z k ++ (if k = 0 then [] else [32]) ++ putL (Z k)
theorem lineL_len (Z : Nat → Int) : ∀ k, (∀ i, i < k → I64 (Z i)) → (lineL Z k).length ≤ 61 * k
  | 0, _ => by simp [lineL]
  | k + 1, h => by
    have h1 := lineL_len Z k (fun i hi => h i (by omega))
    have h2 := putL_len (Z k) (h k (by omega))
    unfold lineL
    simp only [List.length_append]
    split <;> simp <;> omega

end Go.Proofs.Wd
