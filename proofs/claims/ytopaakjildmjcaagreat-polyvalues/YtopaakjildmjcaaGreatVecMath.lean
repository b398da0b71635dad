/- Lists of fixed numbers, in whole numbers: Add and Mul of two, what two lists come to by an operation, the farthest from 0; what is added is taken away again; the Dot of a sum. -/
import Derived.Test.YtopaakjildmjcaaGreatUnitMath
import Derived.Test.YtopaakjildmjcaaGreatFixNear
namespace Go.Proofs.Wd
set_option linter.unusedVariables false

/-- A list of two. -/
def pairZ (a b : Int) : Nat → Int
  | 0 => a
  | _ => b
def s2N (a b : Int) : Int := addN (addN 0 a) b
def s2C (a b : Int) : Bool := addC 0 a || addC (addN 0 a) b
def m2N (a b : Int) : Int := mulN (mulN 4294967296 a) b
def m2C (a b : Int) : Bool := mulC 4294967296 a || mulC (mulN 4294967296 a) b
theorem s2N_th (a b : Int) : thN addN 0 (pairZ a b) 2 = s2N a b := rfl
theorem s2C_th (a b : Int) : thC addN addC 0 (pairZ a b) 2 = s2C a b := rfl
theorem m2N_th (a b : Int) : thN mulN 4294967296 (pairZ a b) 2 = m2N a b := by simp only [thN, m2N, pairZ]
theorem m2C_th (a b : Int) : thC mulN mulC 4294967296 (pairZ a b) 2 = m2C a b := by simp only [thN, thC, m2C, pairZ, Bool.false_or]
theorem s2N_I64 (a b : Int) : I64 (s2N a b) := addN_I64 _ _
theorem m2N_I64 (a b : Int) : I64 (m2N a b) := mulN_I64 _ _
theorem subN_I64 (a b : Int) : I64 (subN a b) := fitI_I64 _
theorem pairZ_I64 {a b : Int} (ha : I64 a) (hb : I64 b) : ∀ i, i < 2 → I64 (pairZ a b i)
  | 0, _ => ha
  | 1, _ => hb

/-- Was one of the first k cut? -/
def zC (g : Int → Int → Bool) (X Y : Nat → Int) : Nat → Bool
  | 0 => false
  | k + 1 => zC g X Y k || g (X k) (Y k)
theorem zC_false (g : Int → Int → Bool) (X Y : Nat → Int) : ∀ k, zC g X Y k = false → ∀ i, i < k → g (X i) (Y i) = false
  | 0, _, i, hi => absurd hi (Nat.not_lt_zero _)
  | k + 1, h, i, hi => by
    have h' : (zC g X Y k || g (X k) (Y k)) = false := h
    rw [Bool.or_eq_false_iff] at h'
    by_cases e : i = k
    · subst e; exact h'.2
    · exact zC_false g X Y k h'.1 i (by omega)
theorem zC_of (g : Int → Int → Bool) (X Y : Nat → Int) : ∀ k, (∀ i, i < k → g (X i) (Y i) = false) → zC g X Y k = false
  | 0, _ => rfl
  | k + 1, h => by
    show (zC g X Y k || g (X k) (Y k)) = false
    rw [zC_of g X Y k (fun i hi => h i (by omega)), h k (by omega)]
    rfl

/-- The farthest from 0 of the first k, and whether one was cut, and by how many operations. -/
def farN (x : Int) : Int := if x < 0 then subN 0 x else x
def farC (x : Int) : Bool := if x < 0 then subC 0 x else false
def farK (x : Int) : Int := if x < 0 then 1 else 0
def mxI (a b : Int) : Int := if b < a then a else b
def mostN (X : Nat → Int) : Nat → Int
  | 0 => 0
  | k + 1 => mxI (mostN X k) (farN (X k))
def mostC (X : Nat → Int) : Nat → Bool
  | 0 => false
  | k + 1 => mostC X k || farC (X k)
def mostK (X : Nat → Int) : Nat → Int
  | 0 => 0
  | k + 1 => mostK X k + farK (X k)
theorem mostK_le (X : Nat → Int) : ∀ k : Nat, 0 ≤ mostK X k ∧ mostK X k ≤ k
  | 0 => by unfold mostK; omega
  | k + 1 => by
    have := mostK_le X k
    show 0 ≤ mostK X k + farK (X k) ∧ mostK X k + farK (X k) ≤ ((k + 1 : Nat) : Int)
    unfold farK
    split <;> omega
theorem mostN_ge0 (X : Nat → Int) : ∀ k, 0 ≤ mostN X k
  | 0 => Int.le_refl _
  | k + 1 => by
    have := mostN_ge0 X k
    show 0 ≤ mxI _ _
    unfold mxI
    split <;> omega
theorem farN_eq (x : Int) (h : I64 x) : farN x = if x = -9223372036854775808 then 9223372036854775807 else if x < 0 then -x else x := by
  unfold I64 at h
  unfold farN subN tk fitI
  split <;> (repeat' split) <;> omega
theorem mostN_I64 (X : Nat → Int) (hX : ∀ i, I64 (X i)) : ∀ k, I64 (mostN X k)
  | 0 => by unfold mostN I64; omega
  | k + 1 => by
    have h1 := mostN_I64 X hX k
    have h2 : I64 (farN (X k)) := by
      have := hX k
      rw [farN_eq _ this]
      unfold I64 at *
      split; omega
      split <;> omega
    show I64 (mxI _ _)
    unfold mxI
    split
    · exact h1
    · exact h2
theorem most_ge (X : Nat → Int) : ∀ k i, i < k → farN (X i) ≤ mostN X k
  | 0, i, hi => absurd hi (Nat.not_lt_zero _)
  | k + 1, i, hi => by
    show _ ≤ mxI (mostN X k) (farN (X k))
    by_cases e : i = k
    · subst e
      unfold mxI
      split <;> omega
    · have := most_ge X k i (by omega)
      unfold mxI
      split <;> omega
theorem most_is (X : Nat → Int) : ∀ k, mostN X k = 0 ∨ ∃ i, i < k ∧ mostN X k = farN (X i)
  | 0 => Or.inl rfl
  | k + 1 => by
    have := most_is X k
    have e : mostN X (k + 1) = mxI (mostN X k) (farN (X k)) := rfl
    unfold mxI at e
    split at e
    · rw [e]
      rcases this with h | ⟨i, hi, h⟩
      · exact Or.inl h
      · exact Or.inr ⟨i, by omega, h⟩
    · exact Or.inr ⟨k, by omega, e⟩
theorem mostC_false (X : Nat → Int) : ∀ k, (∀ i, i < k → I64 (X i) ∧ X i ≠ -9223372036854775808) → mostC X k = false
  | 0, _ => rfl
  | k + 1, h => by
    show (mostC X k || farC (X k)) = false
    rw [mostC_false X k (fun i hi => h i (by omega))]
    have := h k (by omega)
    unfold I64 at this
    unfold farC subC cutB tk nb fitB
    simp
    omega

theorem tk_tk (a : Int) (h : I64 a) : I64 (tk a) ∧ tk (tk a) = tk a ∧ nb (tk a) = false ∧ fitI (tk a) = tk a ∧ fitB (tk a) = false := by
  unfold I64 at *
  unfold tk nb fitI fitB
  refine ⟨?_, ?_, ?_, ?_, ?_⟩ <;> (repeat' split) <;> first | omega | (simp; done) | (simp; omega)
theorem s2N_eq (a b : Int) (ha : I64 a) (hb : I64 b) : s2N a b = fitI (tk a + tk b) := by
  have := tk_tk a ha
  unfold s2N addN
  rw [show tk 0 = 0 from rfl, Int.zero_add, this.2.2.2.1, this.2.1]
theorem s2C_eq (a b : Int) (ha : I64 a) (hb : I64 b) : s2C a b = (nb a || nb b || fitB (tk a + tk b)) := by
  have := tk_tk a ha
  unfold s2C addC addN cutB
  rw [show tk 0 = 0 from rfl, Int.zero_add, this.2.2.2.1, this.2.1, this.2.2.1, this.2.2.2.2, show nb 0 = false from rfl]
  cases nb a <;> cases nb b <;> cases fitB (tk a + tk b) <;> rfl
theorem s2N_comm (a b : Int) (ha : I64 a) (hb : I64 b) : s2N a b = s2N b a := by
  rw [s2N_eq a b ha hb, s2N_eq b a hb ha, Int.add_comm]
theorem nb_tk (a : Int) (h : nb a = false) : tk a = a := by
  unfold nb at h
  unfold tk
  rw [if_neg (by simpa using h)]
theorem fit_of (a : Int) (h : fitB a = false) : fitI a = a := by
  unfold fitB at h
  unfold fitI
  simp at h
  rw [if_neg (by omega), if_neg (by omega)]
theorem fix_nb (a : Int) (h : fitB a = false) : nb a = false := by
  unfold fitB at h
  unfold nb
  simp at *
  omega
/-- Where nothing is cut, a sum of two is their sum. -/
theorem s2_plain (a b : Int) (ha : I64 a) (hb : I64 b) (h : s2C a b = false) : s2N a b = a + b ∧ tk a = a ∧ tk b = b ∧ fitB (a + b) = false := by
  rw [s2C_eq a b ha hb, Bool.or_eq_false_iff, Bool.or_eq_false_iff] at h
  obtain ⟨⟨h1, h2⟩, h3⟩ := h
  rw [s2N_eq a b ha hb]
  rw [nb_tk a h1, nb_tk b h2] at *
  exact ⟨fit_of _ h3, rfl, rfl, h3⟩
/-- What was added is taken away again. -/
theorem s2_back (a b : Int) (ha : I64 a) (hb : I64 b) (h : s2C a b = false) : subN (s2N a b) b = a ∧ subC (s2N a b) b = false := by
  have h' := h
  rw [s2C_eq a b ha hb, Bool.or_eq_false_iff, Bool.or_eq_false_iff] at h'
  obtain ⟨e, e1, e2, e3⟩ := s2_plain a b ha hb h
  have f1 := fix_nb _ e3
  have fa : fitB a = false := by
    have := (tk_tk a ha).2.2.2.2
    rwa [e1] at this
  rw [e]
  unfold subN subC cutB
  rw [nb_tk _ f1, e2, show a + b - b = a by omega, fit_of a fa, fa, f1, h'.1.2]
  exact ⟨rfl, rfl⟩

theorem mulN_comm (a b : Int) : mulN a b = mulN b a := by unfold mulN; rw [Int.mul_comm]
theorem mulC_comm (a b : Int) : mulC a b = mulC b a := by
  unfold mulC cutB
  rw [Int.mul_comm]
  cases nb a <;> cases nb b <;> simp
theorem dotN_comm (X Y : Nat → Int) : ∀ k, dotN X Y k = dotN Y X k
  | 0 => rfl
  | k + 1 => by
    show addN _ (mulN _ _) = addN _ (mulN _ _)
    rw [dotN_comm X Y k, mulN_comm]
theorem mul_plain (a b : Int) (h : mulC a b = false) : mulN a b = rdiv (a * b) 4294967296 := by
  unfold mulC cutB at h
  rw [Bool.or_eq_false_iff, Bool.or_eq_false_iff] at h
  unfold mulN
  rw [nb_tk a h.1.2, nb_tk b h.2] at *
  exact fit_of _ h.1.1
theorem add_plain2 (a b : Int) (h : addC a b = false) : addN a b = a + b := by
  unfold addC cutB at h
  rw [Bool.or_eq_false_iff, Bool.or_eq_false_iff] at h
  unfold addN
  rw [nb_tk a h.1.2, nb_tk b h.2] at *
  exact fit_of _ h.1.1
theorem rdiv_sum (a b c : Int) : -1 ≤ rdiv ((a + b) * c) 4294967296 - rdiv (a * c) 4294967296 - rdiv (b * c) 4294967296 ∧ rdiv ((a + b) * c) 4294967296 - rdiv (a * c) 4294967296 - rdiv (b * c) 4294967296 ≤ 1 := by
  have h1 := rdiv_near ((a + b) * c) 4294967296 (by omega)
  have h2 := rdiv_near (a * c) 4294967296 (by omega)
  have h3 := rdiv_near (b * c) 4294967296 (by omega)
  rw [Int.add_mul] at *
  generalize rdiv (a * c + b * c) 4294967296 = p at *
  generalize rdiv (a * c) 4294967296 = q at *
  generalize rdiv (b * c) 4294967296 = r at *
  generalize a * c = x at *
  generalize b * c = y at *
  omega
/-- Where nothing is cut, the Dot of a sum is the sum of Dots, but for one part a number. -/
theorem dot_sum (A B C S : Nat → Int) : ∀ k : Nat, (∀ i, i < k → S i = A i + B i) → dotC S C k = false → dotC A C k = false → dotC B C k = false →
    -(k : Int) ≤ dotN S C k - dotN A C k - dotN B C k ∧ dotN S C k - dotN A C k - dotN B C k ≤ k
  | 0, _, _, _, _ => by unfold dotN; omega
  | k + 1, hs, h1, h2, h3 => by
    have h1' : (dotC S C k || mulC (S k) (C k) || addC (dotN S C k) (mulN (S k) (C k))) = false := h1
    have h2' : (dotC A C k || mulC (A k) (C k) || addC (dotN A C k) (mulN (A k) (C k))) = false := h2
    have h3' : (dotC B C k || mulC (B k) (C k) || addC (dotN B C k) (mulN (B k) (C k))) = false := h3
    rw [Bool.or_eq_false_iff, Bool.or_eq_false_iff] at h1' h2' h3'
    have ih := dot_sum A B C S k (fun i hi => hs i (by omega)) h1'.1.1 h2'.1.1 h3'.1.1
    have es : dotN S C (k + 1) = addN (dotN S C k) (mulN (S k) (C k)) := rfl
    have ea : dotN A C (k + 1) = addN (dotN A C k) (mulN (A k) (C k)) := rfl
    have eb : dotN B C (k + 1) = addN (dotN B C k) (mulN (B k) (C k)) := rfl
    rw [add_plain2 _ _ h1'.2, mul_plain _ _ h1'.1.2] at es
    rw [add_plain2 _ _ h2'.2, mul_plain _ _ h2'.1.2] at ea
    rw [add_plain2 _ _ h3'.2, mul_plain _ _ h3'.1.2] at eb
    rw [hs k (by omega)] at es
    have := rdiv_sum (A k) (B k) (C k)
    rw [es, ea, eb]
    omega

end Go.Proofs.Wd
