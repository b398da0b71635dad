/- Matrices of fixed numbers, in whole numbers, row by row: rows, columns, what is turned, products; a product turned; Eye; products of whole numbers. -/
import Derived.Test.YtopaakjildmjcaaGreatVecMath
namespace Go.Proofs.Wd
set_option linter.unusedVariables false

/-- Was one of the first k cut? -/
def orC (G : Nat → Bool) : Nat → Bool
  | 0 => false
  | k + 1 => orC G k || G k
theorem orC_congr (G H : Nat → Bool) : ∀ k, (∀ i, i < k → G i = H i) → orC G k = orC H k
  | 0, _ => rfl
  | k + 1, h => by
    show (orC G k || G k) = (orC H k || H k)
    rw [orC_congr G H k (fun i hi => h i (by omega)), h k (by omega)]
theorem orC_of (G : Nat → Bool) : ∀ k, (∀ i, i < k → G i = false) → orC G k = false
  | 0, _ => rfl
  | k + 1, h => by
    show (orC G k || G k) = false
    rw [orC_of G k (fun i hi => h i (by omega)), h k (by omega)]
    rfl

theorem place_div (i k c : Nat) (h : k < c) : (i * c + k) / c = i := by
  rw [Nat.add_comm, Nat.add_mul_div_right _ _ (by omega), Nat.div_eq_of_lt h, Nat.zero_add]
theorem place_mod (i k c : Nat) (h : k < c) : (i * c + k) % c = k := by
  rw [Nat.add_comm, Nat.add_mul_mod_self_right, Nat.mod_eq_of_lt h]
theorem place_eq (p c : Nat) : p / c * c + p % c = p := Nat.div_add_mod' p c
theorem place_lt (p r c : Nat) (h : p < r * c) : p / c < r ∧ p % c < c := by
  have hc : 0 < c := by
    rcases Nat.eq_zero_or_pos c with e | e
    · subst e; simp at h
    · exact e
  exact ⟨by rw [Nat.div_lt_iff_lt_mul hc]; exact h, Nat.mod_lt _ hc⟩
theorem place_in (i k r c : Nat) (hi : i < r) (hk : k < c) : i * c + k < r * c := by
  have : (i + 1) * c ≤ r * c := Nat.mul_le_mul_right c hi
  rw [Nat.add_mul, Nat.one_mul] at this
  omega

def rowZ (M : Nat → Int) (c i : Nat) : Nat → Int := fun k => M (i * c + k)
def colZ (M : Nat → Int) (c k : Nat) : Nat → Int := fun i => M (i * c + k)
/-- Of r rows and c columns: turned. -/
def turnZ (M : Nat → Int) (r c : Nat) : Nat → Int := fun p => M (p % r * c + p / r)
def diagZ (L : Nat → Int) (n : Nat) : Nat → Int := fun p => if p / n = p % n then L (p / n) else 0
/-- a has m columns, b has m rows and c columns. -/
def mulZ (A B : Nat → Int) (m c : Nat) : Nat → Int := fun p => dotN (rowZ A m (p / c)) (colZ B c (p % c)) m
def mulG (A B : Nat → Int) (m c : Nat) : Nat → Bool := fun p => dotC (rowZ A m (p / c)) (colZ B c (p % c)) m
def appZ (A X : Nat → Int) (m : Nat) : Nat → Int := fun i => dotN (rowZ A m i) X m
def appG (A X : Nat → Int) (m : Nat) : Nat → Bool := fun i => dotC (rowZ A m i) X m

theorem dotN_congr (X Y X' Y' : Nat → Int) : ∀ k, (∀ i, i < k → X i = X' i) → (∀ i, i < k → Y i = Y' i) → dotN X Y k = dotN X' Y' k
  | 0, _, _ => rfl
  | k + 1, h, g => by
    show addN _ (mulN _ _) = addN _ (mulN _ _)
    rw [dotN_congr X Y X' Y' k (fun i hi => h i (by omega)) (fun i hi => g i (by omega)), h k (by omega), g k (by omega)]
theorem dotC_congr (X Y X' Y' : Nat → Int) : ∀ k, (∀ i, i < k → X i = X' i) → (∀ i, i < k → Y i = Y' i) → dotC X Y k = dotC X' Y' k
  | 0, _, _ => rfl
  | k + 1, h, g => by
    show (_ || _ || _) = (_ || _ || _)
    rw [dotC_congr X Y X' Y' k (fun i hi => h i (by omega)) (fun i hi => g i (by omega)), dotN_congr X Y X' Y' k (fun i hi => h i (by omega)) (fun i hi => g i (by omega)), h k (by omega), g k (by omega)]

theorem turn_row (M : Nat → Int) (r c i k : Nat) (hk : k < r) : rowZ (turnZ M r c) r i k = colZ M c i k := by
  show M ((i * r + k) % r * c + (i * r + k) / r) = M (k * c + i)
  rw [place_mod _ _ _ hk, place_div _ _ _ hk]
theorem turn_col (M : Nat → Int) (r c i k : Nat) (hi : i < r) : colZ (turnZ M r c) r i k = rowZ M c i k := by
  show M ((k * r + i) % r * c + (k * r + i) / r) = M (i * c + k)
  rw [place_mod _ _ _ hi, place_div _ _ _ hi]
/-- Turned twice. -/
theorem turn_turn (M : Nat → Int) (r c p : Nat) (h : p < r * c) : turnZ (turnZ M r c) c r p = M p := by
  have := place_lt p r c h
  show M ((p % c * r + p / c) % r * c + (p % c * r + p / c) / r) = M p
  rw [place_mod _ _ _ this.1, place_div _ _ _ this.1, place_eq]
theorem turn_I64 (M : Nat → Int) (r c : Nat) (h : ∀ i, i < r * c → I64 (M i)) : ∀ i, i < c * r → I64 (turnZ M r c i) := fun p hp =>
  have := place_lt p c r hp
  h _ (place_in _ _ _ _ this.2 this.1)
/-- A product turned is the product of both turned, exchanged. -/
theorem mul_turn (A B : Nat → Int) (r m c p : Nat) (h : p < c * r) : turnZ (mulZ A B m c) r c p = mulZ (turnZ B m c) (turnZ A r m) m r p := by
  have := place_lt p c r h
  show dotN (rowZ A m ((p % r * c + p / r) / c)) (colZ B c ((p % r * c + p / r) % c)) m = dotN (rowZ (turnZ B m c) m (p / r)) (colZ (turnZ A r m) r (p % r)) m
  rw [place_div _ _ _ this.1, place_mod _ _ _ this.1, dotN_comm]
  exact dotN_congr _ _ _ _ m (fun i hi => (turn_row B m c (p / r) i hi).symm) (fun i hi => (turn_col A r m (p % r) i this.2).symm)
/-- What the program reckons: rows of what is turned in columns' place. -/
theorem mul_rows (A B : Nat → Int) (m c i k : Nat) (hk : k < c) : dotN (rowZ A m i) (rowZ (turnZ B m c) m k) m = mulZ A B m c (i * c + k) ∧ dotC (rowZ A m i) (rowZ (turnZ B m c) m k) m = mulG A B m c (i * c + k) := by
  unfold mulZ mulG
  rw [place_div _ _ _ hk, place_mod _ _ _ hk]
  exact ⟨dotN_congr _ _ _ _ m (fun _ _ => rfl) (fun j hj => turn_row B m c k j hj), dotC_congr _ _ _ _ m (fun _ _ => rfl) (fun j hj => turn_row B m c k j hj)⟩
theorem mulZ_I64 (A B : Nat → Int) (m c p : Nat) : I64 (mulZ A B m c p) := dotN_I64 _ _ _
theorem appZ_I64 (A X : Nat → Int) (m i : Nat) : I64 (appZ A X m i) := dotN_I64 _ _ _
theorem diagZ_I64 (L : Nat → Int) (n : Nat) (h : ∀ i, i < n → I64 (L i)) : ∀ p, p < n * n → I64 (diagZ L n p) := fun p hp => by
  unfold diagZ
  split
  · exact h _ (place_lt p n n hp).1
  · unfold I64; omega

/-- One, and nothing. -/
theorem mul_one (y : Int) (h : Fx y) : mulN 4294967296 y = y ∧ mulC 4294967296 y = false ∧ mulN y 4294967296 = y ∧ mulC y 4294967296 = false := by
  have h1 : mulN 4294967296 y = y ∧ mulC 4294967296 y = false := by
    unfold Fx at h
    have e1 : tk y = y := by unfold tk; rw [if_neg (by omega)]
    have e2 : tk 4294967296 = 4294967296 := by decide
    have e3 : rdiv (4294967296 * y) 4294967296 = y := by rw [Int.mul_comm]; exact rdiv_mul y 4294967296 (by omega)
    unfold mulN mulC cutB
    rw [e1, e2, e3]
    refine ⟨?_, ?_⟩
    · unfold fitI; rw [if_neg (by omega), if_neg (by omega)]
    · unfold fitB nb; simp; omega
  exact ⟨h1.1, h1.2, by rw [mulN_comm]; exact h1.1, by rw [mulC_comm]; exact h1.2⟩
theorem mul_nought (y : Int) (h : Fx y) : mulN 0 y = 0 ∧ mulC 0 y = false ∧ mulN y 0 = 0 ∧ mulC y 0 = false := by
  have h1 : mulN 0 y = 0 ∧ mulC 0 y = false := by
    unfold Fx at h
    have e2 : tk 0 = 0 := by decide
    have e3 : rdiv 0 4294967296 = 0 := by decide
    unfold mulN mulC cutB
    rw [e2, Int.zero_mul, e3]
    refine ⟨by decide, ?_⟩
    unfold nb
    simp
    exact ⟨by decide, by omega⟩
  exact ⟨h1.1, h1.2, by rw [mulN_comm]; exact h1.1, by rw [mulC_comm]; exact h1.2⟩
theorem add_nought (y : Int) (h : Fx y) : addN 0 y = y ∧ addC 0 y = false ∧ addN y 0 = y ∧ addC y 0 = false := by
  unfold Fx at h
  have e1 : tk y = y := by unfold tk; rw [if_neg (by omega)]
  have e2 : tk 0 = 0 := by decide
  have e3 : fitI y = y := by unfold fitI; rw [if_neg (by omega), if_neg (by omega)]
  have e4 : fitB y = false := by unfold fitB; simp; omega
  have e5 : nb y = false := by unfold nb; simp; omega
  unfold addN addC cutB
  rw [e1, e2, Int.zero_add, Int.add_zero, e3, e4, e5]
  exact ⟨rfl, by decide, rfl, by decide⟩
/-- One at place i, and 0 beside. -/
def unitZ (i : Nat) : Nat → Int := fun k => if i = k then 4294967296 else 0
theorem dot_unit (Y : Nat → Int) (i : Nat) : ∀ t, (∀ k, k < t → Fx (Y k)) → dotN (unitZ i) Y t = (if i < t then Y i else 0) ∧ dotC (unitZ i) Y t = false ∧ dotN Y (unitZ i) t = (if i < t then Y i else 0) ∧ dotC Y (unitZ i) t = false
  | 0, _ => ⟨rfl, rfl, rfl, rfl⟩
  | t + 1, h => by
    obtain ⟨h1, h2, h3, h4⟩ := dot_unit Y i t (fun k hk => h k (by omega))
    have hy := h t (by omega)
    show addN _ (mulN _ _) = _ ∧ (_ || mulC _ _ || addC _ (mulN _ _)) = false ∧ addN _ (mulN _ _) = _ ∧ (_ || mulC _ _ || addC _ (mulN _ _)) = false
    rw [h1, h2, h3, h4]
    by_cases e : i = t
    · subst e
      have eu : unitZ i i = 4294967296 := by unfold unitZ; rw [if_pos rfl]
      rw [eu, if_neg (by omega), if_pos (by omega), (mul_one _ hy).1, (mul_one _ hy).2.1, (mul_one _ hy).2.2.1, (mul_one _ hy).2.2.2, (add_nought _ hy).1, (add_nought _ hy).2.1]
      exact ⟨rfl, rfl, rfl, rfl⟩
    · have eu : unitZ i t = 0 := by unfold unitZ; rw [if_neg e]
      rw [eu, (mul_nought _ hy).1, (mul_nought _ hy).2.1, (mul_nought _ hy).2.2.1, (mul_nought _ hy).2.2.2]
      by_cases g : i < t
      · rw [if_pos g, if_pos (by omega), (add_nought _ (h i (by omega))).2.2.1, (add_nought _ (h i (by omega))).2.2.2]
        exact ⟨rfl, rfl, rfl, rfl⟩
      · rw [if_neg g, if_neg (by omega)]
        exact ⟨by decide, by decide, by decide, by decide⟩
def oneZ : Nat → Int := fun _ => 4294967296
theorem eye_row (n i k : Nat) (h : k < n) : rowZ (diagZ oneZ n) n i k = unitZ i k := by
  show (if (i * n + k) / n = (i * n + k) % n then (4294967296 : Int) else 0) = if i = k then 4294967296 else 0
  rw [place_div _ _ _ h, place_mod _ _ _ h]
theorem eye_col (n i k : Nat) (h : i < n) : colZ (diagZ oneZ n) n i k = unitZ i k := by
  show (if (k * n + i) / n = (k * n + i) % n then (4294967296 : Int) else 0) = if i = k then 4294967296 else 0
  rw [place_div _ _ _ h, place_mod _ _ _ h]
  by_cases e : k = i
  · rw [if_pos e, if_pos e.symm]
  · rw [if_neg e, if_neg (fun x => e x.symm)]
/-- Eye is neutral. -/
theorem eye_left (A : Nat → Int) (r c p : Nat) (hA : ∀ i, i < r * c → Fx (A i)) (h : p < r * c) : mulZ (diagZ oneZ r) A r c p = A p ∧ mulG (diagZ oneZ r) A r c p = false := by
  have hp := place_lt p r c h
  have D := dot_unit (colZ A c (p % c)) (p / c) r (fun k hk => hA _ (place_in _ _ _ _ hk hp.2))
  unfold mulZ mulG
  rw [dotN_congr _ _ (unitZ (p / c)) _ r (fun k hk => eye_row r (p / c) k hk) (fun _ _ => rfl), dotC_congr _ _ (unitZ (p / c)) _ r (fun k hk => eye_row r (p / c) k hk) (fun _ _ => rfl), D.1, D.2.1, if_pos hp.1]
  refine ⟨?_, rfl⟩
  show A (p / c * c + p % c) = _
  rw [place_eq]
theorem eye_right (A : Nat → Int) (r c p : Nat) (hA : ∀ i, i < r * c → Fx (A i)) (h : p < r * c) : mulZ A (diagZ oneZ c) c c p = A p ∧ mulG A (diagZ oneZ c) c c p = false := by
  have hp := place_lt p r c h
  have D := dot_unit (rowZ A c (p / c)) (p % c) c (fun k hk => hA _ (place_in _ _ _ _ hp.1 hk))
  unfold mulZ mulG
  rw [dotN_congr _ _ _ (unitZ (p % c)) c (fun _ _ => rfl) (fun k hk => eye_col c (p % c) k hp.2), dotC_congr _ _ _ (unitZ (p % c)) c (fun _ _ => rfl) (fun k hk => eye_col c (p % c) k hp.2), D.2.2.1, D.2.2.2, if_pos hp.2]
  refine ⟨?_, rfl⟩
  show A (p / c * c + p % c) = _
  rw [place_eq]

/-- Sums. -/
def sI (f : Nat → Int) : Nat → Int
  | 0 => 0
  | k + 1 => sI f k + f k
theorem sI_congr (f g : Nat → Int) : ∀ k, (∀ i, i < k → f i = g i) → sI f k = sI g k
  | 0, _ => rfl
  | k + 1, h => by
    show sI f k + f k = sI g k + g k
    rw [sI_congr f g k (fun i hi => h i (by omega)), h k (by omega)]
theorem sI_add (f g : Nat → Int) : ∀ k, sI (fun i => f i + g i) k = sI f k + sI g k
  | 0 => rfl
  | k + 1 => by
    show sI (fun i => f i + g i) k + (f k + g k) = sI f k + f k + (sI g k + g k)
    rw [sI_add f g k]
    omega
theorem sI_mul (f : Nat → Int) (y : Int) : ∀ k, sI f k * y = sI (fun i => f i * y) k
  | 0 => by show 0 * y = 0; omega
  | k + 1 => by
    show (sI f k + f k) * y = sI (fun i => f i * y) k + f k * y
    rw [Int.add_mul, sI_mul f y k]
theorem sI_mulL (f : Nat → Int) (y : Int) (k : Nat) : y * sI f k = sI (fun i => y * f i) k := by
  rw [Int.mul_comm, sI_mul]
  exact sI_congr _ _ k (fun i _ => Int.mul_comm _ _)
theorem sI_zero : ∀ k, sI (fun _ => 0) k = 0
  | 0 => rfl
  | k + 1 => by show sI (fun _ => 0) k + 0 = 0; rw [sI_zero k]; rfl
theorem sI_swap (f : Nat → Nat → Int) (m : Nat) : ∀ k, sI (fun j => sI (fun i => f i j) m) k = sI (fun i => sI (fun j => f i j) k) m
  | 0 => (sI_zero m).symm
  | k + 1 => by
    show sI (fun j => sI (fun i => f i j) m) k + sI (fun i => f i k) m = _
    rw [sI_swap f m k, ← sI_add]
    rfl
theorem sI_bound (f : Nat → Int) (B : Int) : ∀ k : Nat, (∀ i, i < k → -B ≤ f i ∧ f i ≤ B) → -(B * k) ≤ sI f k ∧ sI f k ≤ B * k
  | 0, _ => by show -(B * 0) ≤ 0 ∧ 0 ≤ B * 0; omega
  | k + 1, h => by
    have h1 := sI_bound f B k (fun i hi => h i (by omega))
    have h2 := h k (by omega)
    show -(B * ((k + 1 : Nat) : Int)) ≤ sI f k + f k ∧ sI f k + f k ≤ B * ((k + 1 : Nat) : Int)
    rw [show B * ((k + 1 : Nat) : Int) = B * k + B by rw [Int.natCast_add, Int.mul_add]; omega]
    omega

/-- Whole numbers, from -B to B. -/
def Wh (B : Int) (n : Nat) (X : Nat → Int) (x : Nat → Int) : Prop := ∀ i, i < n → X i = x i * 4294967296 ∧ -B ≤ x i ∧ x i ≤ B
theorem whole_fx (x : Int) (h : -2147483647 ≤ x ∧ x ≤ 2147483647) : Fx (x * 4294967296) := by unfold Fx; omega
theorem fx_all (y : Int) (h : Fx y) : tk y = y ∧ fitI y = y ∧ fitB y = false ∧ nb y = false := by
  unfold Fx at h
  refine ⟨by unfold tk; rw [if_neg (by omega)], by unfold fitI; rw [if_neg (by omega), if_neg (by omega)], by unfold fitB; simp; omega, by unfold nb; simp; omega⟩
theorem whole_mul (x y : Int) (hx : -2147483647 ≤ x ∧ x ≤ 2147483647) (hy : -2147483647 ≤ y ∧ y ≤ 2147483647) (h : -2147483647 ≤ x * y ∧ x * y ≤ 2147483647) : mulN (x * 4294967296) (y * 4294967296) = x * y * 4294967296 ∧ mulC (x * 4294967296) (y * 4294967296) = false := by
  have e1 := fx_all _ (whole_fx x hx)
  have e2 := fx_all _ (whole_fx y hy)
  have e3 := fx_all _ (whole_fx (x * y) h)
  have e4 : rdiv (x * 4294967296 * (y * 4294967296)) 4294967296 = x * y * 4294967296 := by
    have := rdiv_mul (x * y * 4294967296) 4294967296 (by omega)
    rwa [show x * y * 4294967296 * 4294967296 = x * 4294967296 * (y * 4294967296) by grind] at this
  unfold mulN mulC cutB
  rw [e1.1, e2.1, e4, e3.2.1, e3.2.2.1, e1.2.2.2, e2.2.2.2]
  exact ⟨rfl, rfl⟩
theorem whole_add (x y : Int) (hx : -2147483647 ≤ x ∧ x ≤ 2147483647) (hy : -2147483647 ≤ y ∧ y ≤ 2147483647) (h : -2147483647 ≤ x + y ∧ x + y ≤ 2147483647) : addN (x * 4294967296) (y * 4294967296) = (x + y) * 4294967296 ∧ addC (x * 4294967296) (y * 4294967296) = false := by
  have e1 := fx_all _ (whole_fx x hx)
  have e2 := fx_all _ (whole_fx y hy)
  have e3 := fx_all _ (whole_fx (x + y) h)
  unfold addN addC cutB
  rw [e1.1, e2.1, ← Int.add_mul, e3.2.1, e3.2.2.1, e1.2.2.2, e2.2.2.2]
  exact ⟨rfl, rfl⟩
theorem whole_s2 (x y : Int) (hx : -2147483647 ≤ x ∧ x ≤ 2147483647) (hy : -2147483647 ≤ y ∧ y ≤ 2147483647) (h : -2147483647 ≤ x + y ∧ x + y ≤ 2147483647) : s2N (x * 4294967296) (y * 4294967296) = (x + y) * 4294967296 ∧ s2C (x * 4294967296) (y * 4294967296) = false := by
  have h0 := add_nought _ (whole_fx x hx)
  unfold s2N s2C
  rw [h0.1, h0.2.1, (whole_add x y hx hy h).1, (whole_add x y hx hy h).2]
  exact ⟨rfl, rfl⟩
theorem mul_bound (x y a b : Int) (hx : -a ≤ x ∧ x ≤ a) (hy : -b ≤ y ∧ y ≤ b) : -(a * b) ≤ x * y ∧ x * y ≤ a * b := by
  have ha : 0 ≤ a := by omega
  have h1 : (a - x) * (b - y) ≥ 0 := Int.mul_nonneg (by omega) (by omega)
  have h2 : (a + x) * (b + y) ≥ 0 := Int.mul_nonneg (by omega) (by omega)
  have h3 : (a - x) * (b + y) ≥ 0 := Int.mul_nonneg (by omega) (by omega)
  have h4 : (a + x) * (b - y) ≥ 0 := Int.mul_nonneg (by omega) (by omega)
  rw [Int.sub_mul, Int.mul_sub, Int.mul_sub] at h1
  rw [Int.add_mul, Int.mul_add, Int.mul_add] at h2
  rw [Int.sub_mul, Int.mul_add, Int.mul_add] at h3
  rw [Int.add_mul, Int.mul_sub, Int.mul_sub] at h4
  omega
theorem whole_dot (X Y x y : Nat → Int) (a b : Int) (ha : 0 ≤ a ∧ a ≤ 2147483647) (hb : 0 ≤ b ∧ b ≤ 2147483647) : ∀ k : Nat, Wh a k X x → Wh b k Y y → a * b * k ≤ 2147483647 → dotN X Y k = sI (fun i => x i * y i) k * 4294967296 ∧ dotC X Y k = false
  | 0, _, _, _ => ⟨rfl, rfl⟩
  | k + 1, hX, hY, hk => by
    have hab : 0 ≤ a * b := Int.mul_nonneg ha.1 hb.1
    have hk2 : a * b * ((k + 1 : Nat) : Int) = a * b * k + a * b := by rw [Int.natCast_add, Int.mul_add]; omega
    have hk3 : 0 ≤ a * b * k := Int.mul_nonneg hab (by omega)
    obtain ⟨h1, h2⟩ := whole_dot X Y x y a b ha hb k (fun i hi => hX i (by omega)) (fun i hi => hY i (by omega)) (by omega)
    have hs := sI_bound (fun i => x i * y i) (a * b) k (fun i hi => mul_bound _ _ a b (hX i (by omega)).2 (hY i (by omega)).2)
    have hx := hX k (by omega)
    have hy := hY k (by omega)
    have hm := mul_bound _ _ a b hx.2 hy.2
    have m := whole_mul (x k) (y k) (by omega) (by omega) (by omega)
    have d := whole_add (sI (fun i => x i * y i) k) (x k * y k) (by omega) (by omega) (by omega)
    show addN _ (mulN _ _) = (sI (fun i => x i * y i) k + x k * y k) * 4294967296 ∧ (_ || mulC _ _ || addC _ (mulN _ _)) = false
    rw [h1, h2, hx.1, hy.1, m.1, m.2, d.1, d.2]
    exact ⟨rfl, rfl⟩
/-- The product of whole numbers. -/
def mulW (x y : Nat → Int) (m c : Nat) : Nat → Int := fun p => sI (fun j => x (p / c * m + j) * y (j * c + p % c)) m
theorem whole_mat (A B a b : Nat → Int) (r m c : Nat) (p q : Int) (hp : 0 ≤ p ∧ p ≤ 2147483647) (hq : 0 ≤ q ∧ q ≤ 2147483647) (hA : Wh p (r * m) A a) (hB : Wh q (m * c) B b) (hm : p * q * m ≤ 2147483647) :
    Wh (p * q * m) (r * c) (mulZ A B m c) (mulW a b m c) ∧ ∀ i, i < r * c → mulG A B m c i = false := by
  have D : ∀ i, i < r * c → dotN (rowZ A m (i / c)) (colZ B c (i % c)) m = mulW a b m c i * 4294967296 ∧ dotC (rowZ A m (i / c)) (colZ B c (i % c)) m = false := fun i hi => by
    have hl := place_lt i r c hi
    exact whole_dot _ _ (fun j => a (i / c * m + j)) (fun j => b (j * c + i % c)) p q hp hq m (fun j hj => hA _ (place_in _ _ _ _ hl.1 hj)) (fun j hj => hB _ (place_in _ _ _ _ hj hl.2)) hm
  refine ⟨fun i hi => ⟨(D i hi).1, ?_⟩, fun i hi => (D i hi).2⟩
  have hl := place_lt i r c hi
  exact sI_bound _ (p * q) m (fun j hj => mul_bound _ _ p q (hA _ (place_in _ _ _ _ hl.1 hj)).2 (hB _ (place_in _ _ _ _ hj hl.2)).2)
def appW (x y : Nat → Int) (m : Nat) : Nat → Int := fun i => sI (fun j => x (i * m + j) * y j) m
theorem whole_app (A X a x : Nat → Int) (r m : Nat) (p q : Int) (hp : 0 ≤ p ∧ p ≤ 2147483647) (hq : 0 ≤ q ∧ q ≤ 2147483647) (hA : Wh p (r * m) A a) (hX : Wh q m X x) (hm : p * q * m ≤ 2147483647) :
    Wh (p * q * m) r (appZ A X m) (appW a x m) ∧ ∀ i, i < r → appG A X m i = false := by
  have D : ∀ i, i < r → dotN (rowZ A m i) X m = appW a x m i * 4294967296 ∧ dotC (rowZ A m i) X m = false := fun i hi =>
    whole_dot _ _ (fun j => a (i * m + j)) x p q hp hq m (fun j hj => hA _ (place_in _ _ _ _ hi hj)) hX hm
  exact ⟨fun i hi => ⟨(D i hi).1, sI_bound _ (p * q) m (fun j hj => mul_bound _ _ p q (hA _ (place_in _ _ _ _ hi hj)).2 (hX j hj).2)⟩, fun i hi => (D i hi).2⟩
theorem whole_sum (A B a b : Nat → Int) (n : Nat) (p q : Int) (hp : 0 ≤ p) (hq : 0 ≤ q) (hpq : p + q ≤ 2147483647) (hA : Wh p n A a) (hB : Wh q n B b) :
    Wh (p + q) n (fun i => s2N (A i) (B i)) (fun i => a i + b i) ∧ ∀ i, i < n → s2C (A i) (B i) = false := by
  have D : ∀ i, i < n → s2N (A i) (B i) = (a i + b i) * 4294967296 ∧ s2C (A i) (B i) = false := fun i hi => by
    have h1 := hA i hi
    have h2 := hB i hi
    rw [h1.1, h2.1]
    exact whole_s2 _ _ (by omega) (by omega) (by omega)
  exact ⟨fun i hi => ⟨(D i hi).1, by have := hA i hi; have := hB i hi; show -(p + q) ≤ a i + b i ∧ a i + b i ≤ p + q; omega⟩, fun i hi => (D i hi).2⟩
/-- (a b) c = a (b c). -/
theorem mulW_assoc (a b c : Nat → Int) (r m n k p : Nat) (h : p < r * k) : mulW (mulW a b m n) c n k p = mulW a (mulW b c n k) m k p := by
  have hp := place_lt p r k h
  show sI (fun j => sI (fun i => a ((p / k * n + j) / n * m + i) * b (i * n + (p / k * n + j) % n)) m * c (j * k + p % k)) n = sI (fun i => a (p / k * m + i) * sI (fun j => b ((i * k + p % k) / k * n + j) * c (j * k + (i * k + p % k) % k)) n) m
  have e1 : sI (fun j => sI (fun i => a ((p / k * n + j) / n * m + i) * b (i * n + (p / k * n + j) % n)) m * c (j * k + p % k)) n = sI (fun j => sI (fun i => a (p / k * m + i) * b (i * n + j) * c (j * k + p % k)) m) n :=
    sI_congr _ _ n (fun j hj => by rw [sI_mul]; exact sI_congr _ _ m (fun i hi => by rw [place_div _ _ _ hj, place_mod _ _ _ hj]))
  have e2 : sI (fun i => a (p / k * m + i) * sI (fun j => b ((i * k + p % k) / k * n + j) * c (j * k + (i * k + p % k) % k)) n) m = sI (fun i => sI (fun j => a (p / k * m + i) * b (i * n + j) * c (j * k + p % k)) n) m :=
    sI_congr _ _ m (fun i hi => by rw [sI_mulL]; exact sI_congr _ _ n (fun j hj => by rw [place_div _ _ _ hp.2, place_mod _ _ _ hp.2, Int.mul_assoc]))
  rw [e1, e2]
  exact sI_swap (fun i j => a (p / k * m + i) * b (i * n + j) * c (j * k + p % k)) m n
/-- a (b + d) = a b + a d. -/
theorem mulW_add (a b d : Nat → Int) (m n p : Nat) : mulW a (fun i => b i + d i) m n p = mulW a b m n p + mulW a d m n p := by
  show sI (fun j => a (p / n * m + j) * (b (j * n + p % n) + d (j * n + p % n))) m = sI (fun j => a (p / n * m + j) * b (j * n + p % n)) m + sI (fun j => a (p / n * m + j) * d (j * n + p % n)) m
  rw [← sI_add]
  exact sI_congr _ _ m (fun j hj => Int.mul_add _ _ _)
/-- a (b x) = (a b) x. -/
theorem appW_assoc (a b x : Nat → Int) (m n i : Nat) : appW (mulW a b m n) x n i = appW a (appW b x n) m i := by
  show sI (fun j => sI (fun t => a ((i * n + j) / n * m + t) * b (t * n + (i * n + j) % n)) m * x j) n = sI (fun t => a (i * m + t) * sI (fun j => b (t * n + j) * x j) n) m
  have e1 : sI (fun j => sI (fun t => a ((i * n + j) / n * m + t) * b (t * n + (i * n + j) % n)) m * x j) n = sI (fun j => sI (fun t => a (i * m + t) * b (t * n + j) * x j) m) n :=
    sI_congr _ _ n (fun j hj => by rw [sI_mul]; exact sI_congr _ _ m (fun t ht => by rw [place_div _ _ _ hj, place_mod _ _ _ hj]))
  have e2 : sI (fun t => a (i * m + t) * sI (fun j => b (t * n + j) * x j) n) m = sI (fun t => sI (fun j => a (i * m + t) * b (t * n + j) * x j) n) m :=
    sI_congr _ _ m (fun t ht => by rw [sI_mulL]; exact sI_congr _ _ n (fun j hj => by rw [Int.mul_assoc]))
  rw [e1, e2]
  exact sI_swap (fun t j => a (i * m + t) * b (t * n + j) * x j) m n

end Go.Proofs.Wd
