/- A line of decimals: its pieces, and what it is read as. -/
import Derived.Test.YtnelkhmahmoclaaGreatDoorTextNum
namespace Go.Proofs.Wd
set_option linter.unusedVariables false

/-- Where a piece of a line ends that begins at a: at a blank, or at the line's end. -/
def notB (c : UInt8) : Bool := decide (c ≠ 32)
def tw (l : List UInt8) : Nat := (l.takeWhile notB).length
theorem tw_cons (c : UInt8) (l : List UInt8) : tw (c :: l) = if notB c then tw l + 1 else 0 := by
  unfold tw
  rw [List.takeWhile_cons]
  split <;> simp
theorem tw_eq (l : List UInt8) (k : Nat) (hk : k ≤ l.length) (h1 : ∀ i, i < k → notB (l.getD i 0) = true) (h2 : k = l.length ∨ notB (l.getD k 0) = false) : tw l = k := by
  induction l generalizing k with
  | nil => simp at hk; subst hk; rfl
  | cons c l ih =>
    rw [tw_cons]
    cases k with
    | zero =>
      rcases h2 with h2 | h2
      · simp at h2
      · have : notB c = false := by simpa using h2
        rw [this]; rfl
    | succ k =>
      have hc : notB c = true := by simpa using h1 0 (by omega)
      rw [if_pos hc, ih k (by simpa using hk) (fun i hi => by simpa using h1 (i + 1) (by omega)) (by rcases h2 with h2 | h2; left; simpa using h2; right; simpa using h2)]
def pe (l : List UInt8) (a : Nat) : Nat := a + tw (l.drop a)
theorem pe_eq (l : List UInt8) (a e : Nat) (h0 : a ≤ e) (he : e ≤ l.length) (h1 : ∀ i, a ≤ i → i < e → notB (l.getD i 0) = true) (h2 : e = l.length ∨ notB (l.getD e 0) = false) : pe l a = e := by
  have g1 : ∀ i, i < e - a → notB ((l.drop a).getD i 0) = true := fun i hi => by
    have := h1 (a + i) (by omega) (by omega)
    simpa [List.getD, List.getElem?_drop] using this
  have g2 : e - a = (l.drop a).length ∨ notB ((l.drop a).getD (e - a) 0) = false := by
    rcases h2 with h2 | h2
    · left; rw [List.length_drop]; omega
    · right
      have e1 : a + (e - a) = e := by omega
      simpa [List.getD, List.getElem?_drop, e1] using h2
  unfold pe
  rw [tw_eq (l.drop a) (e - a) (by rw [List.length_drop]; omega) g1 g2]
  omega
/-- What a line is read as from a on: the numbers, the error, where. -/
def listF (l : List UInt8) : Nat → Nat → List Int → List Int × Int × Int
  | 0, _, acc => (acc, 0, 0)
  | f + 1, a, acc =>
    if a < l.length ∨ 0 < a then
      (if (getR ((l.drop a).take (pe l a - a))).2 ≠ 0 then ([], (getR ((l.drop a).take (pe l a - a))).2, (a : Int))
       else if pe l a = l.length then (acc ++ [(getR ((l.drop a).take (pe l a - a))).1], 0, 0)
       else listF l f (pe l a + 1) (acc ++ [(getR ((l.drop a).take (pe l a - a))).1]))
    else (acc, 0, 0)
def listR (l : List UInt8) : List Int × Int × Int := listF l (l.length + 2) 0 []
theorem listF_out {l : List UInt8} {f a : Nat} {acc : List Int} (h : ¬ (a < l.length ∨ 0 < a)) : listF l (f + 1) a acc = (acc, 0, 0) := by rw [listF, if_neg h]
theorem listF_bad {l : List UInt8} {f a e : Nat} {acc : List Int} {x : Int × Int} (h : a < l.length ∨ 0 < a) (he : pe l a = e) (hx : getR ((l.drop a).take (e - a)) = x) (h2 : x.2 ≠ 0) : listF l (f + 1) a acc = ([], x.2, (a : Int)) := by rw [listF, if_pos h, he, hx, if_pos h2]
theorem listF_end {l : List UInt8} {f a e : Nat} {acc : List Int} {x : Int × Int} (h : a < l.length ∨ 0 < a) (he : pe l a = e) (hx : getR ((l.drop a).take (e - a)) = x) (h2 : x.2 = 0) (h3 : e = l.length) : listF l (f + 1) a acc = (acc ++ [x.1], 0, 0) := by rw [listF, if_pos h, he, hx, if_neg (by simp [h2]), if_pos h3]
theorem listF_on {l : List UInt8} {f a e : Nat} {acc : List Int} {x : Int × Int} (h : a < l.length ∨ 0 < a) (he : pe l a = e) (hx : getR ((l.drop a).take (e - a)) = x) (h2 : x.2 = 0) (h3 : e ≠ l.length) : listF l (f + 1) a acc = listF l f (e + 1) (acc ++ [x.1]) := by rw [listF, if_pos h, he, hx, if_neg (by simp [h2]), if_neg h3]
theorem listF_len (l : List UInt8) : ∀ f a acc, (listF l f a acc).1.length ≤ acc.length + f
  | 0, _, _ => by simp [listF]
  | f + 1, a, acc => by
    rw [listF]
    split
    · split
      · simp
      · split
        · simp <;> omega
        · have := listF_len l f (pe l a + 1) (acc ++ [(getR ((l.drop a).take (pe l a - a))).1])
          simp at this ⊢
          omega
    · simp
theorem listR_len (l : List UInt8) : (listR l).1.length ≤ l.length + 2 := by
  have := listF_len l (l.length + 2) 0 []
  simpa [listR] using this
theorem getR_I64 (l : List UInt8) : I64 (getR l).1 := by
  unfold getR
  split
  · unfold I64; simp
  · unfold numR
    split
    · unfold I64; simp
    · rename_i h N K _ _
      generalize (2 * N * 4294967296 + 10 ^ K) / (2 * 10 ^ K) = d
      unfold I64
      simp only
      split <;> omega

end Go.Proofs.Wd
