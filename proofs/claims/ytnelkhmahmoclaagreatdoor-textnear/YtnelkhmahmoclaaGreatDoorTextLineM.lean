/- A line of decimals is read as their numbers. -/
import Derived.Test.YtnelkhmahmoclaaGreatDoorTextBackM
import Derived.Test.YtnelkhmahmoclaaGreatDoorTextLine
namespace Go.Proofs.Wd
set_option linter.unusedVariables false

theorem notB_isD (c : UInt8) (h : isD c = true) : notB c = true := by
  unfold isD at h
  unfold notB
  simp only [decide_eq_true_eq] at h ⊢
  intro e
  rw [e] at h
  have : (32 : UInt8).toNat = 32 := rfl
  omega
theorem put_notB (a : Int) : ∀ c ∈ putL a, notB c = true := by
  intro c hc
  unfold putL at hc
  rw [List.mem_append, List.mem_append] at hc
  rcases hc with (hc | hc) | hc
  · split at hc
    · simp at hc; rw [hc]; decide
    · simp at hc
  · exact notB_isD c (whole_all _ c hc)
  · split at hc
    · simp at hc
    · rw [List.mem_cons] at hc
      rcases hc with hc | hc
      · rw [hc]; decide
      · exact notB_isD c (frac_all _ _ (Nat.mod_lt _ (by omega)) c hc)
theorem put_pos (a : Int) : 0 < (putL a).length := by
  have := whole_pos (absF a / 4294967296)
  unfold putL
  simp only [List.length_append]
  omega
/-- Where the k-th piece begins. -/
def pos (Z : Nat → Int) (k : Nat) : Nat := (lineL Z k).length + (if k = 0 then 0 else 1)
theorem line_len (Z : Nat → Int) (k : Nat) : (lineL Z (k + 1)).length = pos Z k + (putL (Z k)).length := by
  unfold pos
  show (lineL Z k ++ (if k = 0 then [] else [32]) ++ putL (Z k)).length = _
  simp only [List.length_append]
  split <;> simp
theorem line_split (Z : Nat → Int) (k : Nat) : ∀ n, k < n → ∃ t, lineL Z n = lineL Z (k + 1) ++ t ∧ ((k + 1 = n ∧ t = []) ∨ (k + 1 < n ∧ ∃ u, t = 32 :: u)) := by
  intro n
  induction n with
  | zero => intro h; omega
  | succ n ih =>
    intro h
    by_cases e : k = n
    · exact ⟨[], by rw [e, List.append_nil], Or.inl ⟨by omega, rfl⟩⟩
    · obtain ⟨t, h1, h2⟩ := ih (by omega)
      refine ⟨t ++ (if n = 0 then [] else [32]) ++ putL (Z n), ?_, Or.inr ⟨by omega, ?_⟩⟩
      · show lineL Z n ++ (if n = 0 then [] else [32]) ++ putL (Z n) = _
        rw [h1]
        simp only [List.append_assoc]
      · rw [if_neg (by omega)]
        rcases h2 with ⟨_, rfl⟩ | ⟨_, u, rfl⟩
        · exact ⟨putL (Z n), by simp⟩
        · exact ⟨u ++ [32] ++ putL (Z n), by simp⟩
theorem line_drop (Z : Nat → Int) (k : Nat) (t : List UInt8) : (lineL Z (k + 1) ++ t).drop (pos Z k) = putL (Z k) ++ t := by
  unfold pos
  show ((lineL Z k ++ (if k = 0 then [] else [32]) ++ putL (Z k)) ++ t).drop _ = _
  rw [List.append_assoc]
  apply List.drop_left'
  simp only [List.length_append]
  split <;> simp
theorem tw_all (l x : List UInt8) (h : ∀ c ∈ l, notB c = true) (hx : x = [] ∨ ∃ u, x = 32 :: u) : tw (l ++ x) = l.length := by
  induction l with
  | nil =>
    rcases hx with rfl | ⟨u, rfl⟩
    · rfl
    · rw [List.nil_append, tw_cons, if_neg (by decide)]; rfl
  | cons c l ih => rw [List.cons_append, tw_cons, if_pos (h c (by simp)), ih (fun d hd => h d (by simp [hd]))]; rfl

theorem list_line_from (Z : Nat → Int) (n : Nat) (hZ : ∀ i, i < n → -9223372036854775807 ≤ Z i ∧ Z i ≤ 9223372036854775807) : ∀ m k f, k + m = n → 0 < m → m ≤ f → listF (lineL Z n) (f + 1) (pos Z k) ((List.range k).map Z) = ((List.range n).map Z, 0, 0) := by
  intro m
  induction m with
  | zero => intro k f _ h; omega
  | succ m ih =>
    intro k f hk _ hf
    obtain ⟨t, h1, h2⟩ := line_split Z k n (by omega)
    have hd : (lineL Z n).drop (pos Z k) = putL (Z k) ++ t := by rw [h1]; exact line_drop Z k t
    have hpe : pe (lineL Z n) (pos Z k) = pos Z k + (putL (Z k)).length := by
      unfold pe
      rw [hd, tw_all (putL (Z k)) t (put_notB _) (by rcases h2 with ⟨_, e⟩ | ⟨_, e⟩; exact Or.inl e; exact Or.inr e)]
    have hx : getR (((lineL Z n).drop (pos Z k)).take (pos Z k + (putL (Z k)).length - pos Z k)) = (Z k, 0) := by
      rw [hd, Nat.add_sub_cancel_left, List.take_left']
      · exact get_put _ (hZ k (by omega)).1 (hZ k (by omega)).2
      · rfl
    have hlen : (lineL Z n).length = pos Z k + (putL (Z k)).length + t.length := by rw [h1, List.length_append, line_len]
    have hin : pos Z k < (lineL Z n).length ∨ 0 < pos Z k := by have := put_pos (Z k); left; omega
    have hsnoc : (List.range k).map Z ++ [Z k] = (List.range (k + 1)).map Z := by rw [List.range_succ, List.map_append]; rfl
    rcases h2 with ⟨e1, e2⟩ | ⟨e1, u, e2⟩
    · rw [listF_end hin hpe hx rfl (by rw [hlen, e2]; simp), hsnoc, e1]
    · rw [listF_on hin hpe hx rfl (by rw [hlen, e2]; simp), hsnoc]
      have hp : pos Z k + (putL (Z k)).length + 1 = pos Z (k + 1) := by
        rw [← line_len]
        unfold pos
        rw [if_neg (by omega)]
      rw [hp]
      obtain ⟨f', rfl⟩ : ∃ f', f = f' + 1 := ⟨f - 1, by omega⟩
      exact ih (k + 1) f' (by omega) (by omega) (by omega)

theorem line_ge (Z : Nat → Int) : ∀ n, n ≤ (lineL Z n).length
  | 0 => by simp
  | n + 1 => by
    have h1 := line_ge Z n
    have h2 := put_pos (Z n)
    rw [line_len]
    unfold pos
    omega
/-- What a line says is read from it. -/
theorem list_line (Z : Nat → Int) (n : Nat) (hZ : ∀ i, i < n → -9223372036854775807 ≤ Z i ∧ Z i ≤ 9223372036854775807) : listR (lineL Z n) = ((List.range n).map Z, 0, 0) := by
  unfold listR
  by_cases h : n = 0
  · subst h; rfl
  · have := list_line_from Z n hZ n 0 ((lineL Z n).length + 1) (by omega) (by omega) (by have := line_ge Z n; omega)
    exact this

end Go.Proofs.Wd
