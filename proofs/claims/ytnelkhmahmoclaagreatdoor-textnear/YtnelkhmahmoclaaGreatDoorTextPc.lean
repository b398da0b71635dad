/- A line's pieces, one behind the other, as the program's iterator tells them; and what they come to. -/
import Derived.Test.YtnelkhmahmoclaaGreatDoorTextPM
import Derived.Test.YtnelkhmahmoclaaGreatDoorTextLineM
namespace Go.Proofs.Wd
set_option linter.unusedVariables false

def pcs (l : List UInt8) : Nat → Nat → List (Nat × ByteArray)
  | 0, _ => []
  | f + 1, a => (a, ⟨((l.drop a).take (fi 32 (l.drop a))).toArray⟩) :: (if fi 32 (l.drop a) < (l.drop a).length then pcs l f (a + fi 32 (l.drop a) + 1) else [])
def allP (l : List UInt8) : List (Nat × ByteArray) := if l = [] then [] else pcs l (l.length + 1) 0
def gR (x : Nat × ByteArray) : Int × Int := getR x.2.data.toList
def foldP : List (Nat × ByteArray) → List Int → List Int × Int × Int
  | [], acc => (acc, 0, 0)
  | x :: r, acc => if (gR x).2 ≠ 0 then ([], (gR x).2, (x.1 : Int)) else foldP r (acc ++ [(gR x).1])
theorem fi_tw (m : List UInt8) : fi 32 m = tw m := rfl
theorem fold_pcs (l : List UInt8) : ∀ f g a acc, a ≤ l.length → l.length < f + a → l.length < g + a → (a < l.length ∨ 0 < a) → listF l g a acc = foldP (pcs l f a) acc
  | 0, g, a, acc, h1, h2, _, _ => by omega
  | f + 1, 0, a, acc, h1, _, h3, _ => by omega
  | f + 1, g + 1, a, acc, h1, h2, h3, h4 => by
    have hfi := fi_le 32 (l.drop a)
    have hp : pe l a = a + fi 32 (l.drop a) := rfl
    have hd : (l.drop a).length = l.length - a := by rw [List.length_drop]
    rw [listF, if_pos h4, hp, Nat.add_sub_cancel_left]
    show _ = foldP ((a, ⟨((l.drop a).take (fi 32 (l.drop a))).toArray⟩) :: (if fi 32 (l.drop a) < (l.drop a).length then pcs l f (a + fi 32 (l.drop a) + 1) else [])) acc
    rw [foldP]
    have hg : gR (a, ⟨((l.drop a).take (fi 32 (l.drop a))).toArray⟩) = getR ((l.drop a).take (fi 32 (l.drop a))) := rfl
    rw [hg]
    by_cases hb : (getR ((l.drop a).take (fi 32 (l.drop a)))).2 ≠ 0
    · rw [if_pos hb, if_pos hb]
    · rw [if_neg hb, if_neg hb]
      by_cases he : fi 32 (l.drop a) < (l.drop a).length
      · rw [if_pos he, if_neg (by omega), fold_pcs l f g (a + fi 32 (l.drop a) + 1) _ (by omega) (by omega) (by omega) (Or.inr (by omega))]
      · rw [if_neg he, if_pos (by omega)]
        rfl
theorem fold_all (l : List UInt8) : listR l = foldP (allP l) [] := by
  unfold listR allP
  by_cases h : l = []
  · subst h
    rfl
  · have : 0 < l.length := List.length_pos_iff.2 h
    rw [if_neg h]
    exact fold_pcs l (l.length + 1) (l.length + 2) 0 [] (by omega) (by omega) (by omega) (Or.inl this)
theorem pcs_len (l : List UInt8) : ∀ f a, (pcs l f a).length ≤ f
  | 0, _ => by simp [pcs]
  | f + 1, a => by
    rw [pcs, List.length_cons]
    split
    · have := pcs_len l f (a + fi 32 (l.drop a) + 1); omega
    · simp
theorem all_len (l : List UInt8) : (allP l).length ≤ l.length + 1 := by
  unfold allP
  split
  · simp
  · exact pcs_len _ _ _
theorem pcs_mem (l : List UInt8) : ∀ f a, a ≤ l.length → ∀ x ∈ pcs l f a, x.1 ≤ l.length ∧ x.2.size ≤ l.length
  | 0, _, _, x, h => by simp [pcs] at h
  | f + 1, a, ha, x, h => by
    have hfi := fi_le 32 (l.drop a)
    have hd : (l.drop a).length = l.length - a := by rw [List.length_drop]
    rw [pcs, List.mem_cons] at h
    rcases h with rfl | h
    · refine ⟨ha, ?_⟩
      show ((l.drop a).take (fi 32 (l.drop a))).length ≤ _
      rw [List.length_take]
      omega
    · split at h
      · exact pcs_mem l f _ (by omega) x h
      · simp at h
theorem all_mem (l : List UInt8) (x : Nat × ByteArray) (h : x ∈ allP l) : x.1 ≤ l.length ∧ x.2.size ≤ l.length := by
  unfold allP at h
  split at h
  · simp at h
  · exact pcs_mem l _ 0 (by omega) x h
theorem fold_ok : ∀ (ps : List (Nat × ByteArray)) acc, (∀ x ∈ ps, (gR x).2 = 0) → foldP ps acc = (acc ++ ps.map (fun x => (gR x).1), 0, 0)
  | [], acc, _ => by simp [foldP]
  | x :: r, acc, h => by
    rw [foldP, if_neg (by rw [h x (by simp)]; simp), fold_ok r _ (fun y hy => h y (by simp [hy]))]
    simp
theorem fold_bad (x : Nat × ByteArray) (r : List (Nat × ByteArray)) (hx : (gR x).2 ≠ 0) : ∀ (q : List (Nat × ByteArray)) acc, (∀ y ∈ q, (gR y).2 = 0) → foldP (q ++ x :: r) acc = ([], (gR x).2, (x.1 : Int))
  | [], acc, _ => by rw [List.nil_append, foldP, if_pos hx]
  | y :: q, acc, h => by
    rw [List.cons_append, foldP, if_neg (by rw [h y (by simp)]; simp), fold_bad x r hx q _ (fun z hz => h z (by simp [hz]))]
end Go.Proofs.Wd
