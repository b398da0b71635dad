/- MoT0, as far as MoFour wants it. -/
import Derived.Test.YtjobgjcfkomhpaaGreatMoFourT4
import Derived.Test.YtjobgjcfkomhpaaGreatMdlLW
set_option linter.unusedVariables false
set_option linter.unusedSimpArgs false
namespace Go.Proofs.YtjobgjcfkomhpaaGreat
open Go.RowKit Go.Shelf Go.Proofs.Wd
set_option maxRecDepth 10000
theorem rvs_depL (ao : Option Addr) (n : Nat) (X : Nat → RV) : DepL (rowD ao n) (fun w => RVs w ao n X) := fun w w' h r => by
 rcases r with r | ⟨b, o, rfl, hc⟩
 ·exact Or.inl r
 ·by_cases h0 : n = 0
  ·exact Or.inl h0
  ·refine Or.inr ⟨b, o, rfl, fun i hi j hj => ?_⟩
   have e : w'.heap[b]? = w.heap[b]? := h b (by unfold rowD; rw [if_neg h0]; simp)
   exact (World.cell?_of_block (a := ⟨b, o + i * 3 + j, none⟩) e).trans (hc i hi j hj)
theorem rvs_lt {w : World} {ao : Option Addr} {n : Nat} {X : Nat → RV} (h : RVs w ao n X) : ∀ k ∈ rowD ao n, k < w.heap.size := fun k hk => by
 rcases h with h | ⟨b, o, rfl, hc⟩
 ·unfold rowD at hk; rw [if_pos h] at hk; exact absurd hk List.not_mem_nil
 ·unfold rowD at hk
  split at hk
  ·exact absurd hk List.not_mem_nil
  ·rename_i h0
   simp at hk
   subst hk
   exact heap_gt (hc 0 (by omega) 0 (by omega))
def dvD (m : DV) : List Nat := rowD m.A.ao m.A.len ++ (rowD m.Q.ao m.Q.len ++ (rowD m.ro m.rl ++ (List.range m.rl).flatMap fun i => rowD (m.X i).h.ao (m.X i).h.len))
def fDV (m : DV) : Ob := (dvD m, fun w => m.rows w)
theorem mem_dvX {m : DV} {i k : Nat} (hi : i < m.rl) (hk : k ∈ rowD (m.X i).h.ao (m.X i).h.len) : k ∈ dvD m := by
 unfold dvD
 exact List.mem_append_right _ (List.mem_append_right _ (List.mem_append_right _ (List.mem_flatMap.2 ⟨i, List.mem_range.2 hi, hk⟩)))
theorem mem_dvA {m : DV} {k : Nat} (hk : k ∈ rowD m.A.ao m.A.len) : k ∈ dvD m := List.mem_append_left _ hk
theorem mem_dvQ {m : DV} {k : Nat} (hk : k ∈ rowD m.Q.ao m.Q.len) : k ∈ dvD m := List.mem_append_right _ (List.mem_append_left _ hk)
theorem mem_dvR {m : DV} {k : Nat} (hk : k ∈ rowD m.ro m.rl) : k ∈ dvD m := List.mem_append_right _ (List.mem_append_right _ (List.mem_append_left _ hk))
theorem dvD_mem {m : DV} {k : Nat} (h : k ∈ dvD m) : k ∈ rowD m.A.ao m.A.len ∨ k ∈ rowD m.Q.ao m.Q.len ∨ k ∈ rowD m.ro m.rl ∨ ∃ i, i < m.rl ∧ k ∈ rowD (m.X i).h.ao (m.X i).h.len := by
 unfold dvD at h
 rcases List.mem_append.1 h with h | h
 ·exact Or.inl h
 ·rcases List.mem_append.1 h with h | h
  ·exact Or.inr (Or.inl h)
  ·rcases List.mem_append.1 h with h | h
   ·exact Or.inr (Or.inr (Or.inl h))
   ·obtain ⟨i, hi, hk⟩ := List.mem_flatMap.1 h
    exact Or.inr (Or.inr (Or.inr ⟨i, List.mem_range.1 hi, hk⟩))
theorem dv_dep (m : DV) : DepL (dvD m) (fun w => m.rows w) := fun w w' h ⟨a, q, r, e⟩ =>
 ⟨row_depL _ _ _ w w' (fun k hk => h k (mem_dvA hk)) a, row_depL _ _ _ w w' (fun k hk => h k (mem_dvQ hk)) q, rvs_depL _ _ _ w w' (fun k hk => h k (mem_dvR hk)) r, fun i hi => row_depL _ _ _ w w' (fun k hk => h k (mem_dvX hi hk)) (e i hi)⟩
theorem dvD_lt {m : DV} {w : World} (h : m.rows w) : ∀ k ∈ dvD m, k < w.heap.size := fun k hk => by
 rcases dvD_mem hk with hk | hk | hk | ⟨i, hi, hk⟩
 ·exact rowD_lt h.1 k hk
 ·exact rowD_lt h.2.1 k hk
 ·exact rvs_lt h.2.2.1 k hk
 ·exact rowD_lt (h.2.2.2 i hi) k hk
theorem DV.good_of {m : DV} {w W : World} (h : m.good w) (r : m.rows W) : m.good W := ⟨⟨r.1, h.1.2⟩, ⟨r.2.1, h.2.1.2⟩, r.2.2.1, fun i hi => ⟨⟨r.2.2.2 i hi, (h.2.2.2.1 i hi).1.2⟩, (h.2.2.2.1 i hi).2⟩, h.2.2.2.2⟩
theorem lvIn_good {x : LV} {W : World} (h : x.okIn W) : x.good W := ⟨h.row, ⟨h.le, h.nil⟩, h.nums⟩
theorem okIn_good {m : DV} {W : World} (h : m.okIn W) (s : smallM m) : m.good W :=
 ⟨lvIn_good h.A, lvIn_good h.Q, h.rvs, fun i hi => ⟨lvIn_good (h.each i hi).h, (h.each i hi).s, (h.each i hi).r⟩, ⟨h.le, h.nil⟩, ⟨h.N, h.tick, h.gate, h.rmin⟩, s.1, s.2.1, s.2.2.1, s.2.2.2⟩
theorem okIn_rows {m : DV} {w : World} (h : m.okIn w) : m.rows w := ⟨h.A.row, h.Q.row, h.rvs, fun i hi => (h.each i hi).h.row⟩
section
variable {w wx w' : World} {es pre post fs : List Ob} {U R : Nat} {c cut : Bool} {d : Int} {m m' : DV}
theorem ST.dvOld (h : ST w es fs wx) (r : m.rows w) : ST w es (fDV m :: fs) wx :=
 h.fact (r.kp h.1) (dv_dep m) (fun i hi => ⟨Nat.lt_of_lt_of_le (dvD_lt r i hi) h.1.2.2.2, fun hk => by have := (h.2.2.2.1 i hk).1; have := dvD_lt r i hi; omega⟩)
theorem ST.dv (h : ST w es fs wx) (hf : fDV m ∈ fs) : m.rows wx := h.get hf
theorem ST.dvMk (h : ST w es fs wx) (hf : fDV m ∈ fs) {W0 : World} (hg : m.good W0) {o : Ob} (hc : o ∈ es) (hU : U ∈ o.1) : (∀ W, Mk U wx W → m.good W) ∧ Off U m.A.len m.A.ao ∧ Off U m.Q.len m.Q.ao :=
 ⟨fun W k => DV.good_of hg (dv_dep m wx W (fun i hi => k.2.2.1 i (h.flt hf hi) (fun e => h.apart hf hc hi (e ▸ hU))) (h.dv hf)), off_of fun hk => h.apart hf hc (mem_dvA hk) hU, off_of fun hk => h.apart hf hc (mem_dvQ hk) hU⟩
end
section
variable (U R : Nat) (c0 : Bool) (n0 : Int) (hn0 : 0 ≤ n0 ∧ n0 < 1000000000000) (m : DV) (ticks : Int) (hI : I64 ticks) (w : World)
include hn0 hI
end
end Go.Proofs.YtjobgjcfkomhpaaGreat
