/- The laws' kit: a list's copy, and lists side by side. -/
import Derived.Test.YtopaakjildmjcaaGreatRowA
import Derived.Deep.RegionHeld3
import Derived.Deep.DrawnRows
import Derived.Deep.QuietTactic
import Derived.BigQuiet
import Derived.Laws.AppendOwnNone
namespace Go.Proofs.YtopaakjildmjcaaGreat
open Go.RowKit Go.Proofs.Wd
set_option linter.unusedVariables false
set_option linter.unusedSimpArgs false
set_option maxRecDepth 10000
attribute [local go_sem ↓] Go.wp_at_zero Go.wp_at_succ

/-- What comes of a copy. -/
def CopyP (n : Nat) (Z : Nat → Int) (w : World) (e : Ending) (w' : World) : Prop := ∃ ao cap, e = .returned (.slice ao n cap) ∧ Row w' ao n Z ∧ (∀ U, U < w.heap.size → Off U n ao) ∧ Kp w w'

set_option maxHeartbeats 1000000 in
theorem kitCopy (ao : Option Addr) (n cap : Nat) (Z : Nat → Int) (hn : n ≤ 1000000) (h0 : ao = none → n = 0 ∧ cap = 0) (w : World) (hr : Row w ao n Z) :
    Calls Tryz.prog 24 #[.slice ao n cap] w fun e w' => CopyP n Z w e w' := by
  have HR := hide hr
  clear hr
  obtain ⟨i0, hi, hz0, hz1, hz2⟩ := info_parts Tryz.infoInt
  have OM := hide (World.ownsRow_made (base := w.heap.size) (e := 3) (size := 1) w #[] 0 (Nat.le_refl _) (by unfold maxLen; omega) (by simp))
  cases ao with
  | none =>
    obtain ⟨rfl, rfl⟩ := h0 rfl
    clear h0
    go_enter Tryz.func24, Tryz.ntmps24
    go_wp2_with (at_builtin; refine wpList_append_own_none rfl _ _ 22 rfl w.heap.size 3 i0 1 Tryz.underlying22 hi _ _ _ rfl (unhide OM) rfl ?_)
    go_ret
    exact (show CopyP _ _ _ _ _ from ⟨_, _, rfl, Or.inl rfl, fun U hU h => absurd h (Nat.lt_irrefl _), (Kp.refl _).alloc _ _⟩)
  | some a =>
    clear h0
    have NEW : ∀ j u, ((List.range n).map fun i => Value.int .i64 (Z i))[j]? = some u → (w.alloc (.cells #[] 3)).cell? (a.add j) = some u := by
      intro j u hu
      rw [List.getElem?_map] at hu
      by_cases hj : j < n
      · rw [List.getElem?_range hj] at hu
        simp at hu
        subst hu
        obtain ⟨b, o, e, hc⟩ := (unhide HR).at hj
        cases e
        rw [Go.WideShapes.add_plain]
        exact gat ((Grown.refl _).alloc _ _) hc
      · rw [List.getElem?_eq_none (by simpa using hj)] at hu
        simp at hu
    have NEWH := hide NEW
    clear NEW
    go_enter Tryz.func24, Tryz.ntmps24
    go_wp2_with (at_builtin; refine wpList_append_own _ rfl _ _ 22 rfl w.heap.size 3 i0 (.int .i64 0) 1 8 Tryz.underlying22 hi hz0 hz1 hz2 rfl (by decide) _ _ _ rfl (unhide OM) a n cap ((List.range n).map fun i => Value.int .i64 (Z i)) rfl (by simp) (unhide NEWH) (cells_one _ _) (by unfold maxLen; omega) (by omega) (by simp) ?_; intro v' w1 hown' hgrow _)
    rw [Nat.zero_add, List.nil_append] at hown'
    obtain ⟨ao2, cap2, rfl, row2, off2⟩ := owns_row hown'
    have K1 : Hid (Kp w w1) := Kp.by ((Kp.refl _).alloc _ _) hgrow (fun k e => by have := ((unhide OM).lt k e).1; omega)
    have R1 := hide (And.intro row2 off2)
    clear hown' hgrow row2 off2
    go_wp2
    go_ret
    exact (show CopyP _ _ _ _ _ from ⟨_, _, rfl, (unhide R1).1, (unhide R1).2, unhide K1⟩)

set_option maxHeartbeats 1000000 in
theorem kitSameQ (ao bo : Option Addr) (len c1 c2 : Nat) (X : Nat → Int) (hl : len ≤ 1000000) (w : World) (hr : Row w ao len X) (ht : Row w bo len X) :
    Calls Tryz.prog 33 #[.slice ao len c1, .slice bo len c2] w fun e w' => e = .returned (.bool true) ∧ ∃ n, w' = w.drewN n := by
  have HR := hide hr
  have HT := hide ht
  clear hr ht
  go_enter Tryz.func33, Tryz.ntmps33
  go_wp2
  go_loopw [5] (fun i wr => ∃ k : Nat, k ≤ len ∧ i = .int .i64 k ∧ Hid (∃ n, wr = w.drewN n)) (fun i _ => len - (intOf i).toNat)
  case atStart => exact ⟨0, Nat.zero_le _, rfl, 0, rfl⟩
  case round =>
    obtain ⟨k, hk, rfl, nn, rfl⟩ := hrel
    by_cases hlt : k < len
    · obtain ⟨b1, o1, rfl, hc1⟩ := (unhide HR).at hlt
      obtain ⟨b2, o2, rfl, hc2⟩ := (unhide HT).at hlt
      generalize X k = x at *
      have i0 : (0 : Int) ≤ (k : Int) := by omega
      have i1 : (k : Int) < (len : Int) := by omega
      go_wp2
      go_quiet (fail)
      go_wp2
      go_roundw
      case rel => exact ⟨k + 1, by omega, by go_num, _, rfl⟩
      case measure => simp [intOf]; omega
    · obtain rfl : k = len := by omega
      go_wp2
      go_ret
      exact ⟨rfl, _, rfl⟩

end Go.Proofs.YtopaakjildmjcaaGreat
