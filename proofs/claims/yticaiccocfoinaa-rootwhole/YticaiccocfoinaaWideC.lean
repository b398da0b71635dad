/- Package wide's rounding: what shift, shifted, nearest and Round return, in whole numbers. -/
import Derived.Test.YticaiccocfoinaaWideB
import Derived.Deep.RegionHeld3
import Derived.Deep.DrawnRows
import Derived.WalkSmall
import Derived.ChangeKeysEq
namespace Go.Proofs.Yticaiccocfoinaa
open Go.RowKit Go.Proofs.Wd
set_option linter.unusedVariables false
set_option linter.unusedSimpArgs false
attribute [local go_sem ↓] Go.wp_at_zero Go.wp_at_succ

theorem gfr {W w1 : World} (h : Grown W w1) {a : Addr} (hv : W.frozen? a = false) : w1.frozen? a = false := (h.2.1 a).trans hv

theorem heap_gt {W : World} {b o : Nat} {v : Value} (hv : W.cell? ⟨b, o, none⟩ = some v) : b < W.heap.size := by
  by_cases hb : b < W.heap.size
  · exact hb
  · rw [World.cell?] at hv
    simp [Array.getElem?_eq_none (Nat.le_of_not_lt hb)] at hv
theorem frz {W w1 : World} (h : Grown W w1) : ∀ b o, W.heap.size ≤ b → w1.frozen? ⟨b, o, none⟩ = false := by
  intro b o hb
  rw [h.2.1]
  simp [World.frozen?, Array.getElem?_eq_none hb]
theorem gat2 {W w1 : World} (h : Grown W w1) (b : Nat) (x y : Value) (hv : W.cell? ⟨b, 0, none⟩ = some x ∧ W.cell? ⟨b, 1, none⟩ = some y) : w1.cell? ⟨b, 0, none⟩ = some x ∧ w1.cell? ⟨b, 1, none⟩ = some y := ⟨gat h hv.1, gat h hv.2⟩

theorem arrEq (a b c d : Int) (w : World) : (Op.equalIn 9999 58 (.agg #[.int .u64 a, .int .u64 b]) (.agg #[.int .u64 c, .int .u64 d])).run Try.prog w = .ok (a == c && b == d) w := by
  obtain ⟨i, hi⟩ : ∃ i, Try.prog.info? 22 = some i := Option.isSome_iff_exists.1 (by kernel_rfl)
  rw [show (9999 : Nat) = 9998 + 1 from rfl, run_equalIn_array w 9998 _ _ Try.underlying58 hi, show Try.prog.cellsOf 22 = 1 from by kernel_rfl, show List.range 2 = [0, 1] from rfl]
  simp only [Op.eqItems]
  simp [go_sem, Try.underlying22]
  by_cases h : a = c <;> by_cases h' : b = d <;> simp [h, h']
theorem arrEq_no (a b c d : Int) (h : a ≠ c ∨ b ≠ d) (w : World) : (Op.equalIn 9999 58 (.agg #[.int .u64 a, .int .u64 b]) (.agg #[.int .u64 c, .int .u64 d])).run Try.prog w = .ok false w := by
  rw [arrEq, show (a == c && b == d) = false from by rcases h with h | h <;> simp [h]]
theorem arrEq_yes (a b : Int) (w : World) : (Op.equalIn 9999 58 (.agg #[.int .u64 a, .int .u64 b]) (.agg #[.int .u64 a, .int .u64 b])).run Try.prog w = .ok true w := by
  rw [arrEq]; simp

theorem sg_near (a d : Int) (b : Bool) (hd : 0 < d) (hb : b = decide (a < 0)) : sg b (nearQ (absI a / d) (absI a % d) (d - absI a % d)) = rdiv a d := by
  have e1 : ((a.natAbs : Nat) : Int) = absI a := by unfold absI; split <;> omega
  have e2 : ((d.natAbs : Nat) : Int) = d := by omega
  subst hb
  unfold rdiv rawq sg nearQ
  rw [e1, e2]
  by_cases h : a < 0
  · simp [h, show ¬ d < 0 from by omega]
  · simp [h, show ¬ d < 0 from by omega]

end Go.Proofs.Yticaiccocfoinaa
