/- The document's text: digits, doubled. -/
import Derived.Test.YtnelkhmahmoclaaGreatDoorTextC
namespace Go.Proofs.YtnelkhmahmoclaaGreatDoor
open Go.RowKit Go.Proofs.Wd
set_option linter.unusedVariables false
set_option linter.unusedSimpArgs false
set_option maxRecDepth 10000

theorem Tryz.infoByte : (Tryz.prog.info? 5).map (fun i => (i.zero, i.size, i.bytes)) = some (some (.int .u8 0), 1, 1) := by kernel_rfl

theorem made_size (z : Value) (n : Nat) : (madeCells #[z] n).size = n := by simp [madeCells]

/-- What comes of digits, doubled. -/
def DblP (len : Nat) (D : Nat → Nat) (w : World) (e : Ending) (w' : World) : Prop :=
  ∃ O : Nat → Nat, e = .returned (.tuple #[.slice (some ⟨w.heap.size, 0, none⟩) len len, .bool (decide (10 ^ len ≤ 2 * preV D len))]) ∧ (∀ i, i < len → O i ≤ 9) ∧ preV O len = 2 * preV D len % 10 ^ len ∧ RowB w' (some ⟨w.heap.size, 0, none⟩) len O ∧ Grown w w'

/-- What stands of it behind the last j digits. -/
def DblI (w : World) (B len : Nat) (D : Nat → Nat) (j m : Nat) (wr : World) : Prop :=
  ∃ (O : Nat → Nat) (cur : Array Value), Blk B cur 5 wr ∧ cur.size = len ∧ (∀ i, len - j ≤ i → i < len → cur[i]? = some (.int .u8 (O i : Int)) ∧ O i ≤ 9) ∧ 2 * sufV D len j = m * 10 ^ j + sufV O len j ∧ Grown w wr

theorem dbl_end {w wr : World} {B len m : Nat} {D : Nat → Nat} (hm : m ≤ 1) (hB : B = w.heap.size) (h : DblI w B len D len m wr) : DblP len D w (.returned (.tuple #[.slice (some ⟨B, 0, none⟩) len len, .bool (decide ((m : Int) = 1))])) wr := by
  obtain ⟨O, cur, h1, h2, h3, h4, h5⟩ := h
  have hO : ∀ i, i < len → O i ≤ 9 := fun i hi => (h3 i (by omega) hi).2
  have hlt := sufV_lt O len len (Nat.le_refl _) hO
  rw [← pre_eq_suf] at hlt h4
  rw [← pre_eq_suf] at h4
  subst hB
  refine ⟨O, ?_, hO, ?_, ?_, h5⟩
  · have : decide ((m : Int) = 1) = decide (10 ^ len ≤ 2 * preV D len) := by
      rw [Bool.eq_iff_iff]
      simp only [decide_eq_true_eq]
      rcases (show m = 0 ∨ m = 1 by omega) with rfl | rfl
      · simp at h4 ⊢; omega
      · simp at h4 ⊢; omega
    rw [this]
  · rcases (show m = 0 ∨ m = 1 by omega) with rfl | rfl
    · rw [h4, Nat.zero_mul, Nat.zero_add, Nat.mod_eq_of_lt hlt]
    · rw [h4, Nat.one_mul, Nat.add_mod_left, Nat.mod_eq_of_lt hlt]
  · by_cases h0 : len = 0
    · exact Or.inl h0
    · refine Or.inr ⟨_, 0, rfl, fun i hi => ?_⟩
      rw [Nat.zero_add, Blk.cell h1]
      exact (h3 i (by omega) hi).1

theorem dbl_round {w wr : World} {B len j m : Nat} {D : Nat → Nat} (hB : w.heap.size ≤ B) (hj : j < len) (h : DblI w B len D j m wr) (hd : D (len - 1 - j) ≤ 9) (hm : m ≤ 1) :
    DblI w B len D (j + 1) ((2 * D (len - 1 - j) + m) / 10) (wr.setCell ⟨B, len - 1 - j, none⟩ (.int .u8 (((2 * D (len - 1 - j) + m) % 10 : Nat) : Int))) := by
  obtain ⟨O, cur, h1, h2, h3, h4, h5⟩ := h
  have ho : (fun i => if i = len - 1 - j then (2 * D (len - 1 - j) + m) % 10 else O i) (len - 1 - j) = (2 * D (len - 1 - j) + m) % 10 := by simp
  refine ⟨fun i => if i = len - 1 - j then (2 * D (len - 1 - j) + m) % 10 else O i, _, Blk.set h1 _ _, by simpa using h2, fun i hi hl => ?_, ?_, h5.setCell hB _⟩
  · by_cases e : i = len - 1 - j
    · subst e
      refine ⟨?_, ?_⟩
      · rw [Array.getElem?_setIfInBounds_self_of_lt (by omega)]
        simp
      · simp only [if_true]; omega
    · refine ⟨?_, ?_⟩
      · rw [Array.getElem?_setIfInBounds_ne (by omega), (h3 i (by omega) hl).1]
        simp [e]
      · simp only [e, if_false]
        exact (h3 i (by omega) hl).2
  · refine dbl_step D _ len j m _ hj ?_ rfl ho
    rw [h4, sufV_congr O (fun i => if i = len - 1 - j then (2 * D (len - 1 - j) + m) % 10 else O i) len j (by omega) (fun i h6 h7 => by show O i = if i = len - 1 - j then (2 * D (len - 1 - j) + m) % 10 else O i; rw [if_neg (by omega)])]

set_option maxHeartbeats 2000000 in
theorem refDoubled (ao : Option Addr) (len cap : Nat) (D : Nat → Nat) (hl : len ≤ 1000000) (hD : Hid (∀ i, i < len → D i ≤ 9)) (w : World) (hr : RowB w ao len D) :
    Calls Tryz.prog 46 #[.slice ao len cap] w fun e w' => DblP len D w e w' := by
  have HR := hide hr
  clear hr
  have hmk := Go.run_make_row' (P := Tryz.prog) 50 5 (.int .u8 0) 1 Tryz.underlying50 Tryz.infoByte rfl .i64 .i64 len (by omega) (by omega)
  go_enter Tryz.func46, Tryz.ntmps46
  go_wp2
  have HB : Hid (w.heap.size ≤ w.heap.size) := Nat.le_refl _
  go_loopw [5, 6] (fun t i wr => ∃ j m : Nat, j ≤ len ∧ m ≤ 1 ∧ t = .int .u8 (m : Int) ∧ i = .int .i64 ((len : Int) - 1 - j) ∧ Hid (DblI w w.heap.size len D j m wr)) (fun _ i _ => (intOf i + 1).toNat)
  case atStart => exact ⟨0, 0, Nat.zero_le _, by omega, rfl, by go_num, fun _ => 0, _, heap_alloc_new w _, made_size _ _, fun i h1 h2 => by omega, by simp [sufV], (Grown.refl _).alloc _ _⟩
  case round =>
    obtain ⟨j, m, hj, hm, rfl, rfl, HI⟩ := hrel
    by_cases hlt : j < len
    · have et : (len : Int) - 1 - j = ((len - 1 - j : Nat) : Int) := by omega
      rw [et]
      clear et
      have tl : len - 1 - j < len := by omega
      have hd := unhide hD _ tl
      have GW : Hid (Grown w wr) := by obtain ⟨_, _, _, _, _, _, h⟩ := unhide HI; exact h
      obtain ⟨b, o, rfl, hc⟩ := ((unhide HR).grown (unhide GW)).at tl
      have R := hide (dbl_round (Nat.le_refl _) hlt (unhide HI) hd hm)
      obtain ⟨v, hv, hf⟩ : ∃ v, wr.cell? ⟨w.heap.size, len - 1 - j, none⟩ = some v ∧ wr.frozen? ⟨w.heap.size, len - 1 - j, none⟩ = false := by
        obtain ⟨O, cur, h1, h2, _⟩ := unhide HI
        exact ⟨cur[len - 1 - j]'(by omega), by rw [Blk.cell h1]; exact Array.getElem?_eq_getElem _, Blk.free h1 _⟩
      have ej : Hid (((len - 1 - j : Nat) : Int) = (len : Int) - 1 - j) := by unfold Hid; omega
      generalize len - 1 - j = t at *
      generalize D t = d at *
      have e1 : (((2 * d + m) % 10 : Nat) : Int) = (2 * (d : Int) + m) % 10 := by omega
      have e2 : (((2 * d + m) / 10 : Nat) : Int) = (2 * (d : Int) + m) / 10 := by omega
      rw [e1] at R
      have E2 := hide e2
      clear e1 e2 HI
      have d0 : (d : Int) ≤ 9 := by omega
      have m0 : (m : Int) ≤ 1 := by omega
      go_wp2
      go_roundw
      case rel => exact ⟨j + 1, (2 * d + m) / 10, by omega, by omega, by rw [unhide E2], by have := unhide ej; go_num, unhide R⟩
      case measure => have := unhide ej; simp [intOf] <;> omega
    · obtain rfl : len = j := by omega
      go_wp2
      go_ret2
      exact dbl_end hm rfl (unhide HI)

end Go.Proofs.YtnelkhmahmoclaaGreatDoor
