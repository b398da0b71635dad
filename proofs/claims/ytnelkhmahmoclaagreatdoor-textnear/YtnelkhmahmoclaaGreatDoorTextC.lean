/- The document's text: how many digits, whether all are 0, doubled digits. -/
import Derived.Test.YtnelkhmahmoclaaGreatDoorTextB
import Derived.Test.YtnelkhmahmoclaaGreatDoorTextNum
import Derived.Deep.OwnRows
namespace Go.Proofs.YtnelkhmahmoclaaGreatDoor
open Go.RowKit Go.Proofs.Wd
set_option linter.unusedVariables false
set_option linter.unusedSimpArgs false
set_option maxRecDepth 10000

theorem getD_byte (s : ByteArray) (k : Nat) (h : k < s.size) : s.data.toList.getD k 0 = s[k] := by
  have h' : k < s.data.toList.length := by simpa using h
  simp only [List.getD, List.getElem?_eq_getElem h', Option.getD_some]
  rfl

set_option maxHeartbeats 1000000 in
theorem refDigits (s : ByteArray) (hs : s.size ≤ 9223372036854775807) (w : World) :
    Calls Tryz.prog 44 #[.string s] w fun e w' => e = .returned (.int .i64 (nd s.data.toList : Int)) ∧ w' = w := by
  have hlen : s.data.toList.length = s.size := Array.length_toList
  have HL := hide hlen
  clear hlen
  obtain ⟨n, hn⟩ : ∃ n, nd s.data.toList = n := ⟨_, rfl⟩
  rw [hn]
  have HN := hide hn
  clear hn
  go_enter Tryz.func44, Tryz.ntmps44
  go_wp2
  go_loop [3] (fun i => ∃ k : Nat, k ≤ s.size ∧ i = .int .i64 k ∧ Hid (∀ i, i < k → isD (s.data.toList.getD i 0) = true)) (fun i => s.size - (intOf i).toNat)
  case atStart => exact ⟨0, Nat.zero_le _, rfl, fun i hi => absurd hi (Nat.not_lt_zero _)⟩
  case round =>
    obtain ⟨k, hk, rfl, HD⟩ := hrel
    by_cases hlt : k < s.size
    · have hb := getD_byte s k hlt
      by_cases d1 : 48 ≤ (s[k].toNat : Int)
      · by_cases d2 : (s[k].toNat : Int) ≤ 57
        · have R : Hid (∀ i, i < k + 1 → isD (s.data.toList.getD i 0) = true) := by
            intro i hi
            by_cases e : i = k
            · subst e; rw [hb]; unfold isD; simp; omega
            · exact unhide HD i (by omega)
          clear hb
          go_wp2
          go_round
          case rel => exact ⟨k + 1, by omega, by go_num, R⟩
          case measure => simp [intOf]; omega
        · have E : Hid (k = n) := by rw [← unhide HN]; exact (nd_eq _ k (by rw [unhide HL]; exact hk) (unhide HD) (Or.inr (by rw [hb]; unfold isD; simp; omega))).symm
          clear hb
          go_wp2
          go_ret
          exact ⟨by rw [← unhide E]; rfl, rfl⟩
      · have E : Hid (k = n) := by rw [← unhide HN]; exact (nd_eq _ k (by rw [unhide HL]; exact hk) (unhide HD) (Or.inr (by rw [hb]; unfold isD; simp; omega))).symm
        clear hb
        go_wp2
        go_ret
        exact ⟨by rw [← unhide E]; rfl, rfl⟩
    · have E : Hid (k = n) := by rw [← unhide HN]; exact (nd_eq _ k (by rw [unhide HL]; exact hk) (unhide HD) (Or.inl (by rw [unhide HL]; omega))).symm
      go_wp2
      go_ret
      exact ⟨by rw [← unhide E]; rfl, rfl⟩

/-- A row of bytes. -/
def RowB (w : World) (ao : Option Addr) (len : Nat) (D : Nat → Nat) : Prop :=
  len = 0 ∨ ∃ b o, ao = some ⟨b, o, none⟩ ∧ ∀ i, i < len → w.cell? ⟨b, o + i, none⟩ = some (.int .u8 (D i : Int))
theorem RowB.at {w : World} {ao : Option Addr} {len : Nat} {D : Nat → Nat} (h : RowB w ao len D) {k : Nat} (hk : k < len) : ∃ b o, ao = some ⟨b, o, none⟩ ∧ w.cell? ⟨b, o + k, none⟩ = some (.int .u8 (D k : Int)) := by
  rcases h with h | ⟨b, o, rfl, hc⟩
  · omega
  · exact ⟨b, o, rfl, hc k hk⟩
theorem RowB.grown {w w' : World} {ao : Option Addr} {len : Nat} {D : Nat → Nat} (h : RowB w ao len D) (m : Grown w w') : RowB w' ao len D := by
  rcases h with h | ⟨b, o, rfl, hc⟩
  · exact Or.inl h
  · exact Or.inr ⟨b, o, rfl, fun i hi => gat m (hc i hi)⟩

set_option maxHeartbeats 1000000 in
theorem refNought (ao : Option Addr) (len cap : Nat) (D : Nat → Nat) (hl : len ≤ 1000000) (hD : Hid (∀ i, i < len → D i ≤ 9)) (w : World) (hr : RowB w ao len D) :
    Calls Tryz.prog 45 #[.slice ao len cap] w fun e w' => e = .returned (.bool (decide (preV D len = 0))) ∧ w' = w := by
  have HR := hide hr
  clear hr
  obtain ⟨z, hz⟩ : ∃ z, decide (preV D len = 0) = z := ⟨_, rfl⟩
  rw [hz]
  have HZ := hide hz
  clear hz
  go_enter Tryz.func45, Tryz.ntmps45
  go_wp2
  go_loop [3] (fun i => ∃ k : Nat, k ≤ len ∧ i = .int .i64 k ∧ Hid (∀ i, i < k → D i = 0)) (fun i => len - (intOf i).toNat)
  case atStart => exact ⟨0, Nat.zero_le _, rfl, fun i hi => absurd hi (Nat.not_lt_zero _)⟩
  case round =>
    obtain ⟨k, hk, rfl, H0⟩ := hrel
    by_cases hlt : k < len
    · obtain ⟨b, o, rfl, hc⟩ := (unhide HR).at hlt
      by_cases d0 : D k = 0
      · have R : Hid (∀ i, i < k + 1 → D i = 0) := by
          intro i hi
          by_cases e : i = k
          · rw [e]; exact d0
          · exact unhide H0 i (by omega)
        rw [d0] at hc
        clear d0
        go_wp2
        go_round
        case rel => exact ⟨k + 1, by omega, by go_num, R⟩
        case measure => simp [intOf]; omega
      · have E : Hid (z = false) := by
          rw [← unhide HZ]
          simp only [decide_eq_false_iff_not]
          exact fun e => d0 (preV_zero D len e k hlt)
        have d1 : ¬ ((D k : Int) = 0) := by omega
        clear d0
        go_wp2
        go_ret
        exact ⟨by rw [unhide E]; rfl, rfl⟩
    · have E : Hid (z = true) := by
        rw [← unhide HZ]
        simp only [decide_eq_true_eq]
        exact zero_preV D len (fun i hi => unhide H0 i (by omega))
      go_wp2
      go_ret
      exact ⟨by rw [unhide E]; rfl, rfl⟩

end Go.Proofs.YtnelkhmahmoclaaGreatDoor
