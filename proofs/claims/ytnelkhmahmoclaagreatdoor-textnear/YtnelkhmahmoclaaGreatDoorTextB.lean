/- The document's text: a line of decimals. -/
import Derived.Test.YtnelkhmahmoclaaGreatDoorTextA
import Derived.Test.YtnelkhmahmoclaaGreatDoorRowA
namespace Go.Proofs.YtnelkhmahmoclaaGreatDoor
open Go.RowKit Go.Proofs.Wd
set_option linter.unusedVariables false
set_option linter.unusedSimpArgs false
set_option maxRecDepth 10000

set_option maxHeartbeats 2000000 in
theorem refLineT (ao : Option Addr) (len cap : Nat) (Z : Nat → Int) (hl : len ≤ 1000000) (hZ : Hid (∀ i, i < len → I64 (Z i))) (w : World) (hr : Row w ao len Z) :
    Calls Tryz.prog 14 #[.slice ao len cap] w fun e w' => e = .returned (.string ⟨(lineL Z len).toArray⟩) ∧ Grown w w' := by
  have HR := hide hr
  clear hr
  obtain ⟨S0, hS0⟩ : ∃ S : ByteArray, S = ⟨(lineL Z len).toArray⟩ := ⟨_, rfl⟩
  rw [← hS0]
  have HS0 := hide hS0
  clear hS0
  go_enter Tryz.func14, Tryz.ntmps14
  go_wp2
  go_loopw [3, 4] (fun out i wr => ∃ (k : Nat) (S : ByteArray), k ≤ len ∧ i = .int .i64 k ∧ out = .string S ∧ Hid (S = ⟨(lineL Z k).toArray⟩ ∧ Grown w wr)) (fun _ i _ => len - (intOf i).toNat)
  case atStart => exact ⟨0, _, Nat.zero_le _, rfl, rfl, rfl, Grown.refl _⟩
  case round =>
    obtain ⟨k, S, hk, rfl, rfl, HU⟩ := hrel
    by_cases hlt : k < len
    · obtain ⟨b, o, rfl, hc⟩ := ((unhide HR).grown (unhide HU).2).at hlt
      have P1 := hide (fun w => refPutT (Z k) (unhide hZ k hlt) w)
      have hp := putL_len (Z k) (unhide hZ k hlt)
      have hq := lineL_len Z k (fun i hi => unhide hZ i (by omega))
      have E : Hid (lineL Z (k + 1) = lineL Z k ++ (if k = 0 then [] else [32]) ++ putL (Z k)) := rfl
      generalize Z k = x at *
      obtain ⟨SP, hSP⟩ : ∃ S : ByteArray, S = ⟨(putL x).toArray⟩ := ⟨_, rfl⟩
      rw [← hSP] at P1
      obtain ⟨S1, hS1⟩ : ∃ S : ByteArray, S = ⟨(lineL Z k ++ [32]).toArray⟩ := ⟨_, rfl⟩
      obtain ⟨S2, hS2⟩ : ∃ S : ByteArray, S = ⟨(lineL Z (k + 1)).toArray⟩ := ⟨_, rfl⟩
      have h1 : ∀ w, (Op.stringOp .add S ⟨#[32]⟩).run Tryz.prog w = .ok (.string S1) w := fun w => by
        rw [(unhide HU).1, hS1]
        exact str_add (lineL Z k) [32] (by simp; omega) w
      by_cases k0 : k = 0
      · have h2 : ∀ w, (Op.stringOp .add S SP).run Tryz.prog w = .ok (.string S2) w := fun w => by
          rw [(unhide HU).1, hSP, hS2, unhide E, if_pos k0, List.append_nil]
          exact str_add (lineL Z k) (putL x) (by omega) w
        have HS2 := hide hS2
        clear hS2 hSP hS1 h1
        subst k0
        rw [Nat.add_zero] at hc
        go_wp2_with fail
        refine (unhide P1 _).mono ?_
        rintro e w1 ⟨rfl, g1⟩
        have G1 := hide (gtrans (unhide HU).2 g1)
        clear g1
        go_wp2
        go_roundw
        case rel => exact ⟨0 + 1, S2, by omega, by go_num, rfl, unhide HS2, unhide G1⟩
        case measure => simp [intOf]; omega
      · have kp : 0 < k := by omega
        have h2 : ∀ w, (Op.stringOp .add S1 SP).run Tryz.prog w = .ok (.string S2) w := fun w => by
          rw [hS1, hSP, hS2, unhide E, if_neg k0]
          exact str_add (lineL Z k ++ [32]) (putL x) (by simp; omega) w
        have HS2 := hide hS2
        clear hS2 hSP hS1
        go_wp2_with fail
        refine (unhide P1 _).mono ?_
        rintro e w1 ⟨rfl, g1⟩
        have G1 := hide (gtrans (unhide HU).2 g1)
        clear g1
        go_wp2
        go_roundw
        case rel => exact ⟨k + 1, S2, by omega, by go_num, rfl, unhide HS2, unhide G1⟩
        case measure => simp [intOf]; omega
    · obtain rfl : k = len := by omega
      go_wp2
      go_ret
      exact ⟨by rw [unhide HS0, ← (unhide HU).1]; rfl, (unhide HU).2⟩

end Go.Proofs.YtnelkhmahmoclaaGreatDoor
