/- The helpers of stage 5's laws, and the walks of TextPuts and TextGets. -/
import Derived.Test.YtnelkhmahmoclaaGreatDoorTextP
import Derived.Test.YtnelkhmahmoclaaGreatDoorTextLineM
import Derived.Test.YtnelkhmahmoclaaGreatDoorKitA
namespace Go.Proofs.YtnelkhmahmoclaaGreatDoor
open Go.RowKit Go.Proofs.Wd
set_option linter.unusedVariables false
set_option linter.unusedSimpArgs false
set_option maxRecDepth 10000

theorem Kp.drewN {W w : World} (h : Kp W w) (n : Nat) : Kp W (w.drewN n) := h

set_option maxHeartbeats 400000 in
theorem lawGets (s : ByteArray) (want err : Int) (hs : s.size ≤ 1000000) (h : getR s.data.toList = (want, err)) (w : World) :
    Calls Tryz.prog 21 #[.string s, .int .i64 want, .int .i64 err] w fun e w' => e = .returned (.bool true) ∧ Kp w w' := by
  have P := hide (textGetT s hs w)
  rw [h] at P
  clear h
  go_enter Tryz.func21, Tryz.ntmps21
  go_wp2_with fail
  refine (unhide P).mono ?_
  rintro e w1 ⟨rfl, g1⟩
  go_wp2
  go_ret
  exact ⟨rfl, g1⟩

theorem put_one : putL 4294967296 = [49] := by
  unfold putL absF
  rw [wholeL_lt _ (by decide)]
  decide
theorem put_half : putL (-2147483648) = [45, 48, 46, 53] := by
  unfold putL absF
  rw [wholeL_lt _ (by decide)]
  decide

set_option maxHeartbeats 1000000 in
theorem lawAwake (w : World) : Calls Tryz.prog 9 #[] w fun e w' => e = .returned (.bool true) ∧ Kp w w' := by
  have P1 := hide (fun w => textPutT 4294967296 (by unfold I64; omega) w)
  have P2 := hide (fun w => textPutT (-2147483648) (by unfold I64; omega) w)
  rw [put_one] at P1
  rw [put_half] at P2
  have G1 := hide (fun w => lawGets ⟨#[49, 46, 53]⟩ 6442450944 0 (by decide) (by decide) w)
  have G2 := hide (fun w => lawGets ⟨#[48, 49]⟩ 0 5 (by decide) (by decide) w)
  go_enter Tryz.func9, Tryz.ntmps9
  go_wp2_with fail
  refine (unhide P1 _).mono ?_
  rintro e w1 ⟨rfl, k1⟩
  go_wp2_with fail
  refine (unhide P2 _).mono ?_
  rintro e w2 ⟨rfl, k2⟩
  go_wp2_with fail
  refine (unhide G1 _).mono ?_
  rintro e w3 ⟨rfl, k3⟩
  go_wp2_with fail
  refine (unhide G2 _).mono ?_
  rintro e w4 ⟨rfl, k4⟩
  have K := hide (((k1.trans k2).trans k3).trans k4)
  clear k1 k2 k3 k4
  go_wp2
  go_ret
  exact ⟨rfl, unhide K⟩

end Go.Proofs.YtnelkhmahmoclaaGreatDoor
