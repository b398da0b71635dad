/- VecMost. -/
import Derived.Test.YtmdclpjbpkfckaaVecH
namespace Go.Proofs.Wd
/-- Is n 0, or the distance of one of the first k? -/
def isB (X : Nat → Int) (n : Int) : Nat → Bool
  | 0 => decide (n = 0)
  | k + 1 => isB X n k || decide (X k = n) || decide (-X k = n)
theorem isB_zero (X : Nat → Int) (n : Int) (h : n = 0) : ∀ k, isB X n k = true
  | 0 => by unfold isB; simp [h]
  | k + 1 => by unfold isB; rw [isB_zero X n h k]; rfl
theorem isB_at (X : Nat → Int) (n : Int) (i : Nat) (h : X i = n ∨ -X i = n) : ∀ k, i < k → isB X n k = true
  | 0, hi => absurd hi (Nat.not_lt_zero _)
  | k + 1, hi => by
    unfold isB
    by_cases e : i = k
    · subst e
      rcases h with h | h <;> simp [h]
    · rw [isB_at X n i h k (by omega)]
      rfl
theorem most_isB (X : Nat → Int) (len : Nat) (hX : ∀ i, i < len → I64 (X i) ∧ X i ≠ -9223372036854775808) : isB X (mostN X len) len = true := by
  rcases most_is X len with h | ⟨i, hi, h⟩
  · exact isB_zero X _ h _
  · refine isB_at X _ i ?_ len hi
    rw [h, farN_eq _ (hX i hi).1, if_neg (hX i hi).2]
    split
    · exact Or.inr rfl
    · exact Or.inl rfl
theorem most_far (X : Nat → Int) (len i : Nat) (hi : i < len) (h : I64 (X i)) (h2 : X i ≠ -9223372036854775808) : X i ≤ mostN X len ∧ -X i ≤ mostN X len := by
  have := most_ge X len i hi
  rw [farN_eq _ h, if_neg h2] at this
  split at this <;> omega
end Go.Proofs.Wd
namespace Go.Proofs.Ytmdclpjbpkfckaa
open Go.RowKit Go.Proofs.Wd
set_option linter.unusedVariables false
set_option linter.unusedSimpArgs false

set_option maxHeartbeats 4000000 in
theorem lawVecMost (ao : Option Addr) (len cap : Nat) (X : Nat → Int) (le1 : len ≤ cap) (lm1 : cap ≤ 9223372036854775807) (hX : Hid (∀ i, i < len → I64 (X i))) (w : World) (hr : Row w ao len X) :
    Calls Try.prog 8 #[.slice ao len cap] w fun e w' => e = .returned (.bool true) ∧ Kp w w' := by
  have HR := hide hr
  clear hr
  go_enter Try.func8, Try.ntmps8
  go_wp2_with fail
  refine (lawVecAwake w).mono ?_
  rintro e w1 ⟨rfl, k1⟩
  have K1 := hide k1
  clear k1
  go_wp2_with fail
  refine (unitNew w1).mono ?_
  rintro e w2 ⟨rfl, h2, g2⟩
  have hU : w.heap.size ≤ w1.heap.size := (unhide K1).2.2.2
  have S2 : Hid (UC w1.heap.size false 0 w2 ∧ Kp w w2 ∧ w.heap.size ≤ w1.heap.size) := ⟨h2, (unhide K1).grown g2, hU⟩
  clear h2 g2 hU K1
  generalize w1.heap.size = U at *
  by_cases hb1 : len ≤ 150
  · go_wp2_with fail
    refine (vecMost_ok U false 0 ao len cap X (by omega) ⟨by omega, by omega⟩ (unhide hX) w2 (unhide S2).1 ((unhide HR).kp (unhide S2).2.1) ((unhide HR).off (unhide S2).2.2)).mono ?_
    rintro e w3 ⟨rfl, u3, m3⟩
    have S3 : Hid (UC U (mostC X len) (0 + mostK X len) w3 ∧ Kp w w3) := by
      rw [Bool.false_or] at u3
      exact ⟨u3, (unhide S2).2.1.mod m3 (unhide S2).2.2⟩
    clear u3 m3 S2
    obtain ⟨n, en⟩ : ∃ n, mostN X len = n := ⟨_, rfl⟩
    rw [en]
    have hn0 : 0 ≤ n := by rw [← en]; exact mostN_ge0 X len
    have B0 : Hid (isB X n 0 = decide (n = 0)) := rfl
    have EN := hide en
    clear en
    go_wp2_with fail
    go_loopw [7, 8] (fun t i wr => ∃ k : Nat, k ≤ len ∧ i = .int .i64 k ∧ t = .bool (isB X n k) ∧ Hid ((∀ i, i < k → X i ≠ -9223372036854775808) ∧ wr = w3)) (fun _ i _ => len - (intOf i).toNat)
    case atStart => exact ⟨0, Nat.zero_le _, rfl, by rw [unhide B0]; rfl, fun i hi => absurd hi (Nat.not_lt_zero _), rfl⟩
    case round =>
      obtain ⟨k, hk, rfl, rfl, hq, rfl⟩ := hrel
      by_cases hlt : k < len
      · obtain ⟨b, o, rfl, hc⟩ := ((unhide HR).kp (unhide S3).2).at hlt
        have hI := unhide hX k hlt
        have hF : X k ≠ -9223372036854775808 → X k ≤ n ∧ -X k ≤ n := fun h => by rw [← unhide EN]; exact most_far X len k hlt hI h
        have E1 : Hid (isB X n (k + 1) = (isB X n k || decide (X k = n) || decide (-X k = n))) := rfl
        have HQ : Hid (∀ i, i < k → X i ≠ -9223372036854775808) := hq
        have HK : Hid (X k ≠ -9223372036854775808 → ∀ i, i < k + 1 → X i ≠ -9223372036854775808) := fun h i hi => by
          by_cases e : i = k
          · subst e; exact h
          · exact unhide HQ i (by omega)
        clear hq HQ
        generalize ep : isB X n (k + 1) = p at E1
        have EP := hide ep
        clear ep
        generalize isB X n k = q at *
        generalize X k = x at *
        unfold I64 at hI
        by_cases hmin : x = -9223372036854775808
        · subst hmin
          clear hF
          go_wp2
          go_ret
          exact ⟨rfl, (unhide S3).2⟩
        · have hf := hF hmin
          have hw : IntKind.i64.wrap (-x) = -x := by rw [IntKind.wrap_i64]; omega
          have HK2 : Hid (∀ i, i < k + 1 → X i ≠ -9223372036854775808) := unhide HK hmin
          have hge : -9223372036854775807 ≤ x := by omega
          clear hF HK
          cases q
          · by_cases e1 : x = n
            · have P : p = true := by rw [unhide E1]; simp [e1]
              subst P
              clear E1
              go_wp2
              go_roundw
              case rel => exact ⟨k + 1, by omega, by go_num, by rw [unhide EP]; first | done | rfl | simp [*], unhide HK2, by first | trivial | rfl⟩
              case measure => simp [intOf]; omega
            · by_cases e2 : -x = n
              · have P : p = true := by rw [unhide E1]; simp [e2]
                subst P
                clear E1
                go_wp2
                go_roundw
                case rel => exact ⟨k + 1, by omega, by go_num, by rw [unhide EP]; first | done | rfl | simp [*], unhide HK2, by first | trivial | rfl⟩
                case measure => simp [intOf]; omega
              · have P : p = false := by rw [unhide E1]; simp [e1, e2]
                subst P
                clear E1
                go_wp2
                go_roundw
                case rel => exact ⟨k + 1, by omega, by go_num, by rw [unhide EP]; first | done | rfl | simp [*], unhide HK2, by first | trivial | rfl⟩
                case measure => simp [intOf]; omega
          · have P : p = true := by rw [unhide E1]; rfl
            subst P
            clear E1
            go_wp2
            go_roundw
            case rel => exact ⟨k + 1, by omega, by go_num, by rw [unhide EP]; first | done | rfl | simp [*], unhide HK2, by first | trivial | rfl⟩
            case measure => simp [intOf]; omega
      · obtain rfl : k = len := by omega
        have T : isB X n k = true := by rw [← unhide EN]; exact most_isB X k (fun i hi => ⟨unhide hX i hi, hq i hi⟩)
        have F : Hid (UC U false (0 + mostK X k) wr) := by
          have := (unhide S3).1
          rw [mostC_false X k (fun i hi => ⟨unhide hX i hi, hq i hi⟩)] at this
          exact this
        rw [T]
        clear hq T
        go_wp2_with fail
        refine (unitCut U false _ wr (unhide F)).mono ?_
        rintro e w4 ⟨rfl, rfl⟩
        go_wp2
        go_ret
        exact ⟨rfl, (unhide S3).2⟩
  · have hb1' : ((150 : Int) < (len : Int)) := by omega
    go_wp2
    go_ret
    exact ⟨rfl, (unhide S2).2.1⟩

end Go.Proofs.Ytmdclpjbpkfckaa
