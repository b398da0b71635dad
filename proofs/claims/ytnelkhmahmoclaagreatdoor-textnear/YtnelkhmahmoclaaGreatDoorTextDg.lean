/- The helpers Pick and digits of stage 5's laws. -/
import Derived.Test.YtnelkhmahmoclaaGreatDoorTextG
import Derived.Test.YtnelkhmahmoclaaGreatDoorTextLawM
namespace Go.Proofs.YtnelkhmahmoclaaGreatDoor
open Go.RowKit Go.Shelf Go.Proofs.Wd
set_option linter.unusedVariables false
set_option linter.unusedSimpArgs false
set_option maxRecDepth 10000

theorem tmod_of (x n : Int) (hn : 0 < n) : (0 ≤ x.tmod n → x.tmod n = x % n) ∧ (x.tmod n < 0 → x.tmod n + n = x % n) ∧ -n < x.tmod n ∧ x.tmod n < n := by
  have e := @Int.tmod_eq_emod x n
  have h1 := Int.emod_nonneg x (show n ≠ 0 by omega)
  have h2 := Int.emod_lt_of_pos x hn
  have h3 : (n.natAbs : Int) = n := by omega
  rw [e]
  split <;> omega
theorem wrap_id (y : Int) (h : -9223372036854775808 ≤ y ∧ y ≤ 9223372036854775807) : wrap64 y = y := by
  unfold wrap64
  omega

set_option maxHeartbeats 1000000 in
theorem kitPick (x n : Int) (hx : I64 x) (hn : 0 < n ∧ n ≤ 4611686018427387904) (w : World) : Calls Tryz.prog 22 #[.int .i64 x, .int .i64 n] w fun e w' => e = .returned (.int .i64 (x % n)) ∧ Kp w w' := by
  obtain ⟨h0, h1⟩ := hn
  have c0 : ¬ n ≤ 0 := by omega
  have T := hide (tmod_of x n h0)
  unfold I64 at hx
  go_enter Tryz.func22, Tryz.ntmps22
  go_wp2
  · rename_i hh
    go_ret
    exact ⟨congrArg (fun v => Ending.returned (Value.int .i64 v)) ((wrap_id _ (by have := unhide T; omega)).trans ((unhide T).2.1 hh)), Kp.refl _⟩
  · rename_i hh
    go_ret
    exact ⟨congrArg (fun v => Ending.returned (Value.int .i64 v)) ((unhide T).1 hh), Kp.refl _⟩

/-- What stands ahead of a round of digits. -/
def DgI (n many : Nat) (w : World) (gk : Nat) (x0 x5 x6 : Value) (wr : World) : Prop :=
  ∃ (k : Nat) (S : ByteArray), x0 = .int .i64 ((shr k n : Nat) : Int) ∧ x5 = .string S ∧ S = ⟨(padL k n).toArray⟩ ∧ x6 = .int .i64 (k : Int) ∧ (k = 0 ∨ shr (k - 1) n ≠ 0 ∨ k ≤ max many 1) ∧ (shr k n + (max many 1 - k) < gk) ∧ Kp w wr
def DgP (n many : Nat) (w : World) (e : Ending) (w' : World) : Prop := ∃ K, WrK n (max many 1) K ∧ e = .returned (.string ⟨(padL K n).toArray⟩) ∧ Kp w w'
theorem padL_cons (k n : Nat) : padL (k + 1) n = chr (shr k n % 10) :: padL k n := by
  unfold padL
  rw [rdig_snoc]
  simp

set_option maxRecDepth 20000 in
set_option maxHeartbeats 2000000 in
theorem lawDigits (n many : Nat) (hn : n ≤ 9223372036854775807) (hm : many ≤ 100) (w : World) : Calls Tryz.prog 23 #[.int .i64 n, .int .i64 many] w fun e w' => DgP n many w e w' := by
  go_enter Tryz.func23, Tryz.ntmps23
  go_wp2
  go_loopg [0, 5, 6] (n + max many 1 + 1) (fun gk x0 x5 x6 wr => DgI n many w gk x0 x5 x6 wr)
  case atStart => exact ⟨0, ⟨#[]⟩, rfl, rfl, rfl, rfl, Or.inl rfl, by show n + (max many 1 - 0) < _; omega, Kp.refl _⟩
  case round =>
    obtain ⟨k, S, rfl, rfl, hS, rfl, q1, q2, kk⟩ := hrel
    have s19 : shr 19 n = 0 := shr_lt 19 n (by have : (10 : Nat) ^ 19 = 10000000000000000000 := by decide
                                               omega)
    have kb : k ≤ 100 := by
      rcases q1 with h | h | h
      · omega
      · rcases Nat.lt_or_ge (k - 1) 19 with c | c
        · omega
        · exact absurd (shr_ge 19 (k - 1) n c s19) h
      · omega
    have HM := hide (shr_step k n)
    have HP := hide (padL_cons k n)
    have HB : Hid (shr k n ≤ n) := shr_le k n
    have HS := hide hS
    have HQ := hide q1
    have HK := hide kk
    have Sz : S.size = k := by rw [hS]; exact padL_len k n
    clear s19 q1 kk hS
    by_cases hgo : k < many ∨ 0 < shr k n ∨ k = 0
    · have q3 : Hid (shr (k + 1) n + (max many 1 - (k + 1)) < gk - 1) := by
        show _ < _
        rw [unhide HM]
        omega
      have q4 : Hid (k + 1 = 0 ∨ shr (k + 1 - 1) n ≠ 0 ∨ k + 1 ≤ max many 1) := by
        rcases hgo with h | h | h
        · exact Or.inr (Or.inr (by omega))
        · exact Or.inr (Or.inl (by rw [Nat.add_sub_cancel]; omega))
        · exact Or.inr (Or.inr (by omega))
      have g0 : Hid (0 < gk) := by show 0 < gk; omega
      generalize hmm : shr k n = m at *
      have HMM := hide hmm
      clear hmm
      go_upto_region 3 with fail
      go_cut [7, 8, 9, 10, 11, 12, 13, 14, 15, 16, 17] (fun s7 s8 s9 s10 s11 s12 s13 s14 s15 s16 s17 wx => s17 = .bool true ∧ wr = wx)
      case first =>
        by_cases e1 : (k : Int) < (many : Int)
        · clear hgo
          go_wp2_with fail
          go_meet
          exact ⟨rfl, rfl⟩
        · by_cases e2 : (0 : Int) < (m : Int)
          · clear hgo
            go_wp2_with fail
            go_meet
            exact ⟨rfl, rfl⟩
          · obtain rfl : m = 0 := by omega
            have e3 : ((k : Int) == 0) = true := beq_iff_eq.2 (by omega)
            clear hgo
            go_wp2_with fail
            go_meet
            exact ⟨rfl, rfl⟩
      case rest =>
        obtain ⟨rfl, rfl⟩ := hcut
        clear hgo q2
        have hmn : m ≤ 9223372036854775807 := Nat.le_trans (unhide HB) hn
        obtain ⟨S2, hS2⟩ : ∃ S2 : ByteArray, (⟨(padL (k + 1) n).toArray⟩ : ByteArray) = S2 := ⟨_, rfl⟩
        have cn : ((chr (m % 10)).toNat : Int) = 48 + (m : Int) % 10 := by rw [chr_nat (m % 10) (by omega)]; omega
        have cv := one_byte (chr (m % 10)) wr
        rw [cn] at cv
        have ad : ∀ w, (Op.stringOp .add ⟨#[chr (m % 10)]⟩ S).run Tryz.prog w = .ok (.string S2) w := fun w => by
          rw [← hS2, unhide HP, unhide HS]
          exact str_add [chr (m % 10)] (padL k n) (by rw [padL_len]; simp; omega) w
        have HS2 := hide hS2
        clear hS2 cn
        go_wp2
        go_roundg (gk - 1)
        case rel =>
          refine ⟨k + 1, S2, ?_, rfl, (unhide HS2).symm, by go_num, unhide q4, unhide q3, (unhide HK).alloc _ _⟩
          rw [unhide HM]
          first | rfl | exact congrArg (Value.int .i64) (wrap10 _ (by omega))
        all_goals (have := unhide g0; omega)
    · have wk : Hid (WrK n (max many 1) k) := ⟨by omega, by omega, by
        rcases unhide HQ with h | h | h
        · omega
        · exact Or.inr h
        · left; omega⟩
      have e1 : ¬ (k : Int) < (many : Int) := by omega
      have e2 : shr k n = 0 := by omega
      have e3 : ((k : Int) == 0) = false := beq_eq_false_iff_ne.2 (by omega)
      clear hgo HQ q2 HM HB HP
      generalize shr k n = m at *
      subst e2
      go_wp2
      go_ret
      exact ⟨k, unhide wk, congrArg (fun v => Ending.returned (Value.string v)) (unhide HS), unhide HK⟩
theorem lawDigits0 (n : Nat) (hn : n ≤ 9223372036854775807) (w : World) : Calls Tryz.prog 23 #[.int .i64 n, .int .i64 0] w fun e w' => e = .returned (.string ⟨(wholeL n).toArray⟩) ∧ Kp w w' :=
  (lawDigits n 0 hn (by omega) w).mono fun e w' h => by
    obtain ⟨K, h1, h2, h3⟩ := h
    refine ⟨?_, h3⟩
    rw [h2, wr_whole K n h1]
theorem lawDigitsM (n many : Nat) (hn : n ≤ 9223372036854775807) (h1 : 1 ≤ many) (hm : many ≤ 100) (hp : n < 10 ^ many) (w : World) : Calls Tryz.prog 23 #[.int .i64 n, .int .i64 many] w fun e w' => e = .returned (.string ⟨(padL many n).toArray⟩) ∧ Kp w w' :=
  (lawDigits n many hn hm w).mono fun e w' h => by
    obtain ⟨K, k1, h2, h3⟩ := h
    have e0 : max many 1 = many := by omega
    rw [e0] at k1
    refine ⟨?_, h3⟩
    rw [h2, wr_pad k1 hp]

/-- A power of ten, behind a name. -/
def tenP (k : Nat) : Nat := 10 ^ k
theorem tenP_succ (k : Nat) : tenP (k + 1) = tenP k * 10 := Nat.pow_succ ..
theorem tenP_pos (k : Nat) : 0 < tenP k := Nat.pow_pos (by omega)
theorem tenP_le (k : Nat) (h : k ≤ 9) : tenP k ≤ 1000000000 := by
  have : (1000000000 : Nat) = 10 ^ 9 := by decide
  rw [this]
  exact Nat.pow_le_pow_right (by omega) h
theorem near_succ (h low many z : Nat) : nearL h low many (z + 1) = nearL h low many z ++ [48] := by
  unfold nearL
  rw [List.replicate_succ']
  simp
theorem near_len (h low many z : Nat) (hh : h < 2147483648) : (nearL h low many z).length ≤ 11 + many + z := by
  have := wholeL_len h 9 (by omega)
  unfold nearL
  rw [List.length_append, List.length_cons, List.length_append, padL_len, List.length_replicate]
  omega
end Go.Proofs.YtnelkhmahmoclaaGreatDoor
