/- The program's Put. -/
import Derived.Test.YtnelkhmahmoclaaGreatDoorTextW
import Derived.Deep.RegionHeld3
import Derived.Deep.DeepCutAuto
namespace Go.Proofs.YtnelkhmahmoclaaGreatDoor
open Go.RowKit Go.Shelf Go.Proofs.Wd
set_option linter.unusedVariables false
set_option linter.unusedSimpArgs false
set_option maxRecDepth 10000

/-- A row of bytes that reads as a text, wherever it still lies. -/
def PadP (S : ByteArray) (w : World) (e : Ending) (w' : World) : Prop :=
  ∃ K b cap, e = .returned (.slice (some ⟨b, 0, none⟩) K cap) ∧ (∀ W, Kp w' W → (convert 50 9 (.slice (some ⟨b, 0, none⟩) K cap)).run Tryz.prog W = .ok (.string S) W) ∧ Kp w w'
theorem pad_of {l : List UInt8} {K b cap : Nat} {w' : World} (hl : l.length = K) (h : ∀ i, i < K → w'.cell? ⟨b, 0 + i, none⟩ = some (.int .u8 ((l.getD i 0).toNat : Int))) :
    ∀ W, Kp w' W → (convert 50 9 (.slice (some ⟨b, 0, none⟩) K cap)).run Tryz.prog W = .ok (.string ⟨l.toArray⟩) W := by
  intro W k
  subst hl
  exact run_convert_bytes_back (P := Tryz.prog) W 50 9 5 ⟨b, 0, none⟩ cap l Tryz.underlying50 Tryz.underlying5 Tryz.underlying9 (fun j hj => by
    have e : (⟨b, 0, none⟩ : Addr).add j = ⟨b, 0 + j, none⟩ := by unfold Addr.add; split <;> simp_all
    rw [e, k.cell (h j hj)]
    simp [List.getD, List.getElem?_eq_getElem hj])
theorem lt16 {A : Nat} (h : A < 10000000000000000) : A < 10 ^ 16 := by
  have e : (10 : Nat) ^ 16 = 10000000000000000 := by decide
  rw [e]
  exact h
theorem textPad (A : Nat) (hA : A < 10000000000000000) (w : World) : Calls Tryz.prog 32 #[.int .i64 A, .int .i64 16] w fun e w' => PadP ⟨(padL 16 A).toArray⟩ w e w' :=
  (textWritten A 16 (by omega) (by omega) (by omega) w).mono fun e w' h => by
    obtain ⟨K, b, cap, h1, h2, h3, h4, h5⟩ := h
    obtain rfl : K = 16 := wr_pad h1 (lt16 hA)
    exact ⟨16, b, cap, h3, pad_of (padL_len _ _) h4, h5⟩
theorem textWhole (A : Nat) (hA : A ≤ 9223372036854775807) (w : World) : Calls Tryz.prog 32 #[.int .i64 A, .int .i64 1] w fun e w' => PadP ⟨(wholeL A).toArray⟩ w e w' :=
  (textWritten A 1 hA (by omega) (by omega) w).mono fun e w' h => by
    obtain ⟨K, b, cap, h1, h2, h3, h4, h5⟩ := h
    refine ⟨K, b, cap, h3, ?_, h5⟩
    rw [← wr_whole K A h1]
    exact pad_of (padL_len _ _) h4

def cutQ (r : Nat) : Nat := r * 10000000000000000 / 4294967296
def cutM (r : Nat) : Nat := r * 10000000000000000 % 4294967296
theorem cutQ_lt (r : Nat) (h : r ≤ 4294967295) : cutQ r < 10000000000000000 := by unfold cutQ; omega
theorem cutM_le (r : Nat) : cutM r ≤ 4294967295 := by unfold cutM; omega
theorem mod_le (r : Nat) : r % 4294967296 ≤ 4294967295 := by omega
theorem cut_run (p : Nat) (hp : p ≤ 4294967295) (w : World) : Calls Tryz.prog 30 #[.int .i64 p] w fun e w' => e = .returned (.tuple #[.int .i64 (cutQ p : Int), .int .i64 (cutM p : Int)]) ∧ Grown w w' := textCutRun p hp w
theorem trim_cut (r : Nat) (h : r ≤ 4294967295) : Lib.trimRightB (padL 16 (cutQ r) ++ padL 16 (cutQ (cutM r))) 48 = fracL 32 r := trim_pad r (Nat.lt_succ_of_le h)
theorem modc (f : Nat) : ((f % 4294967296 : Nat) : Int) = (f : Int) % 4294967296 := by omega
theorem divc (f : Nat) (h : f ≤ 9223372036854775807) : ((f / 4294967296 : Nat) : Int) = wrap64 ((f : Int) / 4294967296) := by
  unfold wrap64
  simp [IntKind.wrap, IntKind.signed, IntKind.bits]
  omega

set_option maxHeartbeats 800000 in
theorem textPutT (a : Int) (h : I64 a) (w : World) : Calls Tryz.prog 11 #[.int .i64 a] w fun e w' => e = .returned (.string ⟨(putL a).toArray⟩) ∧ Kp w w' := by
  have NG := hide (fun w => fixNeg a h w)
  have hneg : a < 0 → fitI (tk 0 - tk a) = (absF a : Int) := fun h0 => by
    unfold absF
    rw [if_pos h0]
    unfold I64 at h
    unfold fitI tk
    rw [if_neg (show ¬ (0 : Int) = -9223372036854775808 by omega)]
    by_cases c : a = -9223372036854775808
    · subst c
      decide
    · rw [if_neg c, if_neg (by omega), if_neg (by omega), if_neg (by omega)]
      omega
  have hpos : ¬ a < 0 → a = (absF a : Int) := fun h0 => by
    unfold absF
    rw [if_neg h0]
    omega
  have hF : absF a ≤ 9223372036854775807 := by
    unfold I64 at h
    unfold absF
    split
    · split <;> omega
    · omega
  obtain ⟨SG, hSG⟩ : ∃ SG : ByteArray, SG = ⟨(if a < 0 then [45] else [] : List UInt8).toArray⟩ := ⟨_, rfl⟩
  have HSG := hide hSG
  obtain ⟨R, hR⟩ : ∃ R : ByteArray, (⟨(putL a).toArray⟩ : ByteArray) = R := ⟨_, rfl⟩
  have HR := hide hR
  rw [hR]
  clear hSG hR
  unfold putL at HR
  generalize hf : absF a = f at *
  clear hf
  have C1 := hide (fun w => cut_run (f % 4294967296) (mod_le f) w)
  have C2 := hide (fun w => cut_run (cutM (f % 4294967296)) (cutM_le _) w)
  have W1 := hide (fun w => textPad _ (cutQ_lt (f % 4294967296) (mod_le f)) w)
  have W2 := hide (fun w => textPad _ (cutQ_lt (cutM (f % 4294967296)) (cutM_le _)) w)
  have W3 := hide (fun w => textWhole (f / 4294967296) (Nat.le_trans (Nat.div_le_self _ _) hF) w)
  have TP := hide (trim_cut (f % 4294967296) (mod_le f))
  have QB : Hid (f / 4294967296 < 18446744073709551616) := Nat.lt_of_le_of_lt (Nat.div_le_self _ _) (Nat.lt_of_le_of_lt hF (by decide))
  have HF := hide hF
  rw [modc f] at C1
  rw [divc f hF] at W3
  generalize f % 4294967296 = r at *
  generalize f / 4294967296 = q at *
  generalize cutQ (cutM r) = C at *
  generalize cutM (cutM r) = D at *
  generalize cutQ r = A at *
  generalize cutM r = B at *
  obtain ⟨SA, hSA⟩ : ∃ SA : ByteArray, (⟨(padL 16 A).toArray⟩ : ByteArray) = SA := ⟨_, rfl⟩
  obtain ⟨SC, hSC⟩ : ∃ SC : ByteArray, (⟨(padL 16 C).toArray⟩ : ByteArray) = SC := ⟨_, rfl⟩
  obtain ⟨SW, hSW⟩ : ∃ SW : ByteArray, (⟨(wholeL q).toArray⟩ : ByteArray) = SW := ⟨_, rfl⟩
  obtain ⟨SD, hSD⟩ : ∃ SD : ByteArray, (⟨(padL 16 A ++ padL 16 C).toArray⟩ : ByteArray) = SD := ⟨_, rfl⟩
  obtain ⟨SF, hSF⟩ : ∃ SF : ByteArray, (⟨(fracL 32 r).toArray⟩ : ByteArray) = SF := ⟨_, rfl⟩
  have a1 : ∀ w, (Op.stringOp .add SA SC).run Tryz.prog w = .ok (.string SD) w := fun w => by
    rw [← hSA, ← hSC, ← hSD]
    exact str_add _ _ (by rw [padL_len, padL_len]; omega) w
  have T1 : Hid (∀ w, Calls Tryz.prog 31 #[.string SD, .string ⟨#[48]⟩] w fun e w' => e = .returned (.string SF) ∧ w' = w) := fun w => by
    have t := libTrim0 SD (by rw [← hSD]; show (padL 16 A ++ padL 16 C).length ≤ _; rw [List.length_append, padL_len, padL_len]; omega) w
    rw [← hSF, ← unhide TP]
    rw [← hSD] at t ⊢
    exact t
  rw [hSA] at W1
  rw [hSC] at W2
  rw [hSW] at W3
  have HX := hide (And.intro hSW hSF)
  clear hSA hSC hSW hSD hSF TP h hF
  go_enter Tryz.func11, Tryz.ntmps11
  go_upto_if 12 with fail
  go_cut [3, 4] (fun s3 s4 wx => s3 = .int .i64 (f : Int) ∧ s4 = .string SG ∧ Grown w wx)
  case first =>
    by_cases h0 : a < 0
    · have e1 := hneg h0
      have e2 : Hid (SG = ⟨#[45]⟩) := by
        have := unhide HSG
        rw [if_pos h0] at this
        exact this
      rw [e1] at NG
      clear hneg hpos e1 W1 W2 W3 C1 C2 T1 HX HR
      go_wp2_with fail
      refine (unhide NG _).mono ?_
      rintro e w1 ⟨rfl, g1⟩
      go_wp2
      go_meet
      exact ⟨rfl, by rw [unhide e2], g1⟩
    · have e1 := hide (hpos h0)
      have e2 : Hid (SG = ⟨#[]⟩) := by
        have := unhide HSG
        rw [if_neg h0] at this
        exact this
      clear hneg hpos W1 W2 W3 C1 C2 T1 HX HR NG
      go_wp2
      go_meet
      exact ⟨by rw [← unhide e1], by rw [unhide e2], Grown.refl _⟩
  case rest =>
    obtain ⟨rfl, rfl, g0⟩ := hcut
    clear hneg hpos NG
    go_wp2_with fail
    refine (unhide C1 _).mono ?_
    rintro e w1 ⟨rfl, g1⟩
    go_wp2_with fail
    refine (unhide C2 _).mono ?_
    rintro e w2 ⟨rfl, g2⟩
    have k2 := hide (Kp.of (gtrans (gtrans g0 g1) g2))
    clear g0 g1 g2 C1 C2
    go_upto_region 7 with fail
    go_cut [9] (fun s9 wx => s9 = .string SF ∧ Kp w wx)
    case first =>
      go_region_held (fun _ => True) (trivial)
        (first
          | (go_at_call_of 32 A; refine (unhide W1 _).mono ?_; rintro e w3 ⟨K3, b3, c3, rfl, v3, k3⟩; have V3 := hide v3; have v30 := v3 _ (Kp.refl _); clear v3; (try (have v43 := unhide V4 _ k3)); have kk3 := k3)
          | (go_at_call_of 32 C; refine (unhide W2 _).mono ?_; rintro e w4 ⟨K4, b4, c4, rfl, v4, k4⟩; have V4 := hide v4; have v40 := v4 _ (Kp.refl _); clear v4; (try (have v34 := unhide V3 _ k4)); have kk4 := k4)
          | (go_at_call 31; refine (unhide T1 _).mono ?_; rintro e w5 ⟨rfl, rfl⟩))
      all_goals go_wp2_with fail
      all_goals go_meet
      all_goals refine ⟨rfl, ?_⟩
      all_goals first | exact (((unhide k2).trans (Kp.of ((Grown.refl _).drew))).trans k3).trans k4 | exact (((unhide k2).trans (Kp.of ((Grown.refl _).drew))).trans k4).trans k3
    case rest =>
      obtain ⟨rfl, k5⟩ := hcut
      clear W1 W2 T1 k2
      have K5 := hide k5
      clear k5
      by_cases hr0 : r = 0
      · have e0 : SF = ⟨#[]⟩ := by
          have := (unhide HX).2
          rw [hr0, fracL_zero] at this
          exact this.symm
        subst e0
        have a2 : ∀ w, (Op.stringOp .add SG SW).run Tryz.prog w = .ok (.string R) w := fun w => by
          have h1 := unhide HR
          have h2 := (unhide HX).1
          have h3 := unhide HSG
          rw [if_pos hr0, List.append_nil] at h1
          rw [h3, ← h2, ← h1]
          exact str_add _ _ (by have := wholeL_len20 q (unhide QB); split <;> simp <;> omega) w
        have a3 : ∀ w, (Op.stringOp .add R ⟨#[]⟩).run Tryz.prog w = .ok (.string R) w := fun w => by
          rw [← unhide HR]
          have := str_add ((if a < 0 then [45] else []) ++ wholeL q ++ (if r = 0 then [] else 46 :: fracL 32 r)) [] (by have := wholeL_len20 q (unhide QB); have := fracL_len 32 r; simp only [List.length_append]; split <;> (try split) <;> simp <;> omega) w
          rw [List.append_nil] at this
          exact this
        clear HR HX HSG
        go_wp2_with fail
        refine (unhide W3 _).mono ?_
        rintro e w6 ⟨K6, b6, c6, rfl, v6, k6⟩
        have v60 := v6 _ (Kp.refl _)
        have K7 := hide ((unhide K5).trans k6)
        clear v6 W3 k6 K5
        go_wp2
        go_ret
        exact ⟨rfl, unhide K7⟩
      · obtain ⟨SP, hSP⟩ : ∃ SP : ByteArray, SP = ⟨(46 :: fracL 32 r).toArray⟩ := ⟨_, rfl⟩
        obtain ⟨SX, hSX⟩ : ∃ SX : ByteArray, SX = ⟨((if a < 0 then [45] else []) ++ wholeL q).toArray⟩ := ⟨_, rfl⟩
        have a4 : ∀ w, (Op.stringOp .add ⟨#[46]⟩ SF).run Tryz.prog w = .ok (.string SP) w := fun w => by
          rw [hSP, ← (unhide HX).2]
          exact str_add [46] (fracL 32 r) (by have := fracL_len 32 r; simp; omega) w
        have a5 : ∀ w, (Op.stringOp .add SG SW).run Tryz.prog w = .ok (.string SX) w := fun w => by
          rw [hSX, unhide HSG, ← (unhide HX).1]
          exact str_add _ _ (by have := wholeL_len20 q (unhide QB); split <;> simp <;> omega) w
        have a6 : ∀ w, (Op.stringOp .add SX SP).run Tryz.prog w = .ok (.string R) w := fun w => by
          have h1 := unhide HR
          rw [if_neg hr0] at h1
          rw [hSX, hSP, ← h1]
          exact str_add _ _ (by have := wholeL_len20 q (unhide QB); have := fracL_len 32 r; simp only [List.length_append, List.length_cons]; split <;> simp <;> omega) w
        have em : SF.toList.isEmpty = false := by
          rw [← (unhide HX).2, Lib.toList_data]
          have := frac_pos 31 r hr0
          show (fracL 32 r).isEmpty = false
          cases h : fracL 32 r with
          | nil => rw [h] at this; simp at this
          | cons _ _ => rfl
        clear HR HX HSG hSP hSX
        go_wp2_with fail

        refine (unhide W3 _).mono ?_
        rintro e w6 ⟨K6, b6, c6, rfl, v6, k6⟩
        have v60 := v6 _ (Kp.refl _)
        have K7 := hide ((unhide K5).trans k6)
        clear v6 W3 k6 K5
        go_wp2
        go_ret
        exact ⟨rfl, unhide K7⟩
end Go.Proofs.YtnelkhmahmoclaaGreatDoor
