/- The walk of TextOrder: greater numbers have greater decimals; a byte more. -/
import Derived.Test.YtnelkhmahmoclaaGreatDoorTextG
import Derived.Test.YtnelkhmahmoclaaGreatDoorTextLawM
namespace Go.Proofs.YtnelkhmahmoclaaGreatDoor
open Go.RowKit Go.Shelf Go.Proofs.Wd
set_option linter.unusedVariables false
set_option linter.unusedSimpArgs false
set_option maxRecDepth 10000

theorem u8_wf {x : Int} (h : (Lit.int .u8 x).wf = true) : 0 ≤ x ∧ x ≤ 255 := by
  simp [Lit.wf, IntKind.min, IntKind.max, IntKind.signed, IntKind.bits] at h
  exact ⟨by omega, by omega⟩
theorem str_ne {A B : ByteArray} (h : A.data.toList ≠ B.data.toList) : (A.toList == B.toList) = false := by
  rw [Lib.toList_data, Lib.toList_data]
  exact beq_eq_false_iff_ne.2 h
theorem one_conv (c : UInt8) (b : Nat) (w : World) (h : w.cell? ⟨b, 0, none⟩ = some (.int .u8 (c.toNat : Int))) : (convert 50 9 (.slice (some ⟨b, 0, none⟩) 1 1)).run Tryz.prog w = .ok (.string ⟨#[c]⟩) w :=
  pad_of (l := [c]) (K := 1) (b := b) (cap := 1) (w' := w) rfl (fun i hi => by
    obtain rfl : i = 0 := by omega
    exact h) w (Kp.refl _)

set_option maxRecDepth 20000 in
set_option maxHeartbeats 4000000 in
theorem lawTextOrder (a b z : Int) (ha : I64 a) (hb : I64 b) (hz : 0 ≤ z ∧ z ≤ 255) (w : World) : Calls Tryz.prog 8 #[.int .i64 a, .int .i64 b, .int .u8 z] w fun e w' => e = .returned (.bool true) ∧ Kp w w' := by
  by_cases c1 : a < -9223372036854775807
  · go_enter Tryz.func8, Tryz.ntmps8
    go_wp2_with fail
    refine (lawAwake _).mono ?_
    rintro e w1 ⟨rfl, k1⟩
    go_wp2
    go_ret
    exact ⟨rfl, k1⟩
  by_cases c2 : b < -9223372036854775807
  · go_enter Tryz.func8, Tryz.ntmps8
    go_wp2_with fail
    refine (lawAwake _).mono ?_
    rintro e w1 ⟨rfl, k1⟩
    go_wp2
    go_ret
    exact ⟨rfl, k1⟩
  obtain ⟨c, rfl⟩ : ∃ c : UInt8, z = (c.toNat : Int) := ⟨UInt8.ofNat z.toNat, by rw [UInt8.toNat_ofNat']; omega⟩
  have ra : -9223372036854775807 ≤ a ∧ a ≤ 9223372036854775807 := by unfold I64 at ha; omega
  have rb : -9223372036854775807 ≤ b ∧ b ≤ 9223372036854775807 := by unfold I64 at hb; omega
  have ga := get_put a ra.1 ra.2
  have gb := get_put b rb.1 rb.2
  have la := putL_len a ha
  have lb := putL_len b hb
  have PA := hide (fun w => textPutT a ha w)
  have PB := hide (fun w => textPutT b hb w)
  obtain ⟨SA, hSA⟩ : ∃ S : ByteArray, (⟨(putL a).toArray⟩ : ByteArray) = S := ⟨_, rfl⟩
  obtain ⟨SB, hSB⟩ : ∃ S : ByteArray, (⟨(putL b).toArray⟩ : ByteArray) = S := ⟨_, rfl⟩
  have dA : SA.data.toList = putL a := by rw [← hSA]
  have dB : SB.data.toList = putL b := by rw [← hSB]
  have zA : SA.size ≤ 60 := by rw [← hSA]; exact la
  have zB : SB.size ≤ 60 := by rw [← hSB]; exact lb
  have GA := hide (fun w => textGetT SA (by omega) w)
  have GB := hide (fun w => textGetT SB (by omega) w)
  rw [dA, ga] at GA
  rw [dB, gb] at GB
  rw [hSA] at PA
  rw [hSB] at PB
  obtain ⟨SC, hSC⟩ : ∃ S : ByteArray, (⟨(putL a ++ [c]).toArray⟩ : ByteArray) = S := ⟨_, rfl⟩
  have zC : SC.size ≤ 61 := by rw [← hSC]; show (putL a ++ [c]).length ≤ 61; simp; omega
  have dC : SC.data.toList = putL a ++ [c] := by rw [← hSC]
  have AC : ∀ w, (Op.stringOp .add SA ⟨#[c]⟩).run Tryz.prog w = .ok (.string SC) w := fun w => by
    rw [← hSA, ← hSC]
    exact str_add (putL a) [c] (by simp; omega) w
  have eqs : (a == b) = (SA.toList == SB.toList) := by
    by_cases e : a = b
    · subst e
      rw [← hSA, ← hSB]
      simp
    · have : SA.data.toList ≠ SB.data.toList := fun h => e (put_inj a b ra rb (by rw [← dA, ← dB]; exact h))
      rw [str_ne this]
      exact beq_eq_false_iff_ne.2 e
  have D := hide (And.intro dC zC)
  clear la lb ga gb hSA hSB hSC dA dB zA zB zC dC ra rb
  go_enter Tryz.func8, Tryz.ntmps8
  go_wp2_with fail
  refine (lawAwake _).mono ?_
  rintro e w1 ⟨rfl, k1⟩
  have S1 := hide k1
  clear k1
  go_wp2_with fail
  refine (unhide PA _).mono ?_
  rintro e w2 ⟨rfl, k2⟩
  have S2 := hide ((unhide S1).trans k2)
  clear k2 S1
  go_wp2_with fail
  refine (unhide GA _).mono ?_
  rintro e w3 ⟨rfl, k3⟩
  have S3 := hide ((unhide S2).trans k3)
  clear k3 S2
  go_wp2_with fail
  refine (unhide PB _).mono ?_
  rintro e w4 ⟨rfl, k4⟩
  have S4 := hide ((unhide S3).trans k4)
  clear k4 S3
  go_wp2_with fail
  refine (unhide GB _).mono ?_
  rintro e w5 ⟨rfl, k5⟩
  have S5 := hide ((unhide S4).trans k5)
  clear k5 S4 GA GB
  go_upto_region 6 with fail
  go_cut [32, 33, 34, 35, 36, 37, 38, 39, 40, 41, 42, 43, 44, 45, 46, 47, 48, 49, 50, 51, 52, 53, 54, 55, 56, 57] (fun s32 s33 s34 s35 s36 s37 s38 s39 s40 s41 s42 s43 s44 s45 s46 s47 s48 s49 s50 s51 s52 s53 s54 s55 s56 s57 wx => s57 = .bool false ∧ Kp w wx)
  case first =>
    have EQ := hide eqs
    clear AC D c1 c2 eqs
    by_cases hab : a < b
    · have hne : (a == b) = false := beq_eq_false_iff_ne.2 (by omega)
      go_wp2_with fail
      refine (unhide PA _).mono ?_
      rintro e w6 ⟨rfl, k6⟩
      go_wp2_with fail
      refine (unhide PB _).mono ?_
      rintro e w7 ⟨rfl, k7⟩
      go_wp2_with fail
      go_meet
      exact ⟨by rw [← unhide EQ, hne], ((unhide S5).trans k6).trans k7⟩
    · go_wp2_with fail
      refine (unhide PA _).mono ?_
      rintro e w6 ⟨rfl, k6⟩
      go_wp2_with fail
      refine (unhide PB _).mono ?_
      rintro e w7 ⟨rfl, k7⟩
      go_wp2_with fail
      go_meet
      exact ⟨by rw [← unhide EQ]; simp, ((unhide S5).trans k6).trans k7⟩
  case rest =>
    obtain ⟨rfl, k8⟩ := hcut
    have S8 := hide k8
    clear k8 S5 PB eqs
    by_cases d1 : 48 ≤ c.toNat ∧ c.toNat ≤ 57
    · have e1 : (48 : Int) ≤ (c.toNat : Int) := by omega
      have e2 : (c.toNat : Int) ≤ 57 := by omega
      clear d1 PA AC D
      go_wp2
      go_ret
      exact ⟨rfl, unhide S8⟩
    · have hD : isD c = false := decide_eq_false d1
      have GM := hide (fun w => lawGets SC 0 5 (by have := (unhide D).2; omega) (by rw [(unhide D).1]; exact get_more a c hD) w)
      clear D hD
      go_upto_region 8 with fail
      go_cut [58, 59, 60, 61, 62, 63] (fun s58 s59 s60 s61 s62 s63 wx => s63 = .bool false ∧ wc = wx)
      case first =>
        clear GM AC PA
        by_cases e1 : (48 : Int) ≤ (c.toNat : Int)
        · have e2 : ¬ (c.toNat : Int) ≤ 57 := by omega
          clear d1
          go_wp2_with fail
          go_meet
          exact ⟨by first | rfl | (rw [decide_eq_false e2]) | (simp <;> omega), rfl⟩
        · clear d1
          go_wp2_with fail
          go_meet
          exact ⟨by first | rfl | (rw [decide_eq_false e1]) | (simp <;> omega), rfl⟩
      case rest =>
        obtain ⟨rfl, rfl⟩ := hcut
        clear d1
        go_upto_region 10 with fail
        go_cut [6] (fun s6 wx => s6 = .bool true ∧ Kp w wx)
        case first =>
          have KD : Kp w wc.drew := (unhide S8).trans (Kp.of ((Grown.refl _).drew))
          have KE : Kp w (wc.alloc (.cells #[.int .u8 (c.toNat : Int)] 5)).drew := ((unhide S8).alloc _ _).trans (Kp.of ((Grown.refl _).drew))
          have cv0 : (convert 50 9 (.slice (some ⟨wc.heap.size, 0, none⟩) 1 1)).run Tryz.prog (wc.alloc (.cells #[.int .u8 (c.toNat : Int)] 5)).drew = .ok (.string ⟨#[c]⟩) (wc.alloc (.cells #[.int .u8 (c.toNat : Int)] 5)).drew := one_conv c wc.heap.size _ (Blk.cell (heap_alloc_new wc _) 0)
          go_region_held (fun _ => True) (trivial)
            (first
              | (go_at_call 11; refine (unhide PA _).mono ?_; rintro e w3 ⟨rfl, k3⟩; have cv1 := one_byte c w3; (try (have cv2 := one_conv c wc.heap.size w3 (k3.cell (b := wc.heap.size) (o := 0) (v := .int .u8 (c.toNat : Int)) (Blk.cell (heap_alloc_new wc _) 0)))))
              | (go_at_call 21; refine (unhide GM _).mono ?_; rintro e w5 ⟨rfl, k5⟩))
          all_goals go_wp2_with fail
          all_goals go_meet
          all_goals first
            | exact ⟨rfl, ((KD.trans k3).alloc _ _).trans k5⟩
            | exact ⟨rfl, (KE.trans k3).trans k5⟩
        case rest =>
          obtain ⟨rfl, k9⟩ := hcut
          go_wp2
          go_ret
          exact ⟨rfl, k9⟩
end Go.Proofs.YtnelkhmahmoclaaGreatDoor
