/- The program's Get, and what it calls. -/
import Derived.Test.YtnelkhmahmoclaaGreatDoorTextX
import Derived.Test.YtnelkhmahmoclaaGreatDoorDiv64
import Derived.Test.YtnelkhmahmoclaaGreatDoorWideV
namespace Go.Proofs.YtnelkhmahmoclaaGreatDoor
open Go.RowKit Go.Shelf Go.Proofs.Wd
set_option linter.unusedVariables false
set_option linter.unusedSimpArgs false
set_option maxRecDepth 10000

theorem emp_false {S : ByteArray} (h : S.data.toList ≠ []) : S.toList.isEmpty = false := by
  rw [Lib.toList_data]
  cases hh : S.data.toList with
  | nil => exact absurd hh h
  | cons _ _ => rfl
theorem emp_of {S : ByteArray} (h : S.data.toList = []) : S = ⟨#[]⟩ := by
  have : S = ⟨S.data.toList.toArray⟩ := rfl
  rw [this, h]

set_option maxHeartbeats 400000 in
theorem textIsDigits (S : ByteArray) (most : Nat) (hs : S.size ≤ 1000000) (hm : most ≤ 1000) (w : World) : Calls Tryz.prog 39 #[.string S, .int .i64 most] w fun e w' => e = .returned (.bool (okD S.data.toList most)) ∧ Kp w w' := by
  have hsz : S.data.toList.length = S.size := by rw [Array.length_toList]; rfl
  by_cases h0 : S.data.toList = []
  · obtain rfl := emp_of h0
    have e : okD (⟨#[]⟩ : ByteArray).data.toList most = false := rfl
    rw [e]
    clear h0 hsz e
    go_enter Tryz.func39, Tryz.ntmps39
    go_wp2
    go_ret
    exact ⟨rfl, Kp.refl _⟩
  · have em := emp_false h0
    by_cases h1 : S.size ≤ most
    · have T := hide (libTrim S hs w)
      have c1 : (S.size : Int) ≤ (most : Int) := by omega
      by_cases h2 : S.data.toList.all isD = true
      · have e : okD S.data.toList most = true := by
          unfold okD
          rw [h2, hsz, decide_eq_true h0, decide_eq_true h1]
          rfl
        rw [(trim_all S.data.toList).2 h2] at T
        rw [e]
        clear h0 hsz e h2
        go_enter Tryz.func39, Tryz.ntmps39
        go_wp2_with fail
        refine (unhide T).mono ?_
        rintro e w1 ⟨rfl, k1⟩
        go_wp2
        go_ret
        exact ⟨rfl, k1⟩
      · have e : okD S.data.toList most = false := by
          unfold okD
          have : S.data.toList.all isD = false := by simpa using h2
          rw [this]
          simp
        have ne : Lib.trimS S.data.toList digitsL ≠ [] := fun c => h2 ((trim_all S.data.toList).1 c)
        rw [e]
        obtain ⟨R, hR⟩ : ∃ R : ByteArray, (⟨(Lib.trimS S.data.toList digitsL).toArray⟩ : ByteArray) = R := ⟨_, rfl⟩
        rw [hR] at T
        have em2 : R.toList.isEmpty = false := emp_false (by rw [← hR]; exact ne)
        clear h0 hsz e h2 hR ne
        go_enter Tryz.func39, Tryz.ntmps39
        go_wp2_with fail
        refine (unhide T).mono ?_
        rintro e w1 ⟨rfl, k1⟩
        go_wp2
        go_ret
        exact ⟨rfl, k1⟩
    · have e : okD S.data.toList most = false := by
        unfold okD
        rw [hsz, decide_eq_false h1]
        simp
      have c1 : ¬ (S.size : Int) ≤ (most : Int) := by omega
      rw [e]
      clear h0 hsz e
      go_enter Tryz.func39, Tryz.ntmps39
      go_wp2
      go_ret
      exact ⟨rfl, Kp.refl _⟩

set_option maxHeartbeats 400000 in
theorem textIsWhole (S : ByteArray) (hs : S.size ≤ 1000000) (w : World) : Calls Tryz.prog 38 #[.string S] w fun e w' => e = .returned (.bool (okW S.data.toList)) ∧ Kp w w' := by
  have D := hide (textIsDigits S 10 hs (by omega) w)
  have hsz : S.data.toList.length = S.size := by rw [Array.length_toList]; rfl
  cases hd : okD S.data.toList 10 with
  | false =>
    have e : okW S.data.toList = false := by unfold okW; rw [hd]; rfl
    rw [e]
    rw [hd] at D
    clear e hd
    go_enter Tryz.func38, Tryz.ntmps38
    go_wp2_with fail
    refine (unhide D).mono ?_
    rintro e w1 ⟨rfl, k1⟩
    go_wp2
    go_ret
    exact ⟨rfl, k1⟩
  | true =>
    have h0 : S.data.toList ≠ [] := by
      intro c
      rw [c] at hd
      cases hd
    have hp : 0 < S.size := by rw [← hsz]; exact List.length_pos_iff.2 h0
    rw [hd] at D
    by_cases h1 : S.data.toList = [48]
    · have e : okW S.data.toList = true := by unfold okW; rw [hd, h1]; rfl
      rw [e]
      obtain rfl : S = ⟨#[48]⟩ := by
        have : S = ⟨S.data.toList.toArray⟩ := rfl
        rw [this, h1]
      clear e hd h1 h0 hsz hp
      go_enter Tryz.func38, Tryz.ntmps38
      go_wp2_with fail
      refine (unhide D).mono ?_
      rintro e w1 ⟨rfl, k1⟩
      go_wp2
      go_ret
      exact ⟨rfl, k1⟩
    · have h2 : ¬ S.toList = [48] := by rw [Lib.toList_data]; exact h1
      have h3 : (S.toList == [48]) = false := by simpa using h2
      have E : Hid (okW S.data.toList = (((S[0]'hp).toNat : Int) != 48)) := by
        show _ = _
        unfold okW
        rw [hd, decide_eq_false h1]
        have e : S.data.toList.getD 0 0 = S[0]'hp := by
          have hl : 0 < S.data.toList.length := by omega
          simp only [List.getD, List.getElem?_eq_getElem hl, Option.getD_some]
          rfl
        rw [e]
        have h48 : (48 : UInt8).toNat = 48 := rfl
        by_cases c : S[0]'hp = 48
        · have : (((S[0]'hp).toNat : Int) != 48) = false := by rw [c]; rfl
          rw [this]
          simp [c]
        · have c2 : (S[0]'hp).toNat ≠ 48 := fun e2 => c (UInt8.toNat_inj.1 e2)
          have : (((S[0]'hp).toNat : Int) != 48) = true := bne_iff_ne.2 (by omega)
          rw [this]
          simp [c]
      have D2 : Hid (Calls Tryz.prog 39 #[.string S, .int .i64 10] w fun e w' => e = .returned (.bool true) ∧ Kp w w') := unhide D
      clear D hd h0 h1 hsz
      go_enter Tryz.func38, Tryz.ntmps38
      go_wp2_with fail
      refine (unhide D2).mono ?_
      rintro e w1 ⟨rfl, k1⟩
      go_wp2
      go_ret
      rw [unhide E]
      exact ⟨by simp [h3], k1⟩

set_option maxHeartbeats 400000 in
theorem textNumber (S : ByteArray) (h0 : S.data.toList ≠ []) (hd : S.data.toList.all isD = true) (hl : S.size ≤ 18) (w : World) : Calls Tryz.prog 40 #[.string S] w fun e w' => e = .returned (.int .i64 (numL S.data.toList : Int)) ∧ Kp w w' := by
  have A := hide (libAtoi S _ hl (atoi_num _ h0 hd) w)
  generalize numL S.data.toList = n at *
  clear h0 hd
  go_enter Tryz.func40, Tryz.ntmps40
  go_wp2_with fail
  refine (unhide A).mono ?_
  rintro e w1 ⟨rfl, k1⟩
  go_wp2
  go_ret
  exact ⟨rfl, k1⟩

/-- How many times 10^-32. -/
def fracN (l : List UInt8) : Nat := numL l * 10 ^ (32 - l.length)
theorem rep_one (c : Nat) : Lib.repeatL [48] c = List.replicate c 48 := by
  induction c with
  | zero => rfl
  | succ c ih => rw [Lib.repeatL, ih, List.replicate_succ]; rfl

set_option maxHeartbeats 800000 in
theorem textFraction (S : ByteArray) (hl : S.size ≤ 32) (hd : S.data.toList.all isD = true) (w : World) : Calls Tryz.prog 41 #[.string S] w fun e w' => e = .returned (.agg #[.int .i64 (hiOf (fracN S.data.toList : Int)), .int .u64 (loOf (fracN S.data.toList : Int))]) ∧ Kp w w' := by
  have hsz : S.data.toList.length = S.size := by rw [Array.length_toList]; rfl
  obtain ⟨p, hp⟩ : ∃ p, p = S.data.toList ++ List.replicate (32 - S.data.toList.length) 48 := ⟨_, rfl⟩
  have hpl : p.length = 32 := by rw [hp]; simp; omega
  have hpd : p.all isD = true := by
    rw [hp, List.all_append, hd]
    simp [isD]
  have hN := num_runs S.data.toList p (by omega) hp
  obtain ⟨P, hP⟩ : ∃ P : ByteArray, P = ⟨p.toArray⟩ := ⟨_, rfl⟩
  have hPs : P.size = 32 := by rw [hP]; exact hpl
  have d1 : (p.take 16).all isD = true := by
    rw [List.all_eq_true] at hpd ⊢
    exact fun x hx => hpd x (List.mem_of_mem_take hx)
  have d2 : (p.drop 16).all isD = true := by
    rw [List.all_eq_true] at hpd ⊢
    exact fun x hx => hpd x (List.mem_of_mem_drop hx)
  have x1 : P.extract 0 16 = ⟨(p.take 16).toArray⟩ := by rw [ext_to P 16 (by omega), hP]
  have x2 : P.extract 16 P.size = ⟨(p.drop 16).toArray⟩ := by rw [ext_from P 16, hP]
  obtain ⟨P1, hP1⟩ : ∃ P1 : ByteArray, P1 = ⟨(p.take 16).toArray⟩ := ⟨_, rfl⟩
  obtain ⟨P2, hP2⟩ : ∃ P2 : ByteArray, P2 = ⟨(p.drop 16).toArray⟩ := ⟨_, rfl⟩
  have N1 := hide (fun w => textNumber P1 (by rw [hP1]; show p.take 16 ≠ []; intro c; have := congrArg List.length c; simp [hpl] at this) (by rw [hP1]; exact d1) (by rw [hP1]; show (p.take 16).length ≤ _; simp; omega) w)
  have N2 := hide (fun w => textNumber P2 (by rw [hP2]; show p.drop 16 ≠ []; intro c; have := congrArg List.length c; simp [hpl] at this) (by rw [hP2]; exact d2) (by rw [hP2]; show (p.drop 16).length ≤ _; simp; omega) w)
  have b1 : numL (p.take 16) < 10000000000000000 := by
    have := num_lt _ d1
    have e : (p.take 16).length = 16 := by simp; omega
    rw [e] at this
    exact this
  have b2 : numL (p.drop 16) < 10000000000000000 := by
    have := num_lt _ d2
    have e : (p.drop 16).length = 16 := by simp; omega
    rw [e] at this
    exact this
  rw [show P1.data.toList = p.take 16 by rw [hP1]] at N1
  rw [show P2.data.toList = p.drop 16 by rw [hP2]] at N2
  have a1 : ∀ w, (Op.stringOp .add S ⟨(List.replicate (32 - S.data.toList.length) 48).toArray⟩).run Tryz.prog w = .ok (.string P) w := fun w => by
    rw [hP, hp]
    exact str_add S.data.toList _ (by rw [List.length_replicate]; omega) w
  have RP := hide (fun w => libRepeat ⟨#[48]⟩ (32 - S.data.toList.length) (by omega) (by decide) w)
  rw [show (⟨#[48]⟩ : ByteArray).data.toList = [48] from rfl, rep_one] at RP
  obtain ⟨Z, hZ⟩ : ∃ Z : ByteArray, (⟨(List.replicate (32 - S.data.toList.length) 48).toArray⟩ : ByteArray) = Z := ⟨_, rfl⟩
  rw [hZ] at RP a1
  rw [show ((32 - S.data.toList.length : Nat) : Int) = 32 - (S.size : Int) by omega] at RP
  have hF : (fracN S.data.toList : Int) = (numL (p.take 16) : Int) * 10000000000000000 + (numL (p.drop 16) : Int) := by
    unfold fracN
    rw [← hN]
    simp
  rw [hF]
  have e1 : P.extract 0 16 = P1 := by rw [x1, hP1]
  have e2 : P.extract 16 P.size = P2 := by rw [x2, hP2]
  generalize numL (p.take 16) = n1 at *
  generalize numL (p.drop 16) = n2 at *
  have MU := hide (fun w => wideMul n1 10000000000000000 (by unfold I64; omega) (by unfold I64; omega) w)
  have OF := hide (fun w => wideOf n2 (by unfold I64; omega) w)
  have AD := hide (fun w => addV ((n1 : Int) * 10000000000000000) n2 w)
  have c32 : (16 : Int) ≤ (P.size : Int) := by omega
  clear hF hN hp hpl hpd hP hPs d1 d2 x1 x2 hP1 hP2 b1 b2 hZ hd hsz
  go_enter Tryz.func41, Tryz.ntmps41
  go_wp2_with fail
  refine (unhide RP _).mono ?_
  rintro e w1 ⟨rfl, k1⟩
  have K0 : Kp w w1 := ((Kp.refl w).alloc _ _).trans k1
  have B0 : Hid (Blk w.heap.size #[.int .i64 0, .int .u64 0] 43 w1) := Blk.kp (heap_alloc_new w _) k1
  clear k1 RP
  have KD : Kp w w1.drew := K0.trans (Kp.of ((Grown.refl _).drew))
  have BD : Hid (Kp w1 w1.drew) := Kp.of ((Grown.refl _).drew)
  go_upto_region 2 with fail
  go_cut [17] (fun s17 wx => Blk w.heap.size #[.int .i64 (hiOf ((n1 : Int) * 10000000000000000 + n2)), .int .u64 (loOf ((n1 : Int) * 10000000000000000 + n2))] 43 wx ∧ Kp w wx)
  case first =>
    go_region_held (fun _ => True) (trivial)
      (first
        | (go_at_call_of 40 P1; refine (unhide N1 _).mono ?_; rintro e v1 ⟨rfl, j1⟩; have Q1 := j1; (first | (have J1 : Kp w1 v1 := Kp.trans (unhide JO) j1) | (have J1 : Kp w1 v1 := Kp.trans (unhide J2) j1) | (have J1 : Kp w1 v1 := Kp.trans (unhide BD) j1)); replace J1 := hide J1)
        | (go_at_call_of 40 P2; refine (unhide N2 _).mono ?_; rintro e v2 ⟨rfl, j2⟩; (first | (have J2 : Kp w1 v2 := Kp.trans (unhide JM) j2) | (have J2 : Kp w1 v2 := Kp.trans (unhide J1) j2) | (have J2 : Kp w1 v2 := Kp.trans (unhide BD) j2)); replace J2 := hide J2)
        | (go_at_call 25; refine (unhide MU _).mono ?_; rintro e v3 ⟨rfl, j3⟩; (first | (have JM : Kp w1 v3 := (unhide JO).grown j3) | (have JM : Kp w1 v3 := (unhide J2).grown j3) | (have JM : Kp w1 v3 := (unhide J1).grown j3)); replace JM := hide JM)
        | (go_at_call 28; refine (unhide OF _).mono ?_; rintro e v4 ⟨rfl, j4⟩; (first | (have JO : Kp w1 v4 := (unhide JM).grown j4) | (have JO : Kp w1 v4 := (unhide J1).grown j4) | (have JO : Kp w1 v4 := (unhide J2).grown j4)); replace JO := hide JO)
        | (go_at_call 24; refine (unhide AD _).mono ?_; rintro e v5 ⟨rfl, j5⟩; (first | (have JA : Kp w1 v5 := (unhide JM).grown j5) | (have JA : Kp w1 v5 := (unhide JO).grown j5)); have B5 : Blk w.heap.size #[.int .i64 0, .int .u64 0] 43 v5 := Blk.kp (unhide B0) JA; have d50 : v5.cell? ⟨w.heap.size, 0, none⟩ = some (.int .i64 0) := Blk.cell B5 0; have d51 : v5.cell? ⟨w.heap.size, 1, none⟩ = some (.int .u64 0) := Blk.cell B5 1; have f5 := Blk.free B5; replace JA := hide JA; replace B5 := hide B5))
    all_goals go_wp2_with fail
    all_goals go_meet
    all_goals exact ⟨Blk.set (Blk.set (unhide B5) 0 _) 1 _, ((K0.trans (unhide JA)).mod (((Mod.refl w.heap.size _).setCell 0 _).setCell 1 _) (Nat.le_refl _))⟩
  case rest =>
    obtain ⟨bb, kk⟩ := hcut
    have d0 : wc.cell? ⟨w.heap.size, 0, none⟩ = some (.int .i64 (hiOf ((n1 : Int) * 10000000000000000 + n2))) := Blk.cell bb 0
    have d1 : wc.cell? ⟨w.heap.size, 1, none⟩ = some (.int .u64 (loOf ((n1 : Int) * 10000000000000000 + n2))) := Blk.cell bb 1
    go_wp2
    refine bodyPost_ret (v := .agg #[.int .i64 (hiOf ((n1 : Int) * 10000000000000000 + n2)), .int .u64 (loOf ((n1 : Int) * 10000000000000000 + n2))]) (by simp [results, Tryz.results41, go_sem, *]) rfl ?_
    exact ⟨rfl, kk⟩
end Go.Proofs.YtnelkhmahmoclaaGreatDoor
