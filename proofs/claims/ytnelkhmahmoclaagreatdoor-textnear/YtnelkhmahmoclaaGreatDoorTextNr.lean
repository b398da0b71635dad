/- The walk of TextNear: what is read is half a part away at most. -/
import Derived.Test.YtnelkhmahmoclaaGreatDoorTextDg
namespace Go.Proofs.YtnelkhmahmoclaaGreatDoor
open Go.RowKit Go.Shelf Go.Proofs.Wd
set_option linter.unusedVariables false
set_option linter.unusedSimpArgs false
set_option maxRecDepth 10000

theorem near_far0 (P : Nat) (PI : Int) (hP : (P : Int) = PI) (h lo U q : Nat) : ((h * P + q : Nat) : Int) * U + -(((h * U + lo : Nat) : Int) * PI) = ((U * q : Nat) : Int) - ((lo * P : Nat) : Int) := by
  subst hP
  simp only [Int.natCast_add, Int.natCast_mul]
  grind
theorem near_far (h lo U q : Nat) (h1 : 2 * U * q ≤ 2 * lo * 4294967296 + U) (h2 : 2 * lo * 4294967296 + U < 2 * U * q + 2 * U) :
    -(U : Int) ≤ (((h * 4294967296 + q : Nat) : Int) * U + -(((h * U + lo : Nat) : Int) * 4294967296)) + (((h * 4294967296 + q : Nat) : Int) * U + -(((h * U + lo : Nat) : Int) * 4294967296)) ∧
    (((h * 4294967296 + q : Nat) : Int) * U + -(((h * U + lo : Nat) : Int) * 4294967296)) + (((h * 4294967296 + q : Nat) : Int) * U + -(((h * U + lo : Nat) : Int) * 4294967296)) ≤ (U : Int) := by
  rw [near_far0 4294967296 4294967296 rfl h lo U q]
  have e3 : 2 * U * q = 2 * (U * q) := by rw [Nat.mul_assoc]
  rw [e3] at h1 h2
  generalize U * q = p at *
  omega
theorem near_getT (h low many z : Nat) (hh : h < 2147483648) (hl : low < tenP many) (h1 : 1 ≤ many) (h9 : many ≤ 9) (h2 : many + z ≤ 32) :
    getR (nearL h low many z) = (((h * 4294967296 + nearQ5 low (tenP many) : Nat) : Int), 0) ∧ getR (45 :: nearL h low many z) = (-((h * 4294967296 + nearQ5 low (tenP many) : Nat) : Int), 0) := by
  unfold tenP at *
  exact near_get h low many z hh hl h1 h9 h2
theorem wrapW_id (x : Int) (h1 : -1000000000 ≤ x) (h2 : x ≤ 1000000000) : wrapW x = x := by unfold wrapW; omega
theorem unit_ids (U : Nat) (h : U ≤ 1000000000) : wrapW (U : Int) = U ∧ wrapW (-(U : Int)) = -(U : Int) ∧ IntKind.i64.wrap (-(U : Int)) = -(U : Int) := ⟨wrapW_id _ (by omega) (by omega), wrapW_id _ (by omega) (by omega), by rw [IntKind.wrap_i64]; omega⟩
theorem neg_id (A : Int) (h : 0 ≤ A ∧ A ≤ 9223372036854775807) : wrap64 (-A) = -A := wrap_id _ (by omega)
theorem cmp_le (x y : Int) (h : x ≤ y) : cmpI x y = -1 ∨ cmpI x y = 0 := by unfold cmpI; split <;> (try split) <;> omega
theorem cmp_ge (x y : Int) (h : y ≤ x) : ¬ cmpI x y < 0 := by unfold cmpI; split <;> (try split) <;> omega

set_option maxRecDepth 20000 in
set_option maxHeartbeats 4000000 in
theorem lawTextNear (high low many noughts : Int) (below : Bool) (h1 : I64 high) (h2 : I64 low) (h3 : I64 many) (h4 : I64 noughts) (w : World) :
    Calls Tryz.prog 7 #[.int .i64 high, .int .i64 low, .int .i64 many, .int .i64 noughts, .bool below] w fun e w' => e = .returned (.bool true) ∧ Kp w w' := by
  have P1 := hide (fun w => kitPick high 2147483648 h1 (by omega) w)
  have P2 := hide (fun w => kitPick many 9 h3 (by omega) w)
  have P3 := hide (fun w => kitPick noughts 21 h4 (by omega) w)
  obtain ⟨h, hh, hb⟩ : ∃ h : Nat, high % 2147483648 = (h : Int) ∧ h < 2147483648 := ⟨(high % 2147483648).toNat, by omega, by omega⟩
  obtain ⟨m, hm, mb⟩ : ∃ m : Nat, many % 9 = (m : Int) ∧ m < 9 := ⟨(many % 9).toNat, by omega, by omega⟩
  obtain ⟨z, hz, zb⟩ : ∃ z : Nat, noughts % 21 = (z : Int) ∧ z < 21 := ⟨(noughts % 21).toNat, by omega, by omega⟩
  rw [hh] at P1
  rw [hm] at P2
  rw [hz] at P3
  have HH := hide (And.intro h2 (And.intro hb (And.intro mb zb)))
  clear h1 h2 h3 h4 hh hm hz
  go_enter Tryz.func7, Tryz.ntmps7
  go_wp2_with fail
  refine (lawAwake _).mono ?_
  rintro e w1 ⟨rfl, k1⟩
  have S1 := hide k1
  clear k1
  clear hb mb zb
  have M : Hid (∃ mm : Nat, (1 : Int) + (m : Int) = (mm : Int) ∧ 1 ≤ mm ∧ mm ≤ 9) := ⟨1 + m, by omega, by omega, by have := (unhide HH).2.2.1; omega⟩
  go_wp2_with fail
  refine (unhide P1 _).mono ?_
  rintro e w2 ⟨rfl, k2⟩
  have S2 := hide ((unhide S1).trans k2)
  clear k2 S1 P1
  go_wp2_with fail
  refine (unhide P2 _).mono ?_
  rintro e w3 ⟨rfl, k3⟩
  have S3 := hide ((unhide S2).trans k3)
  clear k3 S2 P2
  have mw : wrap64 (1 + (m : Int)) = 1 + (m : Int) := wrap_id _ (by have := (unhide HH).2.2.1; omega)
  go_wp2_with fail
  refine (unhide P3 _).mono ?_
  rintro e w4 ⟨rfl, k4⟩
  have S4 := hide ((unhide S3).trans k4)
  clear k4 S3 P3
  have mw2 : (1 : Int) + (m : Int) ≤ 9 := by have := (unhide HH).2.2.1; omega
  obtain ⟨mm, hmm, m1, m9⟩ := unhide M
  rw [hmm] at mw mw2 ⊢
  go_wp2_with fail
  go_loop [12, 13] (fun u i => ∃ k : Nat, k ≤ mm ∧ i = .int .i64 k ∧ u = .int .i64 ((tenP k : Nat) : Int)) (fun _ i => mm - (intOf i).toNat)
  case atStart => exact ⟨0, Nat.zero_le _, rfl, rfl⟩
  case round =>
    obtain ⟨k, hk, rfl, rfl⟩ := hrel
    by_cases hlt : k < mm
    · have t0 := tenP_le k (by omega)
      have ts := hide (tenP_succ k)
      generalize tenP k = t at *
      have tw : wrap64 ((t : Int) * 10) = (t : Int) * 10 := wrap_id _ (by omega)
      go_wp2
      go_round
      case rel => exact ⟨k + 1, by omega, by go_num, by rw [unhide ts]; go_num⟩
      case measure => simp [intOf]; omega
    · obtain rfl : k = mm := by omega
      have U0 := tenP_pos k
      have U9 := tenP_le k m9
      have P4 := hide (fun w => kitPick low ((tenP k : Nat) : Int) (unhide HH).1 (by omega) w)
      obtain ⟨lo, hlo, lb⟩ : ∃ lo : Nat, low % ((tenP k : Nat) : Int) = (lo : Int) ∧ lo < tenP k := by
        have a1 := Int.emod_nonneg low (show ((tenP k : Nat) : Int) ≠ 0 by omega)
        have a2 := Int.emod_lt_of_pos low (show (0 : Int) < ((tenP k : Nat) : Int) by omega)
        exact ⟨(low % ((tenP k : Nat) : Int)).toNat, by omega, by omega⟩
      rw [hlo] at P4
      have hb := (unhide HH).2.1
      have zb := (unhide HH).2.2.2
      have D1 := hide (fun w => lawDigits0 h (by omega) w)
      have D2 := hide (fun w => lawDigitsM lo k (by omega) m1 (by omega) lb w)
      have NG := near_getT h lo k z hb lb m1 m9 (by omega)
      have NB := near_bounds lo (tenP k) U0 U9 lb
      have NF := near_far h lo (tenP k) (nearQ5 lo (tenP k)) NB.2.1 NB.2.2
      have NQ := NB.1
      obtain ⟨SW, hSW⟩ : ∃ S : ByteArray, (⟨(wholeL h).toArray⟩ : ByteArray) = S := ⟨_, rfl⟩
      obtain ⟨SP, hSP⟩ : ∃ S : ByteArray, (⟨(padL k lo).toArray⟩ : ByteArray) = S := ⟨_, rfl⟩
      obtain ⟨SX, hSX⟩ : ∃ S : ByteArray, (⟨(wholeL h ++ [46]).toArray⟩ : ByteArray) = S := ⟨_, rfl⟩
      obtain ⟨SY, hSY⟩ : ∃ S : ByteArray, (⟨(nearL h lo k 0).toArray⟩ : ByteArray) = S := ⟨_, rfl⟩
      have wl := wholeL_len h 9 (by omega)
      have A1 : ∀ w, (Op.stringOp .add SW ⟨#[46]⟩).run Tryz.prog w = .ok (.string SX) w := fun w => by
        rw [← hSW, ← hSX]
        exact str_add _ [46] (by simp; omega) w
      have A2 : ∀ w, (Op.stringOp .add SX SP).run Tryz.prog w = .ok (.string SY) w := fun w => by
        rw [← hSX, ← hSP, ← hSY]
        have e := str_add (wholeL h ++ [46]) (padL k lo) (by rw [padL_len]; simp; omega) w
        have e2 : wholeL h ++ [46] ++ padL k lo = nearL h lo k 0 := by unfold nearL; simp
        rw [e2] at e
        exact e
      rw [hSW] at D1
      rw [hSP] at D2
      have HY := hide hSY
      have NN := hide (And.intro NG NF)
      clear hSW hSP hSX hSY wl NG NF NB HH M hlo hlt
      go_wp2_with fail
      refine (unhide P4 _).mono ?_
      rintro e w5 ⟨rfl, k5⟩
      have S5 := hide ((unhide S4).trans k5)
      clear k5 S4 P4
      go_wp2_with fail
      refine (unhide D1 _).mono ?_
      rintro e w6 ⟨rfl, k6⟩
      have S6 := hide ((unhide S5).trans k6)
      clear k6 S5 D1
      go_wp2_with fail
      refine (unhide D2 _).mono ?_
      rintro e w7 ⟨rfl, k7⟩
      have S7 := hide ((unhide S6).trans k7)
      clear k7 S6 D2
      go_wp2_with fail
      go_loop [14, 15] (fun sv i => ∃ (j : Nat) (S : ByteArray), j ≤ z ∧ i = .int .i64 j ∧ sv = .string S ∧ Hid ((⟨(nearL h lo k j).toArray⟩ : ByteArray) = S)) (fun _ i => z - (intOf i).toNat)
      case atStart => exact ⟨0, SY, Nat.zero_le _, rfl, rfl, unhide HY⟩
      case round =>
        obtain ⟨j, S, hj, rfl, rfl, HS⟩ := hrel
        by_cases hlt : j < z
        · obtain ⟨T, hT⟩ : ∃ T : ByteArray, (⟨(nearL h lo k (j + 1)).toArray⟩ : ByteArray) = T := ⟨_, rfl⟩
          have nl := near_len h lo k j hb
          have A3 : ∀ w, (Op.stringOp .add S ⟨#[48]⟩).run Tryz.prog w = .ok (.string T) w := fun w => by
            rw [← unhide HS, ← hT, near_succ]
            exact str_add _ [48] (by simp; omega) w
          have HT := hide hT
          clear hT nl NN A1 A2
          go_wp2
          go_round
          case rel => exact ⟨j + 1, T, by omega, by go_num, rfl, unhide HT⟩
          case measure => simp [intOf]; omega
        · obtain rfl : j = z := by omega
          clear A1 A2 HY hlt
          have nl := near_len h lo k j hb
          obtain ⟨q, hq⟩ : ∃ q, nearQ5 lo (tenP k) = q := ⟨_, rfl⟩
          obtain ⟨NG, NF⟩ := unhide NN
          rw [hq] at NG NF NQ
          have GT := hide (fun w => textGetT S (by rw [← unhide HS]; show (nearL h lo k j).length ≤ _; omega) w)
          rw [show S.data.toList = nearL h lo k j by rw [← unhide HS], NG.1] at GT
          obtain ⟨T, hT⟩ : ∃ T : ByteArray, (⟨(45 :: nearL h lo k j).toArray⟩ : ByteArray) = T := ⟨_, rfl⟩
          have A4 : ∀ w, (Op.stringOp .add ⟨#[45]⟩ S).run Tryz.prog w = .ok (.string T) w := fun w => by
            rw [← unhide HS, ← hT]
            exact str_add [45] _ (by simp; omega) w
          have GN := hide (fun w => lawGets T (-((h * 4294967296 + q : Nat) : Int)) 0 (by rw [← hT]; show (45 :: nearL h lo k j).length ≤ _; simp; omega) (by rw [show T.data.toList = 45 :: nearL h lo k j by rw [← hT]]; exact NG.2) w)
          clear NG NN hq hT nl HS
          generalize tenP k = U at *
          have hB : ((h * U + lo : Nat) : Int) = (h : Int) * (U : Int) + (lo : Int) := by simp
          have hUb : h * U ≤ 2147483648 * 1000000000 := Nat.mul_le_mul (by omega) U9
          have hBb : (0 : Int) ≤ (h : Int) * (U : Int) ∧ (h : Int) * (U : Int) ≤ 2147483648000000000 := by
            rw [← Int.natCast_mul]
            omega
          rw [hB] at NF
          clear hB hUb
          obtain ⟨A, hA⟩ : ∃ A : Int, ((h * 4294967296 + q : Nat) : Int) = A := ⟨_, rfl⟩
          have Ab : 0 ≤ A ∧ A ≤ 9223372036854775807 := by omega
          rw [hA] at GT GN NF
          clear hA NQ
          obtain ⟨HU, hHU⟩ : ∃ HU : Int, (h : Int) * (U : Int) = HU := ⟨_, rfl⟩
          rw [hHU] at hBb NF
          have bw1 : wrap64 HU = HU := wrap_id HU (by omega)
          have bw2 : wrap64 (HU + (lo : Int)) = HU + (lo : Int) := wrap_id (HU + (lo : Int)) (by omega)
          have MU1 := hide (fun w => toKp (wideMul A U (by unfold I64; omega) (by unfold I64; omega) w))
          have MU2 := hide (fun w => toKp (wideMul (HU + (lo : Int)) 4294967296 (by unfold I64; omega) (by unfold I64; omega) w))
          have NE := hide (fun w => toKp (negV ((HU + (lo : Int)) * 4294967296) w))
          have AD1 := hide (fun w => toKp (addV (A * U) (-((HU + (lo : Int)) * 4294967296)) w))
          obtain ⟨F, hF⟩ : ∃ F : Int, A * U + -((HU + (lo : Int)) * 4294967296) = F := ⟨_, rfl⟩
          rw [hF] at AD1 NF
          clear hF hBb
          have AD2 := hide (fun w => toKp (addV F F w))
          have OF1 := hide (fun w => toKp (wideOf (U : Int) (by unfold I64; omega) w))
          have OF2 := hide (fun w => toKp (wideOf (-(U : Int)) (by unfold I64; omega) w))
          have CM1 := hide (fun w => toKp (cmpV (F + F) (U : Int) w))
          have CM2 := hide (fun w => toKp (cmpV (F + F) (-(U : Int)) w))
          have wF : wrapW (F + F) = F + F := wrapW_id _ (by have := NF.1; omega) (by have := NF.2; omega)
          obtain ⟨wU, wN, uw⟩ := unit_ids U U9
          rw [wF, wU] at CM1
          rw [wF, wN] at CM2
          have G1 := cmp_le (F + F) U NF.2
          have G2 := cmp_ge (F + F) (-(U : Int)) NF.1
          obtain ⟨g1, hg1⟩ : ∃ g : Int, cmpI (F + F) (U : Int) = g := ⟨_, rfl⟩
          obtain ⟨g2, hg2⟩ : ∃ g : Int, cmpI (F + F) (-(U : Int)) = g := ⟨_, rfl⟩
          rw [hg1] at CM1 G1
          rw [hg2] at CM2 G2
          clear hg1 hg2
          have aw : wrap64 (-A) = -A := neg_id A Ab
          have a0 : ¬ A < 0 := Int.not_lt.2 Ab.1
          clear wF wU wN NF
          go_wp2_with fail
          refine (unhide GT _).mono ?_
          rintro e w8 ⟨rfl, k8⟩
          have S8 := hide ((unhide S7).trans k8)
          clear k8 S7 GT
          go_wp2_with fail
          refine (unhide MU1 _).mono ?_
          rintro e w9 ⟨rfl, k9⟩
          have S9 := hide ((unhide S8).trans k9)
          clear k9 S8 MU1
          go_wp2_with fail
          refine (unhide MU2 _).mono ?_
          rintro e w10 ⟨rfl, k10⟩
          have S10 := hide ((unhide S9).trans k10)
          clear k10 S9 MU2
          go_wp2_with fail
          refine (unhide NE _).mono ?_
          rintro e w11 ⟨rfl, k11⟩
          have S11 := hide ((unhide S10).trans k11)
          clear k11 S10 NE
          go_wp2_with fail
          refine (unhide AD1 _).mono ?_
          rintro e w12 ⟨rfl, k12⟩
          have S12 := hide ((unhide S11).trans k12)
          clear k12 S11 AD1
          go_wp2_with fail
          refine (unhide AD2 _).mono ?_
          rintro e w13 ⟨rfl, k13⟩
          have K13 : Kp w w13 := ((unhide S12).alloc _ _).trans k13
          clear k13 S12 AD2
          have cA : (w13.alloc (.cells #[.int .i64 (hiOf (F + F)), .int .u64 (loOf (F + F))] 43)).cell? ⟨w13.heap.size, 0, none⟩ = some (.int .i64 (hiOf (F + F))) := Blk.cell (heap_alloc_new w13 _) 0
          have cB : (w13.alloc (.cells #[.int .i64 (hiOf (F + F)), .int .u64 (loOf (F + F))] 43)).cell? ⟨w13.heap.size, 1, none⟩ = some (.int .u64 (loOf (F + F))) := Blk.cell (heap_alloc_new w13 _) 1
          have K14 : Kp w (w13.alloc (.cells #[.int .i64 (hiOf (F + F)), .int .u64 (loOf (F + F))] 43)) := K13.alloc _ _
          clear K13
          go_upto_region 19 with fail
          generalize w13.heap.size = B at *
          generalize w13.alloc (.cells #[.int .i64 (hiOf (F + F)), .int .u64 (loOf (F + F))] 43) = W at *
          go_cut [89] (fun s89 wx => s89 = .bool false ∧ Kp w wx)
          case first =>
            clear GN A4 aw
            generalize hiOf (F + F) = X at *
            generalize loOf (F + F) = Y at *
            rcases G1 with rfl | rfl
            all_goals
              go_region_held3 (fun w' => w'.cell? ⟨B, 0, none⟩ = some (.int .i64 X) ∧ w'.cell? ⟨B, 1, none⟩ = some (.int .u64 Y) ∧ Kp w w')
                (first | exact keepK hg9 (by assumption) | (refine ⟨?_, ?_, K14.trans (Kp.of ((Grown.refl _).drew))⟩ <;> simp [go_sem, *]))
                (first
                  | (go_at_call 28; refine (unhide OF1 _).mono ?_; clear OF1; rintro e w15 ⟨rfl, hg9⟩)
                  | (go_at_call 28; refine (unhide OF2 _).mono ?_; clear OF2; rintro e w16 ⟨rfl, hg9⟩)
                  | (go_at_call 27; refine (unhide CM1 _).mono ?_; clear CM1; rintro e w17 ⟨rfl, hg9⟩)
                  | (go_at_call 27; refine (unhide CM2 _).mono ?_; clear CM2; rintro e w18 ⟨rfl, hg9⟩))
              all_goals go_wp2_with fail
              all_goals go_meet
              all_goals exact ⟨by first | rfl | exact congrArg Value.bool (decide_eq_false (Int.not_lt.2 (by assumption))), (keepK (Kp.refl _) (by assumption)).2.2⟩
          case rest =>
            obtain ⟨rfl, k19⟩ := hcut
            have S19 := hide k19
            clear k19 K14 cA cB OF1 OF2 CM1 CM2
            cases below with
            | false =>
              go_wp2
              go_ret
              exact ⟨rfl, unhide S19⟩
            | true =>
              go_wp2_with fail
              refine (unhide GN _).mono ?_
              rintro e w20 ⟨rfl, k20⟩
              have S20 := hide ((unhide S19).trans k20)
              clear k20 S19
              go_wp2
              go_ret
              exact ⟨rfl, unhide S20⟩
end Go.Proofs.YtnelkhmahmoclaaGreatDoor
