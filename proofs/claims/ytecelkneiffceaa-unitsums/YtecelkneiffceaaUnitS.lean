/- The walk of UnitSums. -/
import Derived.Test.YtecelkneiffceaaUnitK
import Derived.Deep.RegionHeld3
import Derived.Deep.DrawnRows
import Derived.Deep.DeepCutAuto
namespace Go.Proofs.Ytecelkneiffceaa
open Go.RowKit Go.Proofs.Wd
set_option linter.unusedVariables false
set_option linter.unusedSimpArgs false
attribute [local go_sem ↓] Go.wp_at_zero Go.wp_at_succ

theorem Try.infoInt : (Try.prog.info? 3).map (fun i => (i.zero, i.size, i.bytes)) = some (some (.int .i64 0), 1, 8) := by kernel_rfl

theorem Row.sub {w : World} {ao : Option Addr} {len m : Nat} {Z : Nat → Int} (h : Row w ao len Z) (hm : m ≤ len) : Row w ao m Z := by
  rcases h with h | ⟨b, o, rfl, hc⟩
  · exact Or.inl (by omega)
  · exact Or.inr ⟨b, o, rfl, fun i hi => hc i (by omega)⟩
theorem slice_to (ao : Option Addr) (len cap n : Nat) (h : n ≤ cap) (w : World) : (Instr.sliceAt 22 (.slice ao len cap) none (some (.int .i64 n)) none).run Try.prog w = .ok (.slice ao n cap) w := by
  have e : Try.prog.underlying 22 = some (.slice (Try.prog.elem 22)) := by kernel_rfl
  have s1 : (sizeOf (Try.prog.elem 22)).run Try.prog w = .ok 1 w := by kernel_rfl
  rw [run_sliceAt_slice w 22 _ _ _ _ e, run_slice_h w 22 ao len cap e .i64 n (by omega) (by omega), s1]
  show Result.ok (sliced ao 0 (n : Int).toNat cap 1) w = _
  have a0 : ao.map (fun x => x.add (0 * 1)) = ao := by cases ao <;> simp [Addr.add]
  unfold sliced
  rw [a0]
  simp

theorem news_one (w : World) (v : Value) (t : TypeId) : ∀ j u, [v][j]? = some u → (w.alloc (.cells #[v] t)).cell? ((⟨w.heap.size, 0, none⟩ : Addr).add j) = some u := by
  intro j u hj
  match j, hj with
  | 0, hj => simp at hj; subst hj; simp [Addr.add]
theorem one_cell (x : Int) : ∀ u ∈ [Value.int .i64 x], u.oneCell' = true := by
  intro u hu
  simp at hu
  subst hu
  rfl

def orB (a b : Bool) : Bool := a || b
theorem orB_step (a b q : Bool) : orB a (b || q) = (orB a b || q) := by unfold orB; rw [Bool.or_assoc]
theorem orB_two (a b p q : Bool) : orB a (b || p || q) = (orB a b || p || q) := by unfold orB; rw [Bool.or_assoc, Bool.or_assoc, Bool.or_assoc]

set_option maxRecDepth 100000 in
set_option maxHeartbeats 8000000 in
theorem lawUnitSums (ao bo : Option Addr) (n1 c1 n2 c2 : Nat) (X Y : Nat → Int) (m1 : n1 ≤ c1) (m2 : n2 ≤ c2) (b1 : c1 ≤ 9223372036854775807) (b2 : c2 ≤ 9223372036854775807) (hX : Hid (∀ i, i < n1 → I64 (X i))) (hY : Hid (∀ i, i < n2 → I64 (Y i))) (w : World)
    (hr : Row w ao n1 X) (ht : Row w bo n2 Y) :
    Calls Try.prog 5 #[.slice ao n1 c1, .slice bo n2 c2] w fun e w' => e = .returned (.bool true) ∧ Kp w w' := by
  have HR := hide hr
  have HT := hide ht
  clear hr ht
  by_cases h20 : 20 < n1 ∨ 20 < n2
  · by_cases h21 : 20 < n1
    · go_enter Try.func5, Try.ntmps5
      go_wp2_with fail
      refine (lawUnitKnown _).mono ?_
      rintro e w1 ⟨rfl, g1⟩
      have G1 : Hid (Kp w w1) := Kp.of g1
      clear g1
      go_wp2
      go_ret
      exact ⟨rfl, unhide G1⟩
    · have h22 : 20 < n2 := by omega
      clear h20
      go_enter Try.func5, Try.ntmps5
      go_wp2_with fail
      refine (lawUnitKnown _).mono ?_
      rintro e w1 ⟨rfl, g1⟩
      have G1 : Hid (Kp w w1) := Kp.of g1
      clear g1
      go_wp2
      go_ret
      exact ⟨rfl, unhide G1⟩
  · have s1 : n1 ≤ 20 := by omega
    have s2 : n2 ≤ 20 := by omega
    clear h20
    go_enter Try.func5, Try.ntmps5
    go_wp2_with fail
    refine (lawUnitKnown _).mono ?_
    rintro e w1 ⟨rfl, g1⟩
    have G1 : Hid (Kp w w1) := Kp.of g1
    clear g1
    have N1 := hide (unitNew w1)
    have hU := (unhide G1).2.2.2
    generalize eU : w1.heap.size = U at N1 hU
    have HE := hide hU
    clear eU hU
    go_wp2_with fail
    refine (unhide N1).mono ?_
    clear N1
    rintro e w2 ⟨rfl, h2, g2⟩
    have H2 : Hid (UC U false 0 w2 ∧ Kp w w2) := ⟨h2, (unhide G1).grown g2⟩
    clear h2 g2 G1
    go_wp2
    go_loopw [7, 9, 10, 11] (fun s c d i wr => ∃ k : Nat, k ≤ n1 ∧ i = .int .i64 k ∧ s = .int .i64 (thN addN 0 X k) ∧ c = .bool (thC addN addC 0 X k) ∧ Hid (UC U false 0 wr ∧ Kp w wr)) (fun _ _ _ i _ => n1 - (intOf i).toNat)
    case atStart => exact ⟨0, Nat.zero_le _, rfl, rfl, rfl, unhide H2⟩
    case round =>
      obtain ⟨k, hk, rfl, rfl, rfl, HU⟩ := hrel
      by_cases hlt : k < n1
      · obtain ⟨b, o, rfl, hc⟩ := ((unhide HR).kp (unhide HU).2).at hlt
        have A1 := hide (fun w => fixAdd (thN addN 0 X k) (X k) (thN_I64 addN addN_I64 0 (by unfold I64; omega) X k) (unhide hX k hlt) w)
        change Hid (∀ w, Calls Try.prog 18 #[.int .i64 (thN addN 0 X k), .int .i64 (X k)] w fun e w' => e = .returned (.tuple #[.int .i64 (addN (thN addN 0 X k) (X k)), .bool (addC (thN addN 0 X k) (X k))]) ∧ Grown w w') at A1
        have E1 : Hid (thC addN addC 0 X (k + 1) = (thC addN addC 0 X k || addC (thN addN 0 X k) (X k))) := rfl
        have E2 : Hid (thN addN 0 X (k + 1) = addN (thN addN 0 X k) (X k)) := rfl
        generalize addC (thN addN 0 X k) (X k) = q at *
        generalize addN (thN addN 0 X k) (X k) = r at *
        generalize thC addN addC 0 X k = d at *
        cases d
        all_goals
          go_wp2_with fail
          refine (unhide A1 _).mono ?_
          rintro e w3 ⟨rfl, g3⟩
          have R : Hid (UC U false 0 w3 ∧ Kp w w3) := ⟨Blk.grown (unhide HU).1 g3, (unhide HU).2.grown g3⟩
          clear g3
          go_wp2
          go_roundw
          case rel => exact ⟨k + 1, by omega, by go_num, by rw [unhide E2], by rw [unhide E1]; rfl, R⟩
          case measure => simp [intOf]; omega
      · obtain rfl : k = n1 := by omega
        clear H2
        go_wp2_with fail
        refine (unitAdd U false 0 ao k c1 X ⟨by omega, by omega⟩ (by omega) (unhide hX) _ (unhide HU).1 ((unhide HR).kp (unhide HU).2) ((unhide HR).off (unhide HE))).mono ?_
        rintro e w3 ⟨rfl, h3, m3⟩
        rw [Bool.false_or, Int.zero_add] at h3
        have H3 : Hid (UC U (thC addN addC 0 X k) k w3 ∧ Kp w w3) := ⟨h3, (unhide HU).2.mod m3 (unhide HE)⟩
        clear h3 m3 HU
        go_wp2_with fail
        refine (unitCut U _ _ _ (unhide H3).1).mono ?_
        rintro e w4 ⟨rfl, rfl⟩
        go_wp2_with fail
        refine (unitCount U _ _ _ (unhide H3).1).mono ?_
        rintro e w5 ⟨rfl, rfl⟩
        have HC := hide (th_rev X k)
        generalize thC addN addC 0 X k = C at *
        generalize thN addN 0 X k = S at *
        go_upto_if 75 with fail
        go_cut [12, 13, 14] (fun a b c wx => Hid (UC U C k wx ∧ Kp w wx))
        case first =>
          cases C with
          | true =>
            go_wp2_with fail
            go_meet
            case rel => exact unhide H3
          | false =>
            obtain ⟨i0, hi, hz0, hz1, hz2⟩ := info_parts Try.infoInt
            have hB : U < w5.heap.size := Blk.lt (unhide H3).1
            have hW5 := (unhide H3).2.2.2.2
            generalize eB : w5.heap.size = B at hB hW5
            have HB := hide eB
            clear eB
            have HB2 := hide (And.intro hB hW5)
            clear hB hW5
            go_wp2
            go_loopw [12, 13] (fun v i wr => ∃ j : Nat, j ≤ k ∧ i = .int .i64 ((k : Int) - 1 - j) ∧ Hid (wr.ownsRow B 3 1 v j ((List.range j).map fun t => Value.int .i64 (X (k - 1 - t))) ∧ B ≤ wr.heap.size ∧ UC U false k wr ∧ Kp w wr)) (fun _ i _ => (intOf i + 1).toNat)
            case atStart => exact ⟨0, Nat.zero_le _, by go_num, World.ownsRow_nil _ _ _ _, Nat.le_of_eq (unhide HB).symm, unhide H3⟩
            case round =>
              obtain ⟨j, hj, rfl, HV⟩ := hrel
              clear H3
              by_cases hlt2 : j < k
              · have et : (k : Int) - 1 - j = ((k - 1 - j : Nat) : Int) := by omega
                rw [et]
                clear et
                have tl : k - 1 - j < k := by omega
                obtain ⟨b, o, rfl, hc⟩ := ((unhide HR).kp (unhide HV).2.2.2).at tl
                generalize hx : X (k - 1 - j) = x at *
                have ej : Hid (((k - 1 - j : Nat) : Int) = (k : Int) - 1 - j) := by unfold Hid; omega
                have HXt := hide hx
                clear hx
                generalize ht : k - 1 - j = t at *
                have HTT := hide ht
                clear ht
                have hown := (unhide HV).1
                have hbase := (unhide HV).2.1
                have HO := hide hown
                have HBS := hide hbase
                clear hown hbase
                go_wp2_with (at_builtin; refine wpList_append_own _ rfl _ _ 22 rfl B 3 i0 (.int .i64 0) 1 8 Try.underlying22 hi hz0 hz1 hz2 rfl (by decide) _ _ _ rfl ((unhide HO).alloc _) ⟨wr.heap.size, 0, none⟩ 1 1 [.int .i64 x] rfl rfl (news_one _ _ _) (one_cell _) (by unfold maxLen; omega) (by omega) (by have := unhide HBS; simp; omega) ?_; intro v' w6 hown' hgrow _)
                have R : Hid (w6.ownsRow B 3 1 v' (j + 1) ((List.range (j + 1)).map fun t => Value.int .i64 (X (k - 1 - t))) ∧ B ≤ w6.heap.size ∧ UC U false k w6 ∧ Kp w w6) := by
                  have lt := ((unhide HO).alloc (Obj.cells #[Value.int .i64 x] 3)).lt
                  refine ⟨?_, ?_, ?_, ?_⟩
                  · rw [List.range_succ, List.map_append, List.map_singleton, unhide HTT, unhide HXt]
                    exact hown'
                  · have h1 : wr.heap.size + 1 ≤ w6.heap.size := by have := hgrow.size; simpa using this
                    have h2 := unhide HBS
                    omega
                  · refine Blk.by (Blk.grown (unhide HV).2.2.1 ((Grown.refl _).alloc _ _)) hgrow (fun e => ?_)
                    have := (lt U e.symm).1
                    have := (unhide HB2).1
                    omega
                  · refine Kp.by ((unhide HV).2.2.2.alloc _ _) hgrow (fun i e => ?_)
                    have := (lt i e).1
                    have := (unhide HB2).2
                    omega
                clear hown' hgrow HV HO HBS hc
                go_wp2
                go_roundw
                case rel => exact ⟨j + 1, by omega, by have := unhide ej; go_num, R⟩
                case measure => have := unhide ej; simp [intOf] <;> omega
              · obtain rfl : k = j := by omega
                obtain ⟨ao2, cap2, rfl, row2, off2⟩ := owns_row (unhide HV).1
                have RW := hide row2
                have HV2 := hide (unhide HV).2.2
                clear row2 off2 HV HB HB2
                have N2 := hide (unitNew wr)
                have hV := Blk.lt (unhide HV2).1
                have hVw := (unhide HV2).2.2.2.2
                have O2 := hide ((unhide RW).off (Nat.le_refl wr.heap.size))
                generalize wr.heap.size = V at N2 hV hVw O2
                have HV3 := hide (And.intro hV hVw)
                clear hV hVw
                go_wp2_with fail
                refine (unhide N2).mono ?_
                clear N2
                rintro e w6 ⟨rfl, h6, g6⟩
                have H6 : Hid (UC V false 0 w6 ∧ Row w6 ao2 k (fun t => X (k - 1 - t)) ∧ UC U false k w6 ∧ Kp w w6) := ⟨h6, (unhide RW).grown g6, Blk.grown (unhide HV2).1 g6, (unhide HV2).2.grown g6⟩
                clear h6 g6 RW HV2
                go_wp2_with fail
                refine (unitAdd V false 0 ao2 k cap2 (fun t => X (k - 1 - t)) ⟨by omega, by omega⟩ (by omega) (fun i hi => unhide hX _ (by omega)) _ (unhide H6).1 (unhide H6).2.1 (unhide O2)).mono ?_
                rintro e w7 ⟨rfl, h7, m7⟩
                rw [Bool.false_or, Int.zero_add] at h7
                have H7 : Hid (UC U false k w7 ∧ Kp w w7) := ⟨Blk.keep (unhide H6).2.2.1 m7 (Nat.ne_of_lt (unhide HV3).1), (unhide H6).2.2.2.mod m7 (unhide HV3).2⟩
                have H7v := hide h7
                clear h7 m7 H6 O2 HV3
                generalize thC addN addC 0 (fun t => X (k - 1 - t)) k = C2 at *
                generalize thN addN 0 (fun t => X (k - 1 - t)) k = S2 at *
                by_cases hS : S2 = S
                · subst hS
                  go_wp2_with fail
                  go_meet
                  case rel => exact unhide H7
                · have hC2 : C2 = true := by
                    cases C2 with
                    | true => rfl
                    | false => exact absurd (unhide HC (by trivial) rfl) hS
                  subst hC2
                  go_wp2_with fail
                  refine (unitCut V _ _ _ (unhide H7v)).mono ?_
                  rintro e w7' ⟨rfl, rfl⟩
                  go_wp2_with fail
                  go_meet
                  case rel => exact unhide H7
        case rest =>
          have H3c := hcut
          clear hcut H3 HC
          go_wp2_with fail
          go_loopw [8, 9, 10, 15] (fun s c d i wr => ∃ j : Nat, j ≤ k ∧ i = .int .i64 j ∧ s = .int .i64 (thN mulN 4294967296 X j) ∧ c = .bool (orB C (thC mulN mulC 4294967296 X j)) ∧ Hid (UC U C k wr ∧ Kp w wr)) (fun _ _ _ i _ => k - (intOf i).toNat)
          case atStart => exact ⟨0, Nat.zero_le _, rfl, rfl, by rw [show orB C (thC mulN mulC 4294967296 X 0) = C from Bool.or_false _], unhide H3c⟩
          case round =>
            obtain ⟨j, hj, rfl, rfl, rfl, HU⟩ := hrel
            clear H3c
            by_cases hlt2 : j < k
            · obtain ⟨b, o, rfl, hc⟩ := ((unhide HR).kp (unhide HU).2).at hlt2
              have A1 := hide (fun w => fixMul (thN mulN 4294967296 X j) (X j) (thN_I64 mulN mulN_I64 4294967296 (by unfold I64; omega) X j) (unhide hX j hlt2) w)
              change Hid (∀ w, Calls Try.prog 19 #[.int .i64 (thN mulN 4294967296 X j), .int .i64 (X j)] w fun e w' => e = .returned (.tuple #[.int .i64 (mulN (thN mulN 4294967296 X j) (X j)), .bool (mulC (thN mulN 4294967296 X j) (X j))]) ∧ Grown w w') at A1
              have E1 : Hid (orB C (thC mulN mulC 4294967296 X (j + 1)) = (orB C (thC mulN mulC 4294967296 X j) || mulC (thN mulN 4294967296 X j) (X j))) := orB_step _ _ _
              have E2 : Hid (thN mulN 4294967296 X (j + 1) = mulN (thN mulN 4294967296 X j) (X j)) := rfl
              generalize mulC (thN mulN 4294967296 X j) (X j) = q at *
              generalize mulN (thN mulN 4294967296 X j) (X j) = r at *
              generalize orB C (thC mulN mulC 4294967296 X j) = d at *
              cases d
              all_goals
                go_wp2_with fail
                refine (unhide A1 _).mono ?_
                rintro e w6 ⟨rfl, g6⟩
                have R : Hid (UC U C k w6 ∧ Kp w w6) := ⟨Blk.grown (unhide HU).1 g6, (unhide HU).2.grown g6⟩
                clear g6
                go_wp2
                go_roundw
                case rel => exact ⟨j + 1, by omega, by go_num, by rw [unhide E2], by rw [unhide E1]; rfl, R⟩
                case measure => simp [intOf]; omega
            · obtain rfl : k = j := by omega
              go_wp2_with fail
              refine (unitMul U C k ao k c1 X ⟨by omega, by omega⟩ (by omega) (unhide hX) _ (unhide HU).1 ((unhide HR).kp (unhide HU).2) ((unhide HR).off (unhide HE))).mono ?_
              rintro e w7 ⟨rfl, h7, m7⟩
              have H7 : Hid (UC U (orB C (thC mulN mulC 4294967296 X k)) (k + k) w7 ∧ Kp w w7) := ⟨h7, (unhide HU).2.mod m7 (unhide HE)⟩
              clear h7 m7 HU
              go_wp2_with fail
              refine (unitCut U _ _ _ (unhide H7).1).mono ?_
              rintro e w8 ⟨rfl, rfl⟩
              have H8 := hide (unhide H7)
              clear H7
              generalize orB C (thC mulN mulC 4294967296 X k) = D at *
              generalize thN mulN 4294967296 X k = PR at *
              by_cases hm : k ≤ n2
              · go_wp2
                go_loopw [9, 10, 17, 18, 19] (fun c d s p i wr => ∃ j : Nat, j ≤ k ∧ i = .int .i64 j ∧ s = .int .i64 (dotN X Y j) ∧ c = .bool (orB D (dotC X Y j)) ∧ Hid (UC U D (k + k) wr ∧ Kp w wr)) (fun _ _ _ _ i _ => k - (intOf i).toNat)
                case atStart => exact ⟨0, Nat.zero_le _, rfl, rfl, by rw [show orB D (dotC X Y 0) = D from Bool.or_false _], unhide H8⟩
                case round =>
                  obtain ⟨j, hj, rfl, rfl, rfl, HU⟩ := hrel
                  clear H8
                  by_cases hlt2 : j < k
                  · obtain ⟨b1', o1, rfl, hc1⟩ := ((unhide HR).kp (unhide HU).2).at (show j < k by omega)
                    obtain ⟨b2', o2, rfl, hc2⟩ := ((unhide HT).kp (unhide HU).2).at (show j < n2 by omega)
                    have M1 := hide (fun w => fixMul (X j) (Y j) (unhide hX j (by omega)) (unhide hY j (by omega)) w)
                    have A1 := hide (fun w => fixAdd (dotN X Y j) (mulN (X j) (Y j)) (dotN_I64 X Y j) (mulN_I64 _ _) w)
                    have E1 : Hid (dotN X Y (j + 1) = addN (dotN X Y j) (mulN (X j) (Y j))) := rfl
                    have E2 : Hid (orB D (dotC X Y (j + 1)) = (orB D (dotC X Y j) || mulC (X j) (Y j) || addC (dotN X Y j) (mulN (X j) (Y j)))) := orB_two _ _ _ _
                    change Hid (∀ w, Calls Try.prog 19 #[.int .i64 (X j), .int .i64 (Y j)] w fun e w' => e = .returned (.tuple #[.int .i64 (mulN (X j) (Y j)), .bool (mulC (X j) (Y j))]) ∧ Grown w w') at M1
                    change Hid (∀ w, Calls Try.prog 18 #[.int .i64 (dotN X Y j), .int .i64 (mulN (X j) (Y j))] w fun e w' => e = .returned (.tuple #[.int .i64 (addN (dotN X Y j) (mulN (X j) (Y j))), .bool (addC (dotN X Y j) (mulN (X j) (Y j)))]) ∧ Grown w w') at A1
                    generalize mulN (X j) (Y j) = p at *
                    generalize mulC (X j) (Y j) = pc at *
                    generalize X j = x at *
                    generalize Y j = y at *
                    generalize dotN X Y j = s at *
                    generalize addN s p = q at *
                    generalize addC s p = qc at *
                    generalize orB D (dotC X Y j) = d at *
                    have i0 : (0 : Int) ≤ (j : Int) := by omega
                    have i1 : (j : Int) < (k : Int) := by omega
                    have i2 : (j : Int) < (n2 : Int) := by omega
                    go_wp2
                    go_region_held3 (fun w' => w'.cell? ⟨b1', o1 + j, none⟩ = some (.int .i64 x) ∧ w'.cell? ⟨b2', o2 + j, none⟩ = some (.int .i64 y)) (simp [go_sem, *])
                      ((go_at_call 19; refine (unhide M1 _).mono ?_; rintro e w9 ⟨rfl, g9⟩; have c91 := gat g9 hc1; have c92 := gat g9 hc2; have H9 : Hid (UC U D (k + k) w9 ∧ Kp w w9) := ⟨Blk.grown (unhide HU).1 (by exact g9), (unhide HU).2.grown (by exact g9)⟩; clear g9))
                    clear HU hc1 hc2
                    cases d <;> cases pc
                    all_goals
                      go_wp2_with fail
                      refine (unhide A1 _).mono ?_
                      rintro e w10 ⟨rfl, g10⟩
                      have R : Hid (UC U D (k + k) w10 ∧ Kp w w10) := ⟨Blk.grown (unhide H9).1 g10, (unhide H9).2.grown g10⟩
                      clear g10
                      go_wp2
                      go_roundw
                      case rel => exact ⟨j + 1, by omega, by go_num, by rw [unhide E1], by rw [unhide E2]; rfl, R⟩
                      case measure => simp [intOf]; omega
                  · obtain rfl : k = j := by omega
                    have D1 := hide (fun w h => unitDot_ok U D (k + k) ao bo k c1 c2 X Y ⟨by omega, by omega⟩ (by omega) (fun i hi => unhide hX i (by omega)) (fun i hi => unhide hY i (by omega)) w h)
                    have R1 : Hid (Row w ao k X) := (unhide HR).sub (by omega)
                    have R2 : Hid (Row w bo k Y) := (unhide HT).sub (by omega)
                    have hs1 : ∀ w, (Instr.sliceAt 22 (.slice ao k c1) none (some (.int .i64 k)) none).run Try.prog w = .ok (.slice ao k c1) w := fun w => slice_to ao k c1 k (by omega) w
                    have hs2 : ∀ w, (Instr.sliceAt 22 (.slice bo n2 c2) none (some (.int .i64 k)) none).run Try.prog w = .ok (.slice bo k c2) w := fun w => slice_to bo n2 c2 k (by omega) w
                    have i0 : (0 : Int) ≤ (k : Int) := by omega
                    have i1 : (k : Int) ≤ (c1 : Int) := by omega
                    have i2 : (k : Int) ≤ (c2 : Int) := by omega
                    go_wp2
                    go_region_held3 (fun w' => True) (trivial)
                      ((go_at_call 15; refine (unhide D1 _ (by exact (unhide HU).1) (by exact (unhide R1).kp (unhide HU).2) ((unhide R1).off (unhide HE)) (by exact (unhide R2).kp (unhide HU).2) ((unhide R2).off (unhide HE))).mono ?_; rintro e w9 ⟨rfl, h9, m9⟩; have H9 : Hid (UC U (orB D (dotC X Y k)) (2 * k + 2 * k) w9 ∧ Kp w w9) := ⟨(by rw [show (2 * (k : Int) + 2 * (k : Int)) = k + k + 2 * k by omega]; exact h9), (unhide HU).2.mod (by exact m9) (unhide HE)⟩; clear h9 m9))
                    clear HU D1 R1 R2
                    generalize orB D (dotC X Y k) = DD at *
                    generalize dotN X Y k = DN at *
                    go_wp2_with fail
                    refine (unitCut U _ _ _ (unhide H9).1).mono ?_
                    rintro e w10 ⟨rfl, rfl⟩
                    go_wp2_with fail
                    refine (unitCount U _ _ _ (unhide H9).1).mono ?_
                    rintro e w11 ⟨rfl, rfl⟩
                    go_wp2
                    go_ret
                    exact ⟨rfl, (unhide H9).2⟩
              · go_wp2
                go_loopw [9, 10, 17, 18, 19] (fun c d s p i wr => ∃ j : Nat, j ≤ n2 ∧ i = .int .i64 j ∧ s = .int .i64 (dotN X Y j) ∧ c = .bool (orB D (dotC X Y j)) ∧ Hid (UC U D (k + k) wr ∧ Kp w wr)) (fun _ _ _ _ i _ => n2 - (intOf i).toNat)
                case atStart => exact ⟨0, Nat.zero_le _, rfl, rfl, by rw [show orB D (dotC X Y 0) = D from Bool.or_false _], unhide H8⟩
                case round =>
                  obtain ⟨j, hj, rfl, rfl, rfl, HU⟩ := hrel
                  clear H8
                  by_cases hlt2 : j < n2
                  · obtain ⟨b1', o1, rfl, hc1⟩ := ((unhide HR).kp (unhide HU).2).at (show j < k by omega)
                    obtain ⟨b2', o2, rfl, hc2⟩ := ((unhide HT).kp (unhide HU).2).at (show j < n2 by omega)
                    have M1 := hide (fun w => fixMul (X j) (Y j) (unhide hX j (by omega)) (unhide hY j (by omega)) w)
                    have A1 := hide (fun w => fixAdd (dotN X Y j) (mulN (X j) (Y j)) (dotN_I64 X Y j) (mulN_I64 _ _) w)
                    have E1 : Hid (dotN X Y (j + 1) = addN (dotN X Y j) (mulN (X j) (Y j))) := rfl
                    have E2 : Hid (orB D (dotC X Y (j + 1)) = (orB D (dotC X Y j) || mulC (X j) (Y j) || addC (dotN X Y j) (mulN (X j) (Y j)))) := orB_two _ _ _ _
                    change Hid (∀ w, Calls Try.prog 19 #[.int .i64 (X j), .int .i64 (Y j)] w fun e w' => e = .returned (.tuple #[.int .i64 (mulN (X j) (Y j)), .bool (mulC (X j) (Y j))]) ∧ Grown w w') at M1
                    change Hid (∀ w, Calls Try.prog 18 #[.int .i64 (dotN X Y j), .int .i64 (mulN (X j) (Y j))] w fun e w' => e = .returned (.tuple #[.int .i64 (addN (dotN X Y j) (mulN (X j) (Y j))), .bool (addC (dotN X Y j) (mulN (X j) (Y j)))]) ∧ Grown w w') at A1
                    generalize mulN (X j) (Y j) = p at *
                    generalize mulC (X j) (Y j) = pc at *
                    generalize X j = x at *
                    generalize Y j = y at *
                    generalize dotN X Y j = s at *
                    generalize addN s p = q at *
                    generalize addC s p = qc at *
                    generalize orB D (dotC X Y j) = d at *
                    have i0 : (0 : Int) ≤ (j : Int) := by omega
                    have i1 : (j : Int) < (k : Int) := by omega
                    have i2 : (j : Int) < (n2 : Int) := by omega
                    go_wp2
                    go_region_held3 (fun w' => w'.cell? ⟨b1', o1 + j, none⟩ = some (.int .i64 x) ∧ w'.cell? ⟨b2', o2 + j, none⟩ = some (.int .i64 y)) (simp [go_sem, *])
                      ((go_at_call 19; refine (unhide M1 _).mono ?_; rintro e w9 ⟨rfl, g9⟩; have c91 := gat g9 hc1; have c92 := gat g9 hc2; have H9 : Hid (UC U D (k + k) w9 ∧ Kp w w9) := ⟨Blk.grown (unhide HU).1 (by exact g9), (unhide HU).2.grown (by exact g9)⟩; clear g9))
                    clear HU hc1 hc2
                    cases d <;> cases pc
                    all_goals
                      go_wp2_with fail
                      refine (unhide A1 _).mono ?_
                      rintro e w10 ⟨rfl, g10⟩
                      have R : Hid (UC U D (k + k) w10 ∧ Kp w w10) := ⟨Blk.grown (unhide H9).1 g10, (unhide H9).2.grown g10⟩
                      clear g10
                      go_wp2
                      go_roundw
                      case rel => exact ⟨j + 1, by omega, by go_num, by rw [unhide E1], by rw [unhide E2]; rfl, R⟩
                      case measure => simp [intOf]; omega
                  · obtain rfl : n2 = j := by omega
                    have D1 := hide (fun w h => unitDot_ok U D (k + k) ao bo n2 c1 c2 X Y ⟨by omega, by omega⟩ (by omega) (fun i hi => unhide hX i (by omega)) (fun i hi => unhide hY i (by omega)) w h)
                    have R1 : Hid (Row w ao n2 X) := (unhide HR).sub (by omega)
                    have R2 : Hid (Row w bo n2 Y) := (unhide HT).sub (by omega)
                    have hs1 : ∀ w, (Instr.sliceAt 22 (.slice ao k c1) none (some (.int .i64 n2)) none).run Try.prog w = .ok (.slice ao n2 c1) w := fun w => slice_to ao k c1 n2 (by omega) w
                    have hs2 : ∀ w, (Instr.sliceAt 22 (.slice bo n2 c2) none (some (.int .i64 n2)) none).run Try.prog w = .ok (.slice bo n2 c2) w := fun w => slice_to bo n2 c2 n2 (by omega) w
                    have i0 : (0 : Int) ≤ (n2 : Int) := by omega
                    have i1 : (n2 : Int) ≤ (c1 : Int) := by omega
                    have i2 : (n2 : Int) ≤ (c2 : Int) := by omega
                    go_wp2
                    go_region_held3 (fun w' => True) (trivial)
                      ((go_at_call 15; refine (unhide D1 _ (by exact (unhide HU).1) (by exact (unhide R1).kp (unhide HU).2) ((unhide R1).off (unhide HE)) (by exact (unhide R2).kp (unhide HU).2) ((unhide R2).off (unhide HE))).mono ?_; rintro e w9 ⟨rfl, h9, m9⟩; have H9 : Hid (UC U (orB D (dotC X Y n2)) (2 * k + 2 * n2) w9 ∧ Kp w w9) := ⟨(by rw [show (2 * (k : Int) + 2 * (n2 : Int)) = k + k + 2 * n2 by omega]; exact h9), (unhide HU).2.mod (by exact m9) (unhide HE)⟩; clear h9 m9))
                    clear HU D1 R1 R2
                    generalize orB D (dotC X Y n2) = DD at *
                    generalize dotN X Y n2 = DN at *
                    go_wp2_with fail
                    refine (unitCut U _ _ _ (unhide H9).1).mono ?_
                    rintro e w10 ⟨rfl, rfl⟩
                    go_wp2_with fail
                    refine (unitCount U _ _ _ (unhide H9).1).mono ?_
                    rintro e w11 ⟨rfl, rfl⟩
                    go_wp2
                    go_ret
                    exact ⟨rfl, (unhide H9).2⟩

end Go.Proofs.Ytecelkneiffceaa
