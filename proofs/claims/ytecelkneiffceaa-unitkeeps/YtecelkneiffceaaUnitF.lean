/- Lists side by side, and the walk of UnitKeeps. -/
import Derived.Test.YtecelkneiffceaaUnitE
namespace Go.Proofs.Ytecelkneiffceaa
open Go.RowKit Go.Proofs.Wd
set_option linter.unusedVariables false
set_option linter.unusedSimpArgs false
attribute [local go_sem ↓] Go.wp_at_zero Go.wp_at_succ

set_option maxHeartbeats 1000000 in
theorem kitSame (ao bo : Option Addr) (len c1 c2 : Nat) (X : Nat → Int) (hl : len ≤ 1000000) (w : World) (hr : Row w ao len X) (ht : Row w bo len X) :
    Calls Try.prog 21 #[.slice ao len c1, .slice bo len c2] w fun e w' => e = .returned (.bool true) ∧ Grown w w' := by
  have HR := hide hr
  have HT := hide ht
  clear hr ht
  go_enter Try.func21, Try.ntmps21
  go_wp2
  go_loopw [5] (fun i wr => ∃ k : Nat, k ≤ len ∧ i = .int .i64 k ∧ Hid (Grown w wr)) (fun i _ => len - (intOf i).toNat)
  case atStart => exact ⟨0, Nat.zero_le _, rfl, Grown.refl _⟩
  case round =>
    obtain ⟨k, hk, rfl, HG⟩ := hrel
    by_cases hlt : k < len
    · obtain ⟨b1, o1, rfl, hc1⟩ := ((unhide HR).grown (unhide HG)).at hlt
      obtain ⟨b2, o2, rfl, hc2⟩ := ((unhide HT).grown (unhide HG)).at hlt
      generalize X k = x at *
      have i0 : (0 : Int) ≤ (k : Int) := by omega
      have i1 : (k : Int) < (len : Int) := by omega
      go_wp2
      go_region_held3 (fun w' => w'.cell? ⟨b1, o1 + k, none⟩ = some (.int .i64 x) ∧ w'.cell? ⟨b2, o2 + k, none⟩ = some (.int .i64 x)) (simp [go_sem, *]) (fail)
      go_wp2
      go_roundw
      case rel => exact ⟨k + 1, by omega, by go_num, Grown.drew (unhide HG)⟩
      case measure => simp [intOf]; omega
    · obtain rfl : k = len := by omega
      go_wp2
      go_ret
      exact ⟨rfl, unhide HG⟩

theorem Acts.grown {w w' : World} {ao : Option Addr} {len : Nat} {X : Nat → ActV} (h : Acts w ao len X) (g : Grown w w') : Acts w' ao len X := by
  rcases h with h | ⟨b, o, rfl, hc⟩
  · exact Or.inl h
  · refine Or.inr ⟨b, o, rfl, fun i hi j hj => ?_⟩
    have e : (X i).cells[j]? = some ((X i).cells[j]'(by simpa [ActV.cells] using hj)) := Array.getElem?_eq_getElem _
    rw [e]
    exact gat g ((hc i hi j hj).trans e)
theorem ActV.rows.grown {x : ActV} {w w' : World} (h : x.rows w) (g : Grown w w') : x.rows w' := ⟨h.1.grown g, h.2.grown g⟩
theorem ActV.rows.off {x : ActV} {w : World} (h : x.rows w) {U : Nat} (hU : w.heap.size ≤ U) : x.off U := ⟨h.1.off hU, h.2.off hU⟩

/-- What UnitKeeps says of an act. -/
theorem actR_count (x : ActV) (c : Bool) (h : x.short) : 0 ≤ (actR x c).2.2.2 ∧ (actR x c).2.2.2 ≤ 40 := by
  obtain ⟨h1, h2⟩ := h
  unfold actR
  repeat' split
  all_goals (simp only; omega)
theorem actR_nine (x : ActV) (c : Bool) (h : x.kind = 9) : (actR x c).2.2.1 = false := by
  simp [actR, h]
theorem actR_eight (x : ActV) (c : Bool) (h : x.kind = 8) : (actR x c).2.2.1 = (c || x.is) := by
  simp [actR, h]
theorem actR_keeps (x : ActV) (h : x.kind ≠ 9) : (actR x true).2.2.1 = true := by
  unfold actR
  repeat' split
  all_goals simp_all

set_option maxRecDepth 100000 in
set_option maxHeartbeats 4000000 in
theorem lawUnitKeeps (ao : Option Addr) (len cap : Nat) (X : Nat → ActV) (hl : len ≤ 9223372036854775807) (hX : Hid (∀ i, i < len → (X i).ln ≤ 9223372036854775807 ∧ (X i).kn ≤ 9223372036854775807)) (hI : Hid (∀ i, i < len → (X i).nums)) (w : World) (h : Acts w ao len X) (hR : Hid (∀ i, i < len → (X i).rows w)) :
    Calls Try.prog 6 #[.slice ao len cap] w fun e w' => e = .returned (.bool true) ∧ Grown w w' := by
  have H := hide h
  clear h
  go_enter Try.func6, Try.ntmps6
  go_wp2_with fail
  refine (lawAwake _).mono ?_
  rintro e w1 ⟨rfl, g1⟩
  have G1 := hide g1
  clear g1
  have N1 := hide (unitNew w1)
  have hU := (unhide G1).2.2
  generalize eU : w1.heap.size = U at N1 hU
  have HE := hide hU
  clear eU hU
  go_wp2_with fail
  refine (unhide N1).mono ?_
  clear N1
  rintro e w2 ⟨rfl, h2, g2⟩
  have H2 := hide h2
  have G2 := hide (gtrans (unhide G1) g2)
  clear h2 g2
  go_wp2_with fail
  refine (lawLong ao len cap X hl hX w2 ((unhide H).grown (unhide G2))).mono ?_
  rintro e w3 hp
  obtain ⟨r, rfl, rfl, hs⟩ := hp
  cases r with
  | true =>
    go_wp2
    go_ret
    exact ⟨rfl, unhide G2⟩
  | false =>
    obtain ⟨l60, hs2⟩ := hs rfl
    have HS := hide hs2
    clear hs hs2 hX hl
    go_wp2_with fail
    go_loopw [5] (fun i wr => ∃ (k : Nat) (c : Bool) (n : Int), k ≤ len ∧ i = .int .i64 k ∧ 0 ≤ n ∧ n ≤ 40 * k ∧ Hid (UC U c n wr ∧ Grown w wr)) (fun i _ => len - (intOf i).toNat)
    case atStart => exact ⟨0, false, 0, Nat.zero_le _, rfl, by omega, by omega, unhide H2, unhide G2⟩
    case round =>
      obtain ⟨k, c, n, hk, rfl, n0, n1, HU⟩ := hrel
      by_cases hlt : k < len
      · obtain ⟨b, o, rfl, c0, c1, c2, c3, c4, c5⟩ := ((unhide H).grown (unhide HU).2).at hlt
        have A := hide (lawAct (X k) U c n ⟨n0, by omega⟩ (unhide HS k hlt) (unhide hI k hlt))
        have AC := hide (actR_count (X k) c (unhide HS k hlt))
        have RO := hide (And.intro (unhide hR k hlt) ((unhide hR k hlt).off (unhide HE)))
        clear H2 G2
        go_wp2_with fail
        refine (unitCut U _ _ _ (unhide HU).1).mono ?_
        rintro e w4 ⟨rfl, rfl⟩
        go_wp2_with fail
        refine (unitCount U _ _ _ (unhide HU).1).mono ?_
        rintro e w5 ⟨rfl, rfl⟩
        go_wp2_with fail
        refine (unhide A w5 ((unhide RO).1.grown (unhide HU).2) (unhide RO).2 (unhide HU).1).mono ?_
        rintro e w6 ⟨rfl, h6, m6⟩
        have g6 := Mod.grown (unhide HU).2 m6 (unhide HE)
        obtain ⟨b', o', hbo, d0, -, -, -, -, d5⟩ := ((unhide H).grown g6).at hlt
        cases hbo
        have A9 := hide (actR_nine (X k) c)
        have A8 := hide (actR_eight (X k) c)
        have AK := hide (actR_keeps (X k))
        have HV : Hid (UC U (actR (X k) c).2.2.1 (n + (actR (X k) c).2.2.2) w6 ∧ Grown w w6) := ⟨h6, g6⟩
        have AQ := hide (unhide AC)
        clear h6 m6 g6 A AC RO HU c0 c1 c2 c3 c4 c5
        generalize (X k).kind = kd at *
        generalize (X k).is = is at *
        have q0 := (unhide AQ).1
        have q1 := (unhide AQ).2
        clear AQ
        generalize (actR (X k) c).2.2.2 = q at *
        by_cases k9 : kd = 9
        · rw [unhide A9 k9] at HV
          clear A9 A8 AK
          subst k9
          go_wp2_with (first
            | (go_at_call 13; refine (unitCut U _ _ _ (unhide HV).1).mono ?_; rintro e w' ⟨rfl, rfl⟩)
            | (go_at_call 10; refine (unitCount U _ _ _ (unhide HV).1).mono ?_; rintro e w' ⟨rfl, rfl⟩))
          go_roundw
          case rel => exact ⟨k + 1, _, n + q, by omega, by go_num, by omega, by omega, unhide HV⟩
          case measure => simp [intOf]; omega
        · by_cases k8 : kd = 8
          · rw [unhide A8 k8] at HV
            clear A9 A8 AK k9
            subst k8
            cases c <;> cases is
            all_goals
              go_wp2_with (first
                | (go_at_call 13; refine (unitCut U _ _ _ (unhide HV).1).mono ?_; rintro e w' ⟨rfl, rfl⟩)
                | (go_at_call 10; refine (unitCount U _ _ _ (unhide HV).1).mono ?_; rintro e w' ⟨rfl, rfl⟩))
              go_roundw
              case rel => exact ⟨k + 1, _, n + q, by omega, by go_num, by omega, by omega, unhide HV⟩
              case measure => simp [intOf]; omega
          · cases c with
            | true =>
              rw [unhide AK k9] at HV
              clear A9 A8 AK
              go_wp2_with (first
                | (go_at_call 13; refine (unitCut U _ _ _ (unhide HV).1).mono ?_; rintro e w' ⟨rfl, rfl⟩)
                | (go_at_call 10; refine (unitCount U _ _ _ (unhide HV).1).mono ?_; rintro e w' ⟨rfl, rfl⟩))
              go_roundw
              case rel => exact ⟨k + 1, _, n + q, by omega, by go_num, by omega, by omega, unhide HV⟩
              case measure => simp [intOf]; omega
            | false =>
              clear A9 A8 AK
              generalize (actR (X k) false).2.2.1 = d at *
              go_wp2_with (first
                | (go_at_call 13; refine (unitCut U _ _ _ (unhide HV).1).mono ?_; rintro e w' ⟨rfl, rfl⟩)
                | (go_at_call 10; refine (unitCount U _ _ _ (unhide HV).1).mono ?_; rintro e w' ⟨rfl, rfl⟩))
              go_roundw
              case rel => exact ⟨k + 1, _, n + q, by omega, by go_num, by omega, by omega, unhide HV⟩
              case measure => simp [intOf]; omega
      · obtain rfl : k = len := by omega
        clear H2 G2
        go_wp2_with fail
        refine (unitSet U c true n _ (unhide HU).1).mono ?_
        rintro e w4 ⟨rfl, h4, m4⟩
        rw [Bool.or_true] at h4
        have H4 := hide h4
        have G4 := hide (Mod.grown (unhide HU).2 m4 (unhide HE))
        clear h4 m4 HU
        go_wp2_with fail
        refine (unitSet U true false n _ (unhide H4)).mono ?_
        rintro e w5 ⟨rfl, h5, m5⟩
        rw [Bool.or_false] at h5
        have H5 := hide h5
        have G5 := hide (Mod.grown (unhide G4) m5 (unhide HE))
        clear h5 m5 H4 G4
        go_wp2_with fail
        refine (unitCut U _ _ _ (unhide H5)).mono ?_
        rintro e w6 ⟨rfl, rfl⟩
        go_wp2_with fail
        refine (unitAddL [1] 1 false i64_lits.2.2.2.2.2 (by decide) (by decide) (by decide) U true n ⟨n0, by omega⟩ _ _ _ _ (Blk.grown (unhide H5) ((Grown.refl _).alloc _ _)) (heap_alloc_new _ _) (Nat.ne_of_gt (Blk.lt (unhide H5)))).mono ?_
        rintro e w7 ⟨rfl, h7, m7⟩
        rw [Bool.or_false] at h7
        have H7 := hide h7
        have G7 := hide (Mod.grown ((unhide G5).alloc _ _) m7 (unhide HE))
        clear h7 m7 H5 G5
        go_wp2_with fail
        refine (kitSame _ _ 1 _ _ (ix [1]) (by omega) _ (row_lit (l := [1]) (Blk.grown (heap_alloc_new w7 _) ((Grown.refl _).alloc _ _))) (row_lit (l := [1]) (blk_new2 _ _ _ _))).mono ?_
        rintro e w8 ⟨rfl, g8⟩
        have H8 : Hid (UC U true (n + (([1] : List Int).length : Int)) w8) := Blk.grown (Blk.grown (unhide H7) (((Grown.refl _).alloc _ _).alloc _ _)) g8
        have G8 := hide (gtrans (((unhide G7).alloc _ _).alloc _ _) g8)
        clear g8 H7 G7
        go_wp2_with fail
        refine (unitCut U _ _ _ (unhide H8)).mono ?_
        rintro e w9 ⟨rfl, rfl⟩
        go_wp2
        go_ret
        exact ⟨rfl, unhide G8⟩

end Go.Proofs.Ytecelkneiffceaa
