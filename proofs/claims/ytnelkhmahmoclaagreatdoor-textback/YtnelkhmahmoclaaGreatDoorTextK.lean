/- The walk of TextBack: what is put is got. -/
import Derived.Test.YtnelkhmahmoclaaGreatDoorTextI
import Derived.Test.YtnelkhmahmoclaaGreatDoorTextLawM
namespace Go.Proofs.YtnelkhmahmoclaaGreatDoor
open Go.RowKit Go.Shelf Go.Proofs.Wd
set_option linter.unusedVariables false
set_option linter.unusedSimpArgs false
set_option maxRecDepth 10000

theorem Row.congr {w : World} {ao : Option Addr} {n : Nat} {Z Y : Nat → Int} (h : Row w ao n Z) (e : ∀ i, i < n → Z i = Y i) : Row w ao n Y := by
  rcases h with h | ⟨b, o, rfl, hc⟩
  · exact Or.inl h
  · exact Or.inr ⟨b, o, rfl, fun i hi => by rw [← e i hi]; exact hc i hi⟩
theorem byte_of (S : ByteArray) (k : Nat) (h : k < S.size) : S.data.toList.getD k 0 = S[k] := by
  have hl : k < S.data.toList.length := by rw [Array.length_toList]; exact h
  simp only [List.getD, List.getElem?_eq_getElem hl, Option.getD_some]
  rfl

set_option maxRecDepth 20000 in
set_option maxHeartbeats 4000000 in
theorem lawTextBack (a : Int) (ha : I64 a) (ao : Option Addr) (n cap : Nat) (Z : Nat → Int) (hn : n ≤ 9223372036854775807) (hZ : Hid (∀ i, i < n → I64 (Z i))) (w : World) (hr : Row w ao n Z) :
    Calls Tryz.prog 6 #[.int .i64 a, .slice ao n cap] w fun e w' => e = .returned (.bool true) ∧ Kp w w' := by
  by_cases c1 : a < -9223372036854775807
  · clear hr
    go_enter Tryz.func6, Tryz.ntmps6
    go_wp2_with fail
    refine (lawTextKnown _).mono ?_
    rintro e w1 ⟨rfl, k1⟩
    go_wp2
    go_ret
    exact ⟨rfl, k1⟩
  by_cases c2 : 40 < n
  · have c2' : (40 : Int) < (n : Int) := by omega
    clear hr
    go_enter Tryz.func6, Tryz.ntmps6
    go_wp2_with fail
    refine (lawTextKnown _).mono ?_
    rintro e w1 ⟨rfl, k1⟩
    go_wp2
    go_ret
    exact ⟨rfl, k1⟩
  have c2' : ¬ (40 : Int) < (n : Int) := by omega
  have ra : -9223372036854775807 ≤ a ∧ a ≤ 9223372036854775807 := by unfold I64 at ha; omega
  have ga := get_put a ra.1 ra.2
  have la := putL_len a ha
  have PA := hide (fun w => textPutT a ha w)
  obtain ⟨SA, hSA⟩ : ∃ S : ByteArray, (⟨(putL a).toArray⟩ : ByteArray) = S := ⟨_, rfl⟩
  have dA : SA.data.toList = putL a := by rw [← hSA]
  have zA : SA.size ≤ 60 := by rw [← hSA]; exact la
  have lA : (putL a).length = SA.size := by rw [← hSA]; rfl
  have GA := hide (fun w => lawGets SA a 0 (by omega) (by rw [dA]; exact ga) w)
  rw [hSA] at PA
  have HB : Hid (∀ k (h : k < SA.size), isD SA[k] = true ∨ SA[k] = 46 ∨ (SA[k] = 45 ∧ k = 0)) := fun k h => by
    have e := byte_of SA k h
    rw [dA] at e
    have p := put_bytes a k (by omega)
    rw [e] at p
    exact p
  have HR := hide hr
  clear hr la ga hSA dA lA ra
  go_enter Tryz.func6, Tryz.ntmps6
  go_wp2_with fail
  refine (lawTextKnown _).mono ?_
  rintro e w1 ⟨rfl, k1⟩
  have S1 := hide k1
  clear k1
  go_wp2_with fail
  refine (unhide PA _).mono ?_
  rintro e w2 ⟨rfl, k2⟩
  have S2 := hide ((unhide S1).trans k2)
  clear k2 S1 PA
  go_wp2_with fail
  go_loop [7] (fun i => ∃ k : Nat, k ≤ SA.size ∧ i = .int .i64 k) (fun i => SA.size - (intOf i).toNat)
  case atStart => exact ⟨0, Nat.zero_le _, rfl⟩
  case round =>
    obtain ⟨k, hk, rfl⟩ := hrel
    by_cases hlt : k < SA.size
    · have h1 : (k : Int) < (SA.size : Int) := by omega
      rcases unhide HB k hlt with h | h | ⟨h, h0⟩
      · unfold isD at h
        have h' : 48 ≤ (SA[k]).toNat ∧ (SA[k]).toNat ≤ 57 := of_decide_eq_true h
        have d1 : ¬ ((SA[k]).toNat : Int) < 48 := by omega
        have d2 : ¬ (57 : Int) < ((SA[k]).toNat : Int) := by omega
        clear h h'
        go_wp2
        go_round
        case rel => exact ⟨k + 1, by omega, by go_num⟩
        case measure => simp [intOf]; omega
      · have e : ((SA[k]).toNat : Int) = 46 := by rw [h]; rfl
        clear h
        go_wp2
        go_round
        case rel => exact ⟨k + 1, by omega, by go_num⟩
        case measure => simp [intOf]; omega
      · have e : ((SA[k]).toNat : Int) = 45 := by rw [h]; rfl
        have d4 : ¬ (0 : Int) < (k : Int) := by omega
        clear h h0
        go_wp2
        go_round
        case rel => exact ⟨k + 1, by omega, by go_num⟩
        case measure => simp [intOf]; omega
    · obtain rfl : k = SA.size := by omega
      have R2 := hide ((unhide HR).kp (unhide S2))
      clear HB
      go_wp2_with fail
      go_loop [8] (fun i => ∃ k : Nat, k ≤ n ∧ i = .int .i64 k ∧ Hid (∀ j, j < k → -9223372036854775807 ≤ Z j)) (fun i => n - (intOf i).toNat)
      case atStart => exact ⟨0, Nat.zero_le _, rfl, fun j hj => absurd hj (Nat.not_lt_zero _)⟩
      case round =>
        obtain ⟨k, hk, rfl, HA⟩ := hrel
        by_cases hlt : k < n
        · obtain ⟨b, o, e1, hc⟩ := (unhide R2).at hlt
          subst e1
          by_cases hz : Z k < -9223372036854775807
          · clear R2 HR HA
            go_wp2
            go_ret
            exact ⟨rfl, unhide S2⟩
          · have HA' : Hid (∀ j, j < k + 1 → -9223372036854775807 ≤ Z j) := fun j hj => by
              by_cases e : j = k
              · subst e; omega
              · exact unhide HA j (by omega)
            clear HA
            go_wp2
            go_round
            case rel => exact ⟨k + 1, by omega, by go_num, HA'⟩
            case measure => simp [intOf]; omega
        · obtain rfl : k = n := by omega
          have hll : (lineL Z k).length ≤ 61 * k := lineL_len Z k (unhide hZ)
          have hlist := list_line Z k (fun i hi => ⟨unhide HA i hi, by have := unhide hZ i hi; unfold I64 at this; omega⟩)
          have LN := hide (textLineT ao k cap Z (by omega) hZ w2 (unhide R2))
          obtain ⟨T, hT⟩ : ∃ T : ByteArray, (⟨(lineL Z k).toArray⟩ : ByteArray) = T := ⟨_, rfl⟩
          have LI := hide (fun w => textListT T (by rw [← hT]; show (lineL Z k).length ≤ _; omega) w)
          rw [show T.data.toList = lineL Z k by rw [← hT], hlist] at LI
          rw [hT] at LN
          clear hT hlist hll HA HR
          go_wp2_with fail
          refine (unhide LN).mono ?_
          rintro e w3 ⟨rfl, k3⟩
          have S3 : Hid (Row w3 ao k Z ∧ Kp w w3) := ⟨(unhide R2).kp k3, (unhide S2).trans k3⟩
          clear k3 R2 S2 LN
          go_wp2_with fail
          refine (unhide LI _).mono ?_
          rintro e w4 hp
          obtain ⟨ao2, cap2, rfl, r4, -, k4⟩ := hp
          have hl4 : ((List.range k).map Z).length = k := by simp
          simp only [hl4] at r4 ⊢
          have gb : Grown w4 (w4.alloc (.cells #[.int .i64 0, .int .i64 0] 33)) := (Grown.refl _).alloc _ _
          have S4 : Hid (Row (w4.alloc (.cells #[.int .i64 0, .int .i64 0] 33)) ao k Z ∧ Row (w4.alloc (.cells #[.int .i64 0, .int .i64 0] 33)) ao2 k Z ∧ Blk w4.heap.size #[.int .i64 0, .int .i64 0] 33 (w4.alloc (.cells #[.int .i64 0, .int .i64 0] 33)) ∧ Kp w (w4.alloc (.cells #[.int .i64 0, .int .i64 0] 33))) :=
            ⟨((unhide S3).1.kp k4).grown gb, (Row.congr r4 (fun i hi => by simp [List.getD, hi])).grown gb, heap_alloc_new w4 _, ((unhide S3).2.trans k4).grown gb⟩
          clear r4 k4 gb S3 LI
          go_wp2_with fail
          refine (unhide GA _).mono ?_
          rintro e w5 ⟨rfl, k5⟩
          have S5 : Hid (Row w5 ao k Z ∧ Row w5 ao2 k Z ∧ Kp w w5) := ⟨(unhide S4).1.kp k5, (unhide S4).2.1.kp k5, (unhide S4).2.2.2.trans k5⟩
          have b5 := Blk.kp (unhide S4).2.2.1 k5
          generalize w4.heap.size = B4 at *
          have d0 : w5.cell? ⟨B4, 0, none⟩ = some (.int .i64 0) := Blk.cell b5 0
          have d1 : w5.cell? ⟨B4, 1, none⟩ = some (.int .i64 0) := Blk.cell b5 1
          clear k5 S4 b5 GA
          go_wp2_with fail
          refine (kitSameQ ao2 ao k cap2 cap Z (by omega) _ (unhide S5).2.1 (unhide S5).1).mono ?_
          rintro e w6 ⟨rfl, m, rfl⟩
          have KK : Hid (Kp w (w5.drewN m)) := (unhide S5).2.2
          clear S5 d0 d1
          go_wp2
          go_ret
          exact ⟨rfl, unhide KK⟩
end Go.Proofs.YtnelkhmahmoclaaGreatDoor
