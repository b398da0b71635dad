/- What the methods of package unit answer, of a unit that New made. -/
import Derived.Test.YtopaakjildmjcaaGreatUnitB
import Derived.Deep.RegionHeld3
import Derived.Deep.DrawnRows
namespace Go.Proofs.YtopaakjildmjcaaGreat
open Go.RowKit Go.Proofs.Wd
set_option linter.unusedVariables false
set_option linter.unusedSimpArgs false
set_option maxRecDepth 10000
attribute [local go_sem ↓] Go.wp_at_zero Go.wp_at_succ

set_option maxHeartbeats 1000000 in
theorem unitAdd (U : Nat) (c : Bool) (n : Int) (ao : Option Addr) (len cap : Nat) (Z : Nat → Int) (hn : 0 ≤ n ∧ n < 2305843009213693952) (hl : len ≤ 1000000) (hZ : ∀ i, i < len → I64 (Z i)) (w : World) (h : UC U c n w) (hr : Row w ao len Z) (ho : Off U len ao) :
    Calls Tryz.prog 66 #[.pointer (some ⟨U, 0, none⟩), .slice ao len cap] w fun e w' =>
      e = .returned (.int .i64 (thN addN 0 Z len)) ∧ UC U (c || thC addN addC 0 Z len) (n + len) w' ∧ Mod U w w' := by
  have T := hide (unitThrough U c n 0 addN addC 72 (enters_of Tryz.func72 (by kernel_rfl) rfl) (fun a b w ha hb => fixAdd a b ha hb w) addN_I64 (by unfold Hid I64; omega) ao len cap Z hn hl hZ w h hr ho)
  clear hn hl hZ h hr ho
  go_enter Tryz.func66, Tryz.ntmps66
  go_wp2_with fail
  refine (unhide T).mono ?_
  rintro e w1 ⟨rfl, h1⟩
  have H1 := hide h1
  clear h1
  go_wp2
  go_ret
  exact ⟨rfl, unhide H1⟩

set_option maxHeartbeats 1000000 in
theorem unitMul (U : Nat) (c : Bool) (n : Int) (ao : Option Addr) (len cap : Nat) (Z : Nat → Int) (hn : 0 ≤ n ∧ n < 2305843009213693952) (hl : len ≤ 1000000) (hZ : ∀ i, i < len → I64 (Z i)) (w : World) (h : UC U c n w) (hr : Row w ao len Z) (ho : Off U len ao) :
    Calls Tryz.prog 63 #[.pointer (some ⟨U, 0, none⟩), .slice ao len cap] w fun e w' =>
      e = .returned (.int .i64 (thN mulN 4294967296 Z len)) ∧ UC U (c || thC mulN mulC 4294967296 Z len) (n + len) w' ∧ Mod U w w' := by
  have T := hide (unitThrough U c n 4294967296 mulN mulC 73 (enters_of Tryz.func73 (by kernel_rfl) rfl) (fun a b w ha hb => fixMul a b ha hb w) mulN_I64 (by unfold Hid I64; omega) ao len cap Z hn hl hZ w h hr ho)
  clear hn hl hZ h hr ho
  go_enter Tryz.func63, Tryz.ntmps63
  go_wp2_with fail
  refine (unhide T).mono ?_
  rintro e w1 ⟨rfl, h1⟩
  have H1 := hide h1
  clear h1
  go_wp2
  go_ret
  exact ⟨rfl, unhide H1⟩

set_option maxHeartbeats 1000000 in
theorem unitDiv (U : Nat) (c : Bool) (n a b : Int) (ha : I64 a) (hb : I64 b) (hn : 0 ≤ n ∧ n < 2305843009213693952) (w : World) (h : UC U c n w) :
    Calls Tryz.prog 47 #[.pointer (some ⟨U, 0, none⟩), .int .i64 a, .int .i64 b] w fun e w' =>
      e = .returned (.int .i64 (divN a b)) ∧ UC U (c || divC a b) (n + 1) w' ∧ Mod U w w' := by
  have X : Hid (Calls Tryz.prog 81 #[.int .i64 a, .int .i64 b] w fun e w' => e = .returned (.tuple #[.int .i64 (divN a b), .bool (divC a b)]) ∧ Grown w w') := fixDiv a b ha hb w
  generalize divN a b = r at *
  generalize divC a b = d at *
  have H := hide h
  have HN := hide hn
  clear h hn ha hb
  go_enter Tryz.func47, Tryz.ntmps47
  go_wp2_with fail
  refine (unhide X).mono ?_
  rintro e w1 ⟨rfl, h1⟩
  go_wp2_with fail
  refine (unitNote U c _ n _ ⟨(unhide HN).1, by have := (unhide HN).2; omega⟩ w1 (Blk.grown (unhide H) h1)).mono ?_
  rintro e w2 ⟨rfl, h2, m2⟩
  have H2 : Hid (UC U (c || d) (n + 1) w2 ∧ Mod U w w2) := ⟨h2, (Mod.of h1).trans m2⟩
  clear h1 h2 m2
  go_wp2
  go_ret
  exact ⟨rfl, unhide H2⟩

set_option maxHeartbeats 1000000 in
theorem unitWhole (U : Nat) (c : Bool) (n a : Int) (ha : I64 a) (hn : 0 ≤ n ∧ n < 2305843009213693952) (w : World) (h : UC U c n w) :
    Calls Tryz.prog 48 #[.pointer (some ⟨U, 0, none⟩), .int .i64 a] w fun e w' =>
      e = .returned (.int .i64 (whoN a)) ∧ UC U (c || whoC a) (n + 1) w' ∧ Mod U w w' := by
  have X : Hid (Calls Tryz.prog 82 #[.int .i64 a] w fun e w' => e = .returned (.tuple #[.int .i64 (whoN a), .bool (whoC a)]) ∧ Grown w w') := fixWhole a ha w
  generalize whoN a = r at *
  generalize whoC a = d at *
  have H := hide h
  have HN := hide hn
  clear h hn ha
  go_enter Tryz.func48, Tryz.ntmps48
  go_wp2_with fail
  refine (unhide X).mono ?_
  rintro e w1 ⟨rfl, h1⟩
  go_wp2_with fail
  refine (unitNote U c _ n _ ⟨(unhide HN).1, by have := (unhide HN).2; omega⟩ w1 (Blk.grown (unhide H) h1)).mono ?_
  rintro e w2 ⟨rfl, h2, m2⟩
  have H2 : Hid (UC U (c || d) (n + 1) w2 ∧ Mod U w w2) := ⟨h2, (Mod.of h1).trans m2⟩
  clear h1 h2 m2
  go_wp2
  go_ret
  exact ⟨rfl, unhide H2⟩

set_option maxHeartbeats 1000000 in
theorem unitDot_size (U : Nat) (c : Bool) (n : Int) (ao bo : Option Addr) (l1 c1 l2 c2 : Nat) (hne : l1 ≠ l2) (hl : l1 ≤ 1000000) (hk : l2 ≤ 1000000) (w : World) (h : UC U c n w) :
    Calls Tryz.prog 42 #[.pointer (some ⟨U, 0, none⟩), .slice ao l1 c1, .slice bo l2 c2] w fun e w' => e = .returned (.tuple #[.int .i64 0, .int .i64 3]) ∧ w' = w := by
  have H := hide h
  clear h
  have d : ((l1 : Int) == (l2 : Int)) = false := by simp; omega
  go_enter Tryz.func42, Tryz.ntmps42
  go_wp2_with fail
  refine (unitIs U c n w (unhide H)).mono ?_
  rintro e w1 ⟨rfl, rfl⟩
  go_wp2
  go_ret2
  exact ⟨rfl, rfl⟩

set_option maxHeartbeats 2000000 in
theorem unitDot_ok (U : Nat) (c : Bool) (n : Int) (ao bo : Option Addr) (len c1 c2 : Nat) (X Y : Nat → Int) (hn : 0 ≤ n ∧ n < 2305843009213693952) (hl : len ≤ 1000000) (hX : Hid (∀ i, i < len → I64 (X i))) (hY : Hid (∀ i, i < len → I64 (Y i))) (w : World) (h : UC U c n w)
    (hr : Row w ao len X) (ho : Off U len ao) (ht : Row w bo len Y) (hp : Off U len bo) :
    Calls Tryz.prog 42 #[.pointer (some ⟨U, 0, none⟩), .slice ao len c1, .slice bo len c2] w fun e w' =>
      e = .returned (.tuple #[.int .i64 (dotN X Y len), .int .i64 0]) ∧ UC U (c || dotC X Y len) (n + 2 * len) w' ∧ Mod U w w' := by
  have H := hide h
  have HR := hide hr
  have HO := hide ho
  have HT := hide ht
  have HP := hide hp
  clear h hr ho ht hp
  obtain ⟨n0, n1⟩ := hn
  go_enter Tryz.func42, Tryz.ntmps42
  go_wp2_with fail
  refine (unitIs U c n w (unhide H)).mono ?_
  rintro e w1 ⟨rfl, rfl⟩
  go_wp2_with fail
  go_loopw [8, 21] (fun t i wr => ∃ k : Nat, k ≤ len ∧ i = .int .i64 k ∧ t = .int .i64 (dotN X Y k) ∧ Hid (UC U (c || dotC X Y k) (n + 2 * k) wr ∧ Mod U w1 wr)) (fun _ i _ => len - (intOf i).toNat)
  case atStart => exact ⟨0, Nat.zero_le _, rfl, rfl, by show UC _ (c || false) (n + 0) _ ∧ _; rw [Bool.or_false, Int.add_zero]; exact ⟨unhide H, Mod.refl _ _⟩⟩
  case round =>
    obtain ⟨k, hk, rfl, rfl, HU⟩ := hrel
    by_cases hlt : k < len
    · obtain ⟨b1, o1, rfl, hc1⟩ := ((unhide HR).mod (unhide HU).2 (unhide HO)).at hlt
      obtain ⟨b2, o2, rfl, hc2⟩ := ((unhide HT).mod (unhide HU).2 (unhide HP)).at hlt
      have M1 := hide (fun w => fixMul (X k) (Y k) (unhide hX k hlt) (unhide hY k hlt) w)
      have A1 := hide (fun w => fixAdd (dotN X Y k) (mulN (X k) (Y k)) (dotN_I64 X Y k) (mulN_I64 _ _) w)
      have bu1 : b1 ≠ U := unhide HO (by omega) _ rfl
      have bu2 : b2 ≠ U := unhide HP (by omega) _ rfl
      have BU := hide (And.intro bu1 bu2)
      clear bu1 bu2
      have i0 : (0 : Int) ≤ (k : Int) := by omega
      have i1 : (k : Int) < (len : Int) := by omega
      have E1 : Hid (dotN X Y (k + 1) = addN (dotN X Y k) (mulN (X k) (Y k))) := rfl
      have E2 : Hid (dotC X Y (k + 1) = (dotC X Y k || mulC (X k) (Y k) || addC (dotN X Y k) (mulN (X k) (Y k)))) := rfl
      change Hid (∀ w, Calls Tryz.prog 73 #[.int .i64 (X k), .int .i64 (Y k)] w fun e w' => e = .returned (.tuple #[.int .i64 (mulN (X k) (Y k)), .bool (mulC (X k) (Y k))]) ∧ Grown w w') at M1
      change Hid (∀ w, Calls Tryz.prog 72 #[.int .i64 (dotN X Y k), .int .i64 (mulN (X k) (Y k))] w fun e w' => e = .returned (.tuple #[.int .i64 (addN (dotN X Y k) (mulN (X k) (Y k))), .bool (addC (dotN X Y k) (mulN (X k) (Y k)))]) ∧ Grown w w') at A1
      generalize mulN (X k) (Y k) = p at *
      generalize mulC (X k) (Y k) = pc at *
      generalize X k = x at *
      generalize Y k = y at *
      generalize dotN X Y k = s at *
      generalize addN s p = q at *
      generalize addC s p = qc at *
      generalize dotC X Y k = dk at *
      go_wp2
      go_region_held3 (fun w' => w'.cell? ⟨b1, o1 + k, none⟩ = some (.int .i64 x) ∧ w'.cell? ⟨b2, o2 + k, none⟩ = some (.int .i64 y))
        (simp [go_sem, *])
        (first
          | (go_at_call 73; refine (unhide M1 _).mono ?_; rintro e w2 ⟨rfl, h2⟩; have c21 := gat h2 hc1; have c22 := gat h2 hc2; have u2 : Hid (UC U (c || dk) (n + 2 * k) w2 ∧ Mod U w1 w2) := ⟨Blk.grown (unhide HU).1 h2, (unhide HU).2.trans (Mod.of h2)⟩; clear h2)
          | (go_at_call 72; refine (unhide A1 _).mono ?_; rintro e w4 ⟨rfl, h4⟩; have c41 := gat h4 c31; have c42 := gat h4 c32; have u4 : Hid (UC U (c || dk || pc) (n + 2 * k + 1) w4 ∧ Mod U w1 w4) := ⟨Blk.grown (unhide u3).1 h4, (unhide u3).2.trans (Mod.of h4)⟩; clear h4)
          | (go_at_call_of 71 p; refine (unitNote U _ _ _ _ ⟨(by omega), (by omega)⟩ _ (unhide u2).1).mono ?_; rintro e w3 ⟨rfl, h3, m3⟩; have c31 := m3.cell c21 (unhide BU).1; have c32 := m3.cell c22 (unhide BU).2; have u3 : Hid (UC U (c || dk || pc) (n + 2 * k + 1) w3 ∧ Mod U w1 w3) := ⟨h3, (unhide u2).2.trans m3⟩; clear h3 m3)
          | (go_at_call_of 71 q; refine (unitNote U _ _ _ _ ⟨(by omega), (by omega)⟩ _ (unhide u4).1).mono ?_; rintro e w5 ⟨rfl, h5, m5⟩; have c51 := m5.cell c41 (unhide BU).1; have c52 := m5.cell c42 (unhide BU).2; have u5 : Hid (UC U (c || dk || pc || qc) (n + 2 * k + 1 + 1) w5 ∧ Mod U w1 w5) := ⟨h5, (unhide u4).2.trans m5⟩; clear h5 m5))
      have R : Hid (UC U (c || dotC X Y (k + 1)) (n + 2 * ((k + 1 : Nat) : Int)) w5 ∧ Mod U w1 w5) := by
        refine ⟨?_, (unhide u5).2⟩
        rw [unhide E2, ← Bool.or_assoc, ← Bool.or_assoc, show n + 2 * ((k + 1 : Nat) : Int) = n + 2 * k + 1 + 1 by omega]
        exact (unhide u5).1
      go_wp2
      go_roundw
      case rel => exact ⟨k + 1, by omega, by go_num, by rw [unhide E1], R⟩
      case measure => simp [intOf]; omega
    · obtain rfl : k = len := by omega
      go_wp2
      go_ret2
      exact ⟨rfl, (unhide HU).1, (unhide HU).2⟩

end Go.Proofs.YtopaakjildmjcaaGreat
