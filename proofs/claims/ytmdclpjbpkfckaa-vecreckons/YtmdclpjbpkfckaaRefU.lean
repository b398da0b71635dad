/- The document's unit: what each of its functions answers. -/
import Derived.Test.YtmdclpjbpkfckaaUnitC
import Derived.Test.YtmdclpjbpkfckaaFixR
import Derived.Test.YtmdclpjbpkfckaaRootS
namespace Go.Proofs.Ytmdclpjbpkfckaa
open Go.RowKit Go.Proofs.Wd
set_option linter.unusedVariables false
set_option linter.unusedSimpArgs false
attribute [local go_sem ↓] Go.wp_at_zero Go.wp_at_succ

def RC (U : Nat) (c : Bool) (n : Int) (w : World) : Prop := Blk U #[.bool c, .int .i64 n] 57 w
theorem RC.c0 {U : Nat} {c : Bool} {n : Int} {w : World} (h : RC U c n w) : w.cell? ⟨U, 0, none⟩ = some (.bool c) := Blk.cell h 0
theorem RC.c1 {U : Nat} {c : Bool} {n : Int} {w : World} (h : RC U c n w) : w.cell? ⟨U, 1, none⟩ = some (.int .i64 n) := Blk.cell h 1
theorem RC.set0 {U : Nat} {c : Bool} {n : Int} {w : World} (h : RC U c n w) (d : Bool) : RC U d n (w.setCell ⟨U, 0, none⟩ (.bool d)) := Blk.set h 0 _
theorem RC.set1 {U : Nat} {c : Bool} {n : Int} {w : World} (h : RC U c n w) (m : Int) : RC U c m (w.setCell ⟨U, 1, none⟩ (.int .i64 m)) := Blk.set h 1 _

set_option maxHeartbeats 400000 in
theorem refUNew (w : World) : Calls Try.prog 11 #[] w fun e w' => e = .returned (.pointer (some ⟨w.heap.size, 0, none⟩)) ∧ RC w.heap.size false 0 w' ∧ Grown w w' := by
  go_enter Try.func11, Try.ntmps11
  go_wp2
  go_ret
  exact ⟨rfl, heap_alloc_new w _, (Grown.refl _).alloc _ _⟩

set_option maxHeartbeats 400000 in
theorem refUDid (U : Nat) (c d : Bool) (n x : Int) (hn : 0 ≤ n ∧ n < 4611686018427387904) (w : World) (h : RC U c n w) : Calls Try.prog 51 #[.pointer (some ⟨U, 0, none⟩), .int .i64 x, .bool d] w fun e w' => e = .returned (.int .i64 x) ∧ RC U (c || d) (n + 1) w' ∧ Mod U w w' := by
  have h0 := h.c0
  have h1 := h.c1
  have f0 := h.free 0
  have f1 := h.free 1
  have H := hide h
  clear h
  obtain ⟨n0, n1⟩ := hn
  cases c
  all_goals
    go_enter Try.func51, Try.ntmps51
    go_wp2
    go_ret
    exact ⟨rfl, ((unhide H).set1 _).set0 _, ((Mod.refl _ _).setCell _ _).setCell _ _⟩

set_option maxHeartbeats 1000000 in
theorem refUPlus (U : Nat) (c : Bool) (n a b : Int) (ha : I64 a) (hb : I64 b) (hn : 0 ≤ n ∧ n < 4611686018427387904) (w : World) (h : RC U c n w) :
    Calls Try.prog 46 #[.pointer (some ⟨U, 0, none⟩), .int .i64 a, .int .i64 b] w fun e w' =>
      e = .returned (.int .i64 (addN a b)) ∧ RC U (c || addC a b) (n + 1) w' ∧ Mod U w w' := by
  have X : Hid (Calls Try.prog 57 #[.int .i64 a, .int .i64 b] w fun e w' => e = .returned (.tuple #[.int .i64 (addN a b), .bool (addC a b)]) ∧ Grown w w') := refAdd2 a b ha hb w
  generalize addN a b = r at *
  generalize addC a b = d at *
  have H := hide h
  have HN := hide hn
  clear h hn ha hb
  go_enter Try.func46, Try.ntmps46
  go_wp2_with fail
  refine (unhide X).mono ?_
  rintro e w1 ⟨rfl, h1⟩
  go_wp2_with fail
  refine (refUDid U c _ n _ (unhide HN) w1 (Blk.grown (unhide H) h1)).mono ?_
  rintro e w2 ⟨rfl, h2, m2⟩
  have H2 : Hid (RC U (c || d) (n + 1) w2 ∧ Mod U w w2) := ⟨h2, (Mod.of h1).trans m2⟩
  clear h1 h2 m2
  go_wp2
  go_ret
  exact ⟨rfl, unhide H2⟩

set_option maxHeartbeats 1000000 in
theorem refUTimes (U : Nat) (c : Bool) (n a b : Int) (ha : I64 a) (hb : I64 b) (hn : 0 ≤ n ∧ n < 4611686018427387904) (w : World) (h : RC U c n w) :
    Calls Try.prog 54 #[.pointer (some ⟨U, 0, none⟩), .int .i64 a, .int .i64 b] w fun e w' =>
      e = .returned (.int .i64 (mulN a b)) ∧ RC U (c || mulC a b) (n + 1) w' ∧ Mod U w w' := by
  have X : Hid (Calls Try.prog 72 #[.int .i64 a, .int .i64 b] w fun e w' => e = .returned (.tuple #[.int .i64 (mulN a b), .bool (mulC a b)]) ∧ Grown w w') := refMul2 a b ha hb w
  generalize mulN a b = r at *
  generalize mulC a b = d at *
  have H := hide h
  have HN := hide hn
  clear h hn ha hb
  go_enter Try.func54, Try.ntmps54
  go_wp2_with fail
  refine (unhide X).mono ?_
  rintro e w1 ⟨rfl, h1⟩
  go_wp2_with fail
  refine (refUDid U c _ n _ (unhide HN) w1 (Blk.grown (unhide H) h1)).mono ?_
  rintro e w2 ⟨rfl, h2, m2⟩
  have H2 : Hid (RC U (c || d) (n + 1) w2 ∧ Mod U w w2) := ⟨h2, (Mod.of h1).trans m2⟩
  clear h1 h2 m2
  go_wp2
  go_ret
  exact ⟨rfl, unhide H2⟩

set_option maxHeartbeats 1000000 in
theorem refUSub (U : Nat) (c : Bool) (n a b : Int) (ha : I64 a) (hb : I64 b) (hn : 0 ≤ n ∧ n < 4611686018427387904) (w : World) (h : RC U c n w) :
    Calls Try.prog 35 #[.pointer (some ⟨U, 0, none⟩), .int .i64 a, .int .i64 b] w fun e w' =>
      e = .returned (.int .i64 (subN a b)) ∧ RC U (c || subC a b) (n + 1) w' ∧ Mod U w w' := by
  have X : Hid (Calls Try.prog 50 #[.int .i64 a, .int .i64 b] w fun e w' => e = .returned (.tuple #[.int .i64 (subN a b), .bool (subC a b)]) ∧ Grown w w') := refSub2 a b ha hb w
  generalize subN a b = r at *
  generalize subC a b = d at *
  have H := hide h
  have HN := hide hn
  clear h hn ha hb
  go_enter Try.func35, Try.ntmps35
  go_wp2_with fail
  refine (unhide X).mono ?_
  rintro e w1 ⟨rfl, h1⟩
  go_wp2_with fail
  refine (refUDid U c _ n _ (unhide HN) w1 (Blk.grown (unhide H) h1)).mono ?_
  rintro e w2 ⟨rfl, h2, m2⟩
  have H2 : Hid (RC U (c || d) (n + 1) w2 ∧ Mod U w w2) := ⟨h2, (Mod.of h1).trans m2⟩
  clear h1 h2 m2
  go_wp2
  go_ret
  exact ⟨rfl, unhide H2⟩

set_option maxHeartbeats 1000000 in
theorem refUAdd (U : Nat) (c : Bool) (n : Int) (ao : Option Addr) (len cap : Nat) (Z : Nat → Int) (hn : 0 ≤ n ∧ n < 2305843009213693952) (hl : len ≤ 1000000) (hZ : Hid (∀ i, i < len → I64 (Z i))) (w : World) (h : RC U c n w) (hr : Row w ao len Z) (ho : Off U len ao) :
    Calls Try.prog 31 #[.pointer (some ⟨U, 0, none⟩), .slice ao len cap] w fun e w' =>
      e = .returned (.int .i64 (thN addN 0 Z len)) ∧ RC U (c || thC addN addC 0 Z len) (n + len) w' ∧ Mod U w w' := by
  have H := hide h
  have HR := hide hr
  have HO := hide ho
  clear h hr ho
  obtain ⟨n0, n1⟩ := hn
  go_enter Try.func31, Try.ntmps31
  go_wp2_with fail
  go_loopw [5, 6] (fun t i wr => ∃ k : Nat, k ≤ len ∧ i = .int .i64 k ∧ t = .int .i64 (thN addN 0 Z k) ∧ Hid (RC U (c || thC addN addC 0 Z k) (n + k) wr ∧ Mod U w wr)) (fun _ i _ => len - (intOf i).toNat)
  case atStart => exact ⟨0, Nat.zero_le _, rfl, rfl, by show RC _ (c || false) (n + 0) _ ∧ _; rw [Bool.or_false, Int.add_zero]; exact ⟨unhide H, Mod.refl _ _⟩⟩
  case round =>
    obtain ⟨k, hk, rfl, rfl, HU⟩ := hrel
    by_cases hlt : k < len
    · obtain ⟨b, o, rfl, hc⟩ := ((unhide HR).mod (unhide HU).2 (unhide HO)).at hlt
      go_wp2_with fail
      refine (refUPlus U _ _ _ _ (thN_I64 addN addN_I64 0 (by unfold I64; omega) Z k) (unhide hZ k hlt) ⟨by omega, by omega⟩ _ (unhide HU).1).mono ?_
      rintro e w3 ⟨rfl, h3, m3⟩
      have R : Hid (RC U (c || thC addN addC 0 Z (k + 1)) (n + ((k + 1 : Nat) : Int)) w3 ∧ Mod U w w3) := by
        refine ⟨?_, (unhide HU).2.trans m3⟩
        show RC U (c || (thC addN addC 0 Z k || addC (thN addN 0 Z k) (Z k))) _ _
        rw [← Bool.or_assoc, show n + ((k + 1 : Nat) : Int) = n + k + 1 by omega]
        exact h3
      clear h3 m3 hc
      go_wp2
      go_roundw
      case rel => exact ⟨k + 1, by omega, by go_num, rfl, R⟩
      case measure => simp [intOf]; omega
    · obtain rfl : k = len := by omega
      go_wp2
      go_ret
      exact ⟨rfl, (unhide HU).1, (unhide HU).2⟩

set_option maxHeartbeats 1000000 in
theorem refUMul (U : Nat) (c : Bool) (n : Int) (ao : Option Addr) (len cap : Nat) (Z : Nat → Int) (hn : 0 ≤ n ∧ n < 2305843009213693952) (hl : len ≤ 1000000) (hZ : Hid (∀ i, i < len → I64 (Z i))) (w : World) (h : RC U c n w) (hr : Row w ao len Z) (ho : Off U len ao) :
    Calls Try.prog 38 #[.pointer (some ⟨U, 0, none⟩), .slice ao len cap] w fun e w' =>
      e = .returned (.int .i64 (thN mulN 4294967296 Z len)) ∧ RC U (c || thC mulN mulC 4294967296 Z len) (n + len) w' ∧ Mod U w w' := by
  have H := hide h
  have HR := hide hr
  have HO := hide ho
  clear h hr ho
  obtain ⟨n0, n1⟩ := hn
  go_enter Try.func38, Try.ntmps38
  go_wp2_with fail
  go_loopw [5, 6] (fun t i wr => ∃ k : Nat, k ≤ len ∧ i = .int .i64 k ∧ t = .int .i64 (thN mulN 4294967296 Z k) ∧ Hid (RC U (c || thC mulN mulC 4294967296 Z k) (n + k) wr ∧ Mod U w wr)) (fun _ i _ => len - (intOf i).toNat)
  case atStart => exact ⟨0, Nat.zero_le _, rfl, rfl, by show RC _ (c || false) (n + 0) _ ∧ _; rw [Bool.or_false, Int.add_zero]; exact ⟨unhide H, Mod.refl _ _⟩⟩
  case round =>
    obtain ⟨k, hk, rfl, rfl, HU⟩ := hrel
    by_cases hlt : k < len
    · obtain ⟨b, o, rfl, hc⟩ := ((unhide HR).mod (unhide HU).2 (unhide HO)).at hlt
      go_wp2_with fail
      refine (refUTimes U _ _ _ _ (thN_I64 mulN mulN_I64 4294967296 (by unfold I64; omega) Z k) (unhide hZ k hlt) ⟨by omega, by omega⟩ _ (unhide HU).1).mono ?_
      rintro e w3 ⟨rfl, h3, m3⟩
      have R : Hid (RC U (c || thC mulN mulC 4294967296 Z (k + 1)) (n + ((k + 1 : Nat) : Int)) w3 ∧ Mod U w w3) := by
        refine ⟨?_, (unhide HU).2.trans m3⟩
        show RC U (c || (thC mulN mulC 4294967296 Z k || mulC (thN mulN 4294967296 Z k) (Z k))) _ _
        rw [← Bool.or_assoc, show n + ((k + 1 : Nat) : Int) = n + k + 1 by omega]
        exact h3
      clear h3 m3 hc
      go_wp2
      go_roundw
      case rel => exact ⟨k + 1, by omega, by go_num, rfl, R⟩
      case measure => simp [intOf]; omega
    · obtain rfl : k = len := by omega
      go_wp2
      go_ret
      exact ⟨rfl, (unhide HU).1, (unhide HU).2⟩

set_option maxHeartbeats 1000000 in
theorem refUDot_size (U : Nat) (ao bo : Option Addr) (l1 c1 l2 c2 : Nat) (hne : l1 ≠ l2) (hl : l1 ≤ 1000000) (hk : l2 ≤ 1000000) (w : World) :
    Calls Try.prog 40 #[.pointer (some ⟨U, 0, none⟩), .slice ao l1 c1, .slice bo l2 c2] w fun e w' => e = .returned (.tuple #[.int .i64 0, .int .i64 3]) ∧ w' = w := by
  have d : ((l1 : Int) == (l2 : Int)) = false := by simp; omega
  go_enter Try.func40, Try.ntmps40
  go_wp2
  go_ret2
  exact ⟨rfl, rfl⟩

set_option maxHeartbeats 2000000 in
theorem refUDot_ok (U : Nat) (c : Bool) (n : Int) (ao bo : Option Addr) (len c1 c2 : Nat) (X Y : Nat → Int) (hn : 0 ≤ n ∧ n < 2305843009213693952) (hl : len ≤ 1000000) (hX : Hid (∀ i, i < len → I64 (X i))) (hY : Hid (∀ i, i < len → I64 (Y i))) (w : World) (h : RC U c n w)
    (hr : Row w ao len X) (ho : Off U len ao) (ht : Row w bo len Y) (hp : Off U len bo) :
    Calls Try.prog 40 #[.pointer (some ⟨U, 0, none⟩), .slice ao len c1, .slice bo len c2] w fun e w' =>
      e = .returned (.tuple #[.int .i64 (dotN X Y len), .int .i64 0]) ∧ RC U (c || dotC X Y len) (n + 2 * len) w' ∧ Mod U w w' := by
  have H := hide h
  have HR := hide hr
  have HO := hide ho
  have HT := hide ht
  have HP := hide hp
  clear h hr ho ht hp
  obtain ⟨n0, n1⟩ := hn
  go_enter Try.func40, Try.ntmps40
  go_wp2_with fail
  go_loopw [8, 9] (fun t i wr => ∃ k : Nat, k ≤ len ∧ i = .int .i64 k ∧ t = .int .i64 (dotN X Y k) ∧ Hid (RC U (c || dotC X Y k) (n + 2 * k) wr ∧ Mod U w wr)) (fun _ i _ => len - (intOf i).toNat)
  case atStart => exact ⟨0, Nat.zero_le _, rfl, rfl, by show RC _ (c || false) (n + 0) _ ∧ _; rw [Bool.or_false, Int.add_zero]; exact ⟨unhide H, Mod.refl _ _⟩⟩
  case round =>
    obtain ⟨k, hk, rfl, rfl, HU⟩ := hrel
    by_cases hlt : k < len
    · obtain ⟨b1, o1, rfl, hc1⟩ := ((unhide HR).mod (unhide HU).2 (unhide HO)).at hlt
      obtain ⟨b2, o2, rfl, hc2⟩ := ((unhide HT).mod (unhide HU).2 (unhide HP)).at hlt
      have BU := hide (And.intro (unhide HO (by omega) _ rfl) (unhide HP (by omega) _ rfl))
      have M1 := hide (fun w h => refUTimes U (c || dotC X Y k) (n + 2 * k) (X k) (Y k) (unhide hX k hlt) (unhide hY k hlt) ⟨by omega, by omega⟩ w h)
      have A1 := hide (fun w h => refUPlus U (c || dotC X Y k || mulC (X k) (Y k)) (n + 2 * k + 1) (dotN X Y k) (mulN (X k) (Y k)) (dotN_I64 X Y k) (mulN_I64 _ _) ⟨by omega, by omega⟩ w h)
      have i0 : (0 : Int) ≤ (k : Int) := by omega
      have i1 : (k : Int) < (len : Int) := by omega
      have E1 : Hid (dotN X Y (k + 1) = addN (dotN X Y k) (mulN (X k) (Y k))) := rfl
      have E2 : Hid (dotC X Y (k + 1) = (dotC X Y k || mulC (X k) (Y k) || addC (dotN X Y k) (mulN (X k) (Y k)))) := rfl
      generalize mulN (X k) (Y k) = p at *
      generalize mulC (X k) (Y k) = pc at *
      generalize X k = x at *
      generalize Y k = y at *
      generalize dotN X Y k = s at *
      generalize addN s p = q at *
      generalize addC s p = qc at *
      generalize dotC X Y k = dk at *
      go_wp2
      go_region_held3 (fun w' => w'.cell? ⟨b1, o1 + k, none⟩ = some (.int .i64 x) ∧ w'.cell? ⟨b2, o2 + k, none⟩ = some (.int .i64 y))
        (simp [go_sem, *])
        (first
          | (go_at_call 54; refine (unhide M1 _ (by exact (unhide HU).1)).mono ?_; rintro e w3 ⟨rfl, h3, m3⟩; have c31 := Mod.cell (by exact m3) hc1 (unhide BU).1; have c32 := Mod.cell (by exact m3) hc2 (unhide BU).2; have u3 : Hid (RC U (c || dk || pc) (n + 2 * k + 1) w3 ∧ Mod U w w3) := ⟨h3, (unhide HU).2.trans (by exact m3)⟩; clear h3 m3)
          | (go_at_call 46; refine (unhide A1 _ (unhide u3).1).mono ?_; rintro e w5 ⟨rfl, h5, m5⟩; have c51 := m5.cell c31 (unhide BU).1; have c52 := m5.cell c32 (unhide BU).2; have u5 : Hid (RC U (c || dk || pc || qc) (n + 2 * k + 1 + 1) w5 ∧ Mod U w w5) := ⟨h5, (unhide u3).2.trans m5⟩; clear h5 m5))
      have R : Hid (RC U (c || dotC X Y (k + 1)) (n + 2 * ((k + 1 : Nat) : Int)) w5 ∧ Mod U w w5) := by
        refine ⟨?_, (unhide u5).2⟩
        rw [unhide E2, ← Bool.or_assoc, ← Bool.or_assoc, show n + 2 * ((k + 1 : Nat) : Int) = n + 2 * k + 1 + 1 by omega]
        exact (unhide u5).1
      go_wp2
      go_roundw
      case rel => exact ⟨k + 1, by omega, by go_num, by rw [unhide E1], R⟩
      case measure => simp [intOf]; omega
    · obtain rfl : k = len := by omega
      go_wp2
      go_ret2
      exact ⟨rfl, (unhide HU).1, (unhide HU).2⟩

end Go.Proofs.Ytmdclpjbpkfckaa
