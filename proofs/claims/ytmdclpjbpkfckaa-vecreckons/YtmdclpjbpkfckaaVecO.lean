/- The document's vec: Scale, Dot, Most, and lists of unlike lengths; the kit's OverInts. -/
import Derived.Test.YtmdclpjbpkfckaaVecL
namespace Go.Proofs.Ytmdclpjbpkfckaa
open Go.RowKit Go.Proofs.Wd
set_option linter.unusedVariables false
set_option linter.unusedSimpArgs false

set_option maxRecDepth 20000 in
set_option maxHeartbeats 4000000 in
theorem refVScale_ok (R : Nat) (c : Bool) (n s : Int) (ao : Option Addr) (len c1 : Nat) (X : Nat → Int) (hl : len ≤ 1000000) (hn : 0 ≤ n ∧ n < 1152921504606846976) (hs : Hid (I64 s)) (hX : Hid (∀ i, i < len → I64 (X i))) (w : World) (h : RC R c n w)
    (hr : Row w ao len X) (ho : Off R len ao) :
    Calls Try.prog 19 #[.pointer (some ⟨R, 0, none⟩), .slice ao len c1, .int .i64 s] w fun e w' => RP R len (fun i => m2N (X i) s) (c || zC m2C X (fun _ => s) len) (n + 2 * len) w e w' := by
  have ST : Hid (RI w R (fun i => m2N (X i) s) (c || zC m2C X (fun _ => s) 0) (n + 2 * (0 : Nat)) 0 (.slice none 0 0) w) := by
    refine ⟨World.ownsRow_nil _ _ _ _, ?_, Mk.refl _ _, Blk.lt h⟩
    show RC _ (c || false) (n + 2 * 0) _
    rw [Bool.or_false, Int.mul_zero, Int.add_zero]
    exact h
  have HR := hide hr
  have HO := hide ho
  have HN := hide hn
  clear h hr ho hn
  obtain ⟨Z, hZ⟩ : ∃ Z, Z = fun i => m2N (X i) s := ⟨_, rfl⟩
  rw [← hZ] at ST
  rw [← hZ]
  have EZ : Hid (∀ i, Z i = m2N (X i) s) := fun i => by rw [hZ]
  clear hZ
  obtain ⟨f0, hi', hz0, hz1, hz2⟩ := info_parts Try.infoInt
  go_enter Try.func19, Try.ntmps19
  go_wp2_with fail
  go_loopw [8, 9] (fun v i wr => ∃ k : Nat, k ≤ len ∧ i = .int .i64 k ∧ Hid (RI w R Z (c || zC m2C X (fun _ => s) k) (n + 2 * k) k v wr)) (fun _ i _ => len - (intOf i).toNat)
  case atStart => exact ⟨0, Nat.zero_le _, rfl, unhide ST⟩
  case round =>
    obtain ⟨k, hk, rfl, HI⟩ := hrel
    by_cases hlt : k < len
    · obtain ⟨q1, q2, q3, q4⟩ := unhide HI
      obtain ⟨b1, o1, rfl, hc1⟩ := ((unhide HR).mk q3 (unhide HO)).at hlt
      obtain ⟨x, ex⟩ : ∃ x, X k = x := ⟨_, rfl⟩
      obtain ⟨z, ez⟩ : ∃ z, m2N x s = z := ⟨_, rfl⟩
      rw [ex] at hc1
      have RA := hide (fun b cap W h hr ho => refMulTwo R x s (c || zC m2C X (fun _ => s) k) (n + 2 * k) b cap W (by rw [← ex]; exact unhide hX k hlt) (unhide hs) (by have := unhide HN; omega) h hr ho)
      rw [ez] at RA
      have EK : Hid (Z k = z ∧ (c || zC m2C X (fun _ => s) (k + 1)) = (c || zC m2C X (fun _ => s) k || m2C x s) ∧ n + 2 * ((k + 1 : Nat) : Int) = n + 2 * k + 2) := by
        refine ⟨by rw [unhide EZ, ex, ez], ?_, by omega⟩
        show (c || (zC m2C X (fun _ => s) k || m2C (X k) s)) = _
        rw [ex, Bool.or_assoc]
      have A0 : Hid (RC R (c || zC m2C X (fun _ => s) k) (n + 2 * k) (wr.alloc (.cells #[.int .i64 x, .int .i64 s] 3)) ∧ Row (wr.alloc (.cells #[.int .i64 x, .int .i64 s] 3)) (some ⟨wr.heap.size, 0, none⟩) 2 (pairZ x s) ∧ wr.heap.size ≠ R ∧ (wr.alloc (.cells #[.int .i64 x, .int .i64 s] 3)).ownsRow w.heap.size 3 1 u8 k (intL k Z) ∧ Mk R w (wr.alloc (.cells #[.int .i64 x, .int .i64 s] 3)) ∧ R < w.heap.size) := by
        have G : Grown wr (wr.alloc (.cells #[.int .i64 x, .int .i64 s] 3)) := (Grown.refl _).alloc _ _
        exact ⟨Blk.grown q2 G, pair_row wr x s 3, by have := Blk.lt q2; omega, q1.alloc _, q3.grown G, q4⟩
      have hk1 : k ≤ 1000000 := by omega
      clear ex ez q1 q2 q3 q4 HI
      go_wp2_with fail
      refine (unhide RA _ _ _ (unhide A0).1 (unhide A0).2.1 (unhide A0).2.2.1).mono ?_
      rintro e w2 ⟨rfl, h2, m2⟩
      have A2 := hide (refSum_next (z := z) h2 m2 (unhide A0))
      clear h2 m2 A0 RA hc1
      go_wp2_with (at_builtin; refine wpList_append_own _ rfl _ _ 22 rfl w.heap.size 3 f0 (.int .i64 0) 1 8 Try.underlying22 hi' hz0 hz1 hz2 rfl (by decide) _ _ _ rfl (unhide A2).1 ⟨w2.heap.size, 0, none⟩ 1 1 [.int .i64 z] rfl rfl (news_one _ _ _) (one_cell _) (by unfold maxLen; omega) (by omega) (unhide A2).2.2.1 ?_; intro v' w4 hown' hgrow _)
      have R5 : Hid (RI w R Z (c || zC m2C X (fun _ => s) (k + 1)) (n + 2 * ((k + 1 : Nat) : Int)) (k + 1) v' w4) := by
        show RI w R Z (c || zC m2C X (fun _ => s) (k + 1)) (n + 2 * ((k + 1 : Nat) : Int)) (k + 1) v' w4
        rw [← (unhide EK).1, intL_succ] at hown'
        rw [(unhide EK).2.1, (unhide EK).2.2]
        exact refSum_app ⟨hown', hgrow⟩ (unhide A2)
      clear hown' hgrow A2 EK
      go_wp2
      go_roundw
      case rel => exact ⟨k + 1, by omega, by go_num, R5⟩
      case measure => simp [intOf]; omega
    · obtain rfl : k = len := by omega
      obtain ⟨q1, q2, q3, q4⟩ := unhide HI
      obtain ⟨ao', cap', rfl, r1, r2⟩ := owns_row q1
      have R6 : Hid (RP R k Z (c || zC m2C X (fun _ => s) k) (n + 2 * k) w (.returned (.tuple #[.slice ao' k cap', .int .i64 0])) wr) := ⟨ao', cap', rfl, r1, r2, q2, q3⟩
      clear q1 q2 q3 q4 r1 r2 HI
      go_wp2
      go_ret2
      exact unhide R6

set_option maxHeartbeats 1000000 in
theorem refVSum_size (p : Value) (ao bo : Option Addr) (l1 c1 l2 c2 : Nat) (hne : l1 ≠ l2) (hl : l1 ≤ 1000000) (hk : l2 ≤ 1000000) (w : World) :
    Calls Try.prog 14 #[p, .slice ao l1 c1, .slice bo l2 c2] w fun e w' => e = .returned (.tuple #[.slice none 0 0, .int .i64 3]) ∧ w' = w := by
  have d : ((l1 : Int) == (l2 : Int)) = false := by simp; omega
  go_enter Try.func14, Try.ntmps14
  go_wp2
  go_ret2
  exact ⟨rfl, rfl⟩

set_option maxHeartbeats 1000000 in
theorem refVLess_size (p : Value) (ao bo : Option Addr) (l1 c1 l2 c2 : Nat) (hne : l1 ≠ l2) (hl : l1 ≤ 1000000) (hk : l2 ≤ 1000000) (w : World) :
    Calls Try.prog 17 #[p, .slice ao l1 c1, .slice bo l2 c2] w fun e w' => e = .returned (.tuple #[.slice none 0 0, .int .i64 3]) ∧ w' = w := by
  have d : ((l1 : Int) == (l2 : Int)) = false := by simp; omega
  go_enter Try.func17, Try.ntmps17
  go_wp2
  go_ret2
  exact ⟨rfl, rfl⟩

set_option maxHeartbeats 1000000 in
theorem refVDot_of (p : Value) (a b : Value) (Q : Ending → World → Prop) (x y : Int) (w : World) (D : Hid (Calls Try.prog 40 #[p, a, b] w fun e w' => e = .returned (.tuple #[.int .i64 x, .int .i64 y]) ∧ Q e w')) :
    Calls Try.prog 21 #[p, a, b] w fun e w' => e = .returned (.tuple #[.int .i64 x, .int .i64 y]) ∧ Q e w' := by
  go_enter Try.func21, Try.ntmps21
  go_wp2_with fail
  refine (unhide D).mono ?_
  rintro e w1 ⟨rfl, h1⟩
  have H1 := hide h1
  clear h1
  go_wp2
  go_ret2
  exact ⟨rfl, unhide H1⟩

set_option maxHeartbeats 2000000 in
theorem refVMost_ok (U : Nat) (c : Bool) (n : Int) (ao : Option Addr) (len c1 : Nat) (X : Nat → Int) (hl : len ≤ 1000000) (hn : 0 ≤ n ∧ n < 1152921504606846976) (hX : ∀ i, i < len → I64 (X i)) (w : World) (h : RC U c n w)
    (hr : Row w ao len X) (ho : Off U len ao) :
    Calls Try.prog 23 #[.pointer (some ⟨U, 0, none⟩), .slice ao len c1] w fun e w' => e = .returned (.tuple #[.int .i64 (mostN X len), .int .i64 0]) ∧ RC U (c || mostC X len) (n + mostK X len) w' ∧ Mod U w w' := by
  have HR := hide hr
  have HO := hide ho
  have HX := hide hX
  have HN := hide hn
  have H1 : Hid (RC U (c || mostC X 0) (n + mostK X 0) w ∧ Mod U w w) := by
    refine ⟨?_, Mod.refl _ _⟩
    show RC U (c || false) (n + 0) w
    rw [Bool.or_false, Int.add_zero]
    exact h
  clear h hr ho hX hn
  go_enter Try.func23, Try.ntmps23
  go_wp2_with fail
  go_loopw [6, 7] (fun t i wr => ∃ k : Nat, k ≤ len ∧ i = .int .i64 k ∧ t = .int .i64 (mostN X k) ∧ Hid (RC U (c || mostC X k) (n + mostK X k) wr ∧ Mod U w wr)) (fun _ i _ => len - (intOf i).toNat)
  case atStart => exact ⟨0, Nat.zero_le _, rfl, rfl, unhide H1⟩
  case round =>
    obtain ⟨k, hk, rfl, rfl, HU⟩ := hrel
    by_cases hlt : k < len
    · obtain ⟨b, o, rfl, hc⟩ := ((unhide HR).mod (unhide HU).2 (unhide HO)).at hlt
      obtain ⟨m, em⟩ : ∃ m, mostN X k = m := ⟨_, rfl⟩
      obtain ⟨x, ex⟩ : ∃ x, X k = x := ⟨_, rfl⟩
      have hx : Hid (I64 x) := by rw [← ex]; exact unhide HX k hlt
      rw [ex] at hc
      rw [em]
      have E1 : Hid (mostN X (k + 1) = mxI m (farN x)) := by rw [← em, ← ex]; rfl
      have hb := mostK_le X k
      have HB : Hid (0 ≤ n + mostK X k ∧ n + mostK X k < 4611686018427387904) := by have := unhide HN; constructor <;> omega
      clear hb
      by_cases hneg : x < 0
      · have E2 : Hid (farN x = subN 0 x ∧ farC x = subC 0 x ∧ farK x = 1) := by unfold farN farC farK; rw [if_pos hneg, if_pos hneg, if_pos hneg]; exact ⟨rfl, rfl, rfl⟩
        have S := hide (refUSub U (c || mostC X k) (n + mostK X k) 0 x (by unfold I64; omega) (unhide hx) (unhide HB) wr (unhide HU).1)
        obtain ⟨y, ey⟩ : ∃ y, subN 0 x = y := ⟨_, rfl⟩
        rw [ey] at S
        have E3 : Hid (mostN X (k + 1) = mxI m y) := by show mostN X (k + 1) = mxI m y; rw [unhide E1, (unhide E2).1, ey]
        go_wp2_with fail
        refine (unhide S).mono ?_
        rintro e w2 ⟨rfl, h2, m2⟩
        have R : Hid (RC U (c || mostC X (k + 1)) (n + mostK X (k + 1)) w2 ∧ Mod U w w2) := by
          refine ⟨?_, (unhide HU).2.trans m2⟩
          show RC U (c || (mostC X k || farC (X k))) (n + (mostK X k + farK (X k))) w2
          rw [ex, (unhide E2).2.1, (unhide E2).2.2, ← Bool.or_assoc, ← Int.add_assoc]
          exact h2
        clear h2 m2 S ey E1 E2 hc em ex
        rcases max_cases m y with ⟨hcm, e0⟩ | ⟨rfl, e0⟩ | ⟨hcm, e0⟩
        all_goals
          have E4 : Hid (mostN X (k + 1) = _) := (unhide E3).trans e0
          clear e0 E3
          go_wp2
          go_roundw
          case rel => exact ⟨k + 1, by omega, by go_num, by rw [unhide E4], R⟩
          case measure => simp [intOf]; omega
      · have E2 : Hid (farN x = x ∧ farC x = false ∧ farK x = 0) := by unfold farN farC farK; rw [if_neg hneg, if_neg hneg, if_neg hneg]; exact ⟨rfl, rfl, rfl⟩
        have E3 : Hid (mostN X (k + 1) = mxI m x) := by show mostN X (k + 1) = mxI m x; rw [unhide E1, (unhide E2).1]
        have R : Hid (RC U (c || mostC X (k + 1)) (n + mostK X (k + 1)) wr ∧ Mod U w wr) := by
          refine ⟨?_, (unhide HU).2⟩
          show RC U (c || (mostC X k || farC (X k))) (n + (mostK X k + farK (X k))) wr
          rw [ex, (unhide E2).2.1, (unhide E2).2.2, Bool.or_false, Int.add_zero]
          exact (unhide HU).1
        clear E1 E2 em ex
        rcases max_cases m x with ⟨hcm, e0⟩ | ⟨rfl, e0⟩ | ⟨hcm, e0⟩
        all_goals
          have E4 : Hid (mostN X (k + 1) = _) := (unhide E3).trans e0
          clear e0 E3
          go_wp2
          go_roundw
          case rel => exact ⟨k + 1, by omega, by go_num, by rw [unhide E4], R⟩
          case measure => simp [intOf]; omega
    · obtain rfl : k = len := by omega
      go_wp2
      go_ret2
      exact ⟨rfl, (unhide HU).1, (unhide HU).2⟩

def OvI (B : Nat) (ao : Option Addr) (len : Nat) (w wr : World) : Prop := Mod B w wr ∧ (len = 0 ∨ (ao = some ⟨B, 0, none⟩ ∧ ∃ Y, Blk B (ints len Y) 3 wr))
set_option maxHeartbeats 1000000 in
theorem kitOverM (B : Nat) (ao : Option Addr) (len cap : Nat) (X : Nat → Int) (hl : len ≤ 1000000) (w : World) (hA : len = 0 ∨ (ao = some ⟨B, 0, none⟩ ∧ Blk B (ints len X) 3 w)) :
    Calls Try.prog 33 #[.slice ao len cap] w fun e w' => e = .returned (.tuple #[]) ∧ Mod B w w' := by
  have HA := hide hA
  clear hA
  go_enter Try.func33, Try.ntmps33
  go_wp2
  go_loopw [2] (fun i wr => ∃ k : Nat, k ≤ len ∧ i = .int .i64 k ∧ Hid (OvI B ao len w wr)) (fun i _ => len - (intOf i).toNat)
  case atStart => exact ⟨0, Nat.zero_le _, rfl, Mod.refl _ _, (unhide HA).imp id fun h => ⟨h.1, X, h.2⟩⟩
  case round =>
    obtain ⟨k, hk, rfl, HI⟩ := hrel
    by_cases hlt : k < len
    · obtain ⟨i1, i2⟩ := unhide HI
      rcases i2 with i2 | ⟨e1, Y, i2⟩
      · omega
      · subst e1
        have hc : wr.cell? ⟨B, k, none⟩ = some (.int .i64 (Y k)) := by rw [Blk.cell i2, ints_at len Y k hlt]
        have hfz := Blk.free i2 k
        have R : Hid (OvI B (some ⟨B, 0, none⟩) len w (wr.setCell ⟨B, k, none⟩ (.int .i64 (-77)))) :=
          ⟨i1.setCell _ _, Or.inr ⟨rfl, _, Blk.setI i2 k _⟩⟩
        clear i1 i2 HI HA
        go_wp2
        go_roundw
        case rel => exact ⟨k + 1, by omega, by go_num, R⟩
        case measure => simp [intOf]; omega
    · obtain rfl : len = k := by omega
      go_wp2
      exact bodyPost_end (v := .tuple #[]) (by simp [results, Try.results33, go_sem]) rfl ⟨rfl, (unhide HI).1⟩

end Go.Proofs.Ytmdclpjbpkfckaa
