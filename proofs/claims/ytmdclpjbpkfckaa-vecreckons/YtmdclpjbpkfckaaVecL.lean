/- The document's vec: Sum, Less. -/
import Derived.Test.YtmdclpjbpkfckaaVecK
namespace Go.Proofs.Ytmdclpjbpkfckaa
open Go.RowKit Go.Proofs.Wd
set_option linter.unusedVariables false
set_option linter.unusedSimpArgs false

theorem pair_row (w : World) (x y : Int) (t : TypeId) : Row (w.alloc (.cells #[.int .i64 x, .int .i64 y] t)) (some ⟨w.heap.size, 0, none⟩) 2 (pairZ x y) := by
  refine Or.inr ⟨_, 0, rfl, fun i hi => ?_⟩
  rw [Nat.zero_add, Blk.cell (Blk.new w _ _)]
  match i, hi with
  | 0, _ => rfl
  | 1, _ => rfl
theorem refAddTwo (R : Nat) (a b : Int) (c : Bool) (n : Int) (bo cap : Nat) (w : World) (ha : I64 a) (hb : I64 b) (hn : 0 ≤ n ∧ n < 2305843009213693952) (h : RC R c n w) (hr : Row w (some ⟨bo, 0, none⟩) 2 (pairZ a b)) (ho : bo ≠ R) :
    Calls Try.prog 31 #[.pointer (some ⟨R, 0, none⟩), .slice (some ⟨bo, 0, none⟩) 2 cap] w fun e w' => e = .returned (.int .i64 (s2N a b)) ∧ RC R (c || s2C a b) (n + 2) w' ∧ Mod R w w' := by
  have := refUAdd R c n (some ⟨bo, 0, none⟩) 2 cap (pairZ a b) hn (by omega) (pairZ_I64 ha hb) w h hr (off_blk ho)
  rw [s2N_th, s2C_th] at this
  exact this
theorem refMulTwo (R : Nat) (a b : Int) (c : Bool) (n : Int) (bo cap : Nat) (w : World) (ha : I64 a) (hb : I64 b) (hn : 0 ≤ n ∧ n < 2305843009213693952) (h : RC R c n w) (hr : Row w (some ⟨bo, 0, none⟩) 2 (pairZ a b)) (ho : bo ≠ R) :
    Calls Try.prog 38 #[.pointer (some ⟨R, 0, none⟩), .slice (some ⟨bo, 0, none⟩) 2 cap] w fun e w' => e = .returned (.int .i64 (m2N a b)) ∧ RC R (c || m2C a b) (n + 2) w' ∧ Mod R w w' := by
  have := refUMul R c n (some ⟨bo, 0, none⟩) 2 cap (pairZ a b) hn (by omega) (pairZ_I64 ha hb) w h hr (off_blk ho)
  rw [m2N_th, m2C_th] at this
  exact this

/-- The list so far. -/
def RI (w : World) (R : Nat) (Z : Nat → Int) (c : Bool) (n : Int) (k : Nat) (v : Value) (wr : World) : Prop :=
  wr.ownsRow w.heap.size 3 1 v k (intL k Z) ∧ RC R c n wr ∧ Mk R w wr ∧ R < w.heap.size

theorem refSum_next {w w1 w2 : World} {R k : Nat} {c c' : Bool} {n n' : Int} {v : Value} {Z : Nat → Int} {q : Prop} {q2 : Prop} {z : Int} (h2 : RC R c' n' w2) (m2 : Mod R w1 w2) (h : RC R c n w1 ∧ q ∧ q2 ∧ w1.ownsRow w.heap.size 3 1 v k (intL k Z) ∧ Mk R w w1 ∧ R < w.heap.size) :
    (w2.alloc (.cells #[.int .i64 z] 3)).ownsRow w.heap.size 3 1 v k (intL k Z) ∧ (w2.alloc (.cells #[.int .i64 z] 3)).cell? ⟨w2.heap.size, 0, none⟩ = some (.int .i64 z) ∧ w.heap.size ≤ (w2.alloc (.cells #[.int .i64 z] 3)).heap.size ∧ RC R c' n' (w2.alloc (.cells #[.int .i64 z] 3)) ∧ Mk R w (w2.alloc (.cells #[.int .i64 z] 3)) ∧ R < w.heap.size := by
  obtain ⟨_, _, _, h4, h5, h6⟩ := h
  have G : Grown w2 (w2.alloc (.cells #[.int .i64 z] 3)) := (Grown.refl _).alloc _ _
  have hm := (h5.trans (Mk.of m2)).grown G
  exact ⟨(owns_mod h4 m2 h6).alloc _, Blk.cell (Blk.new w2 _ _) 0, hm.2.2.2, Blk.grown h2 G, hm, h6⟩
theorem refSum_app {w w2 w4 : World} {R k : Nat} {c : Bool} {n : Int} {v v' : Value} {Z : Nat → Int} {q q2 : Prop} (hg : w4.ownsRow w.heap.size 3 1 v' (k + 1) (intL (k + 1) Z) ∧ w2.grownBy w4 v.ownBlock)
    (h : w2.ownsRow w.heap.size 3 1 v k (intL k Z) ∧ q ∧ q2 ∧ RC R c n w2 ∧ Mk R w w2 ∧ R < w.heap.size) : RI w R Z c n (k + 1) v' w4 := by
  obtain ⟨h1, _, _, h4, h5, h6⟩ := h
  have lt := h1.lt
  exact ⟨hg.1, Blk.by h4 hg.2 (fun e => by have := (lt _ e.symm).1; omega), h5.by hg.2 (fun i e => (lt i e).1), h6⟩

set_option maxRecDepth 20000 in
set_option maxHeartbeats 4000000 in
theorem refVSum_ok (R : Nat) (c : Bool) (n : Int) (ao bo : Option Addr) (len c1 c2 : Nat) (X Y : Nat → Int) (hl : len ≤ 1000000) (hn : 0 ≤ n ∧ n < 1152921504606846976) (hX : Hid (∀ i, i < len → I64 (X i))) (hY : Hid (∀ i, i < len → I64 (Y i))) (w : World) (h : RC R c n w)
    (hr : Row w ao len X) (ho : Off R len ao) (ht : Row w bo len Y) (hp : Off R len bo) :
    Calls Try.prog 14 #[.pointer (some ⟨R, 0, none⟩), .slice ao len c1, .slice bo len c2] w fun e w' => RP R len (fun i => s2N (X i) (Y i)) (c || zC s2C X Y len) (n + 2 * len) w e w' := by
  have ST : Hid (RI w R (fun i => s2N (X i) (Y i)) (c || zC s2C X Y 0) (n + 2 * (0 : Nat)) 0 (.slice none 0 0) w) := by
    refine ⟨World.ownsRow_nil _ _ _ _, ?_, Mk.refl _ _, Blk.lt h⟩
    show RC _ (c || false) (n + 2 * 0) _
    rw [Bool.or_false, Int.mul_zero, Int.add_zero]
    exact h
  have HR := hide hr
  have HO := hide ho
  have HT := hide ht
  have HP := hide hp
  have HN := hide hn
  clear h hr ho ht hp hn
  obtain ⟨Z, hZ⟩ : ∃ Z, Z = fun i => s2N (X i) (Y i) := ⟨_, rfl⟩
  rw [← hZ] at ST
  rw [← hZ]
  have EZ : Hid (∀ i, Z i = s2N (X i) (Y i)) := fun i => by rw [hZ]
  clear hZ
  go_enter Try.func14, Try.ntmps14
  go_wp2_with fail
  go_loopw [8, 9] (fun v i wr => ∃ k : Nat, k ≤ len ∧ i = .int .i64 k ∧ Hid (RI w R Z (c || zC s2C X Y k) (n + 2 * k) k v wr)) (fun _ i _ => len - (intOf i).toNat)
  case atStart => exact ⟨0, Nat.zero_le _, rfl, unhide ST⟩
  case round =>
    obtain ⟨k, hk, rfl, HI⟩ := hrel
    by_cases hlt : k < len
    · obtain ⟨q1, q2, q3, q4⟩ := unhide HI
      obtain ⟨b1, o1, rfl, hw1⟩ := (unhide HR).at hlt
      obtain ⟨b2, o2, rfl, hw2⟩ := (unhide HT).at hlt
      obtain ⟨x, ex⟩ : ∃ x, X k = x := ⟨_, rfl⟩
      obtain ⟨y, ey⟩ : ∃ y, Y k = y := ⟨_, rfl⟩
      obtain ⟨z, ez⟩ : ∃ z, s2N x y = z := ⟨_, rfl⟩
      rw [ex] at hw1
      rw [ey] at hw2
      have RA := hide (fun b cap W h hr ho => refAddTwo R x y (c || zC s2C X Y k) (n + 2 * k) b cap W (by rw [← ex]; exact unhide hX k hlt) (by rw [← ey]; exact unhide hY k hlt) (by have := unhide HN; omega) h hr ho)
      rw [ez] at RA
      have EK : Hid (Z k = z ∧ (c || zC s2C X Y (k + 1)) = (c || zC s2C X Y k || s2C x y) ∧ n + 2 * ((k + 1 : Nat) : Int) = n + 2 * k + 2) := by
        refine ⟨by rw [unhide EZ, ex, ey, ez], ?_, by omega⟩
        show (c || (zC s2C X Y k || s2C (X k) (Y k))) = _
        rw [ex, ey, Bool.or_assoc]
      have CW : Hid (∀ wx, Mk R w wx → wx.cell? ⟨b1, o1 + k, none⟩ = some (.int .i64 x) ∧ wx.cell? ⟨b2, o2 + k, none⟩ = some (.int .i64 y)) := fun wx m => ⟨m.cell hw1 (unhide HO (by omega) _ rfl), m.cell hw2 (unhide HP (by omega) _ rfl)⟩
      obtain ⟨hc1, hc2⟩ := unhide CW wr q3
      have A0 : Hid (RC R (c || zC s2C X Y k) (n + 2 * k) (wr.alloc (.cells #[.int .i64 x, .int .i64 y] 3)).drew ∧ Row (wr.alloc (.cells #[.int .i64 x, .int .i64 y] 3)).drew (some ⟨wr.heap.size, 0, none⟩) 2 (pairZ x y) ∧ wr.heap.size ≠ R ∧ (wr.alloc (.cells #[.int .i64 x, .int .i64 y] 3)).drew.ownsRow w.heap.size 3 1 u8 k (intL k Z) ∧ Mk R w (wr.alloc (.cells #[.int .i64 x, .int .i64 y] 3)).drew ∧ R < w.heap.size) := by
        have G : Grown wr (wr.alloc (.cells #[.int .i64 x, .int .i64 y] 3)) := (Grown.refl _).alloc _ _
        exact ⟨Blk.grown q2 G, pair_row wr x y 3, by have := Blk.lt q2; omega, q1.alloc _, q3.grown G, q4⟩
      have hz1 : b1 < wr.heap.size := heap_gt hc1
      have hz2 : b2 < wr.heap.size := heap_gt hc2
      have i0 : (0 : Int) ≤ (k : Int) := by omega
      have i1 : (k : Int) < (len : Int) := by omega
      have hk1 : k ≤ 1000000 := by omega
      clear ex ey ez q1 q2 q3 q4 HI hw1 hw2
      go_wp2
      go_region_held3 (fun w' => w'.cell? ⟨b1, o1 + k, none⟩ = some (.int .i64 x) ∧ w'.cell? ⟨b2, o2 + k, none⟩ = some (.int .i64 y))
          (simp [go_sem, *])
          (first
            | (go_at_call 31; refine (unhide RA _ _ _ (unhide A0).1 (unhide A0).2.1 (unhide A0).2.2.1).mono ?_; rintro e w2 ⟨rfl, h2, m2⟩; obtain ⟨c21, c22⟩ := unhide CW w2 ((unhide A0).2.2.2.2.1.trans (Mk.of m2)); have z21 := heap_gt c21; have z22 := heap_gt c22; have A2 : Hid ((w2.alloc (.cells #[.int .i64 z] 3)).ownsRow w.heap.size 3 1 u8 k (intL k Z) ∧ (w2.alloc (.cells #[.int .i64 z] 3)).cell? ⟨w2.heap.size, 0, none⟩ = some (.int .i64 z) ∧ w.heap.size ≤ (w2.alloc (.cells #[.int .i64 z] 3)).heap.size ∧ RC R (c || zC s2C X Y k || s2C x y) (n + 2 * k + 2) (w2.alloc (.cells #[.int .i64 z] 3)) ∧ Mk R w (w2.alloc (.cells #[.int .i64 z] 3)) ∧ R < w.heap.size) := (refSum_next h2 m2 (unhide A0)); clear h2 m2 A0)
            | (refine step_append_one rfl (.tmp 21) (.tmp 33) rfl w.heap.size k u8 Z z (unhide EK).1 w2.heap.size (by first | rfl | simp [Act.eval, Act.put]) (by first | rfl | simp [Act.eval, Act.put]) (unhide A2).1 (unhide A2).2.1 hk1 (unhide A2).2.2.1 ?_; intro v' w4 hg4; have R4 : Hid (RI w R Z (c || zC s2C X Y k || s2C x y) (n + 2 * k + 2) (k + 1) v' w4) := (refSum_app (unhide hg4) (unhide A2)); obtain ⟨c41, c42⟩ := unhide CW w4 (unhide R4).2.2.1; clear hg4 A2))
      have R5 : Hid (RI w R Z (c || zC s2C X Y (k + 1)) (n + 2 * ((k + 1 : Nat) : Int)) (k + 1) v' w4) := by
        show RI w R Z (c || zC s2C X Y (k + 1)) (n + 2 * ((k + 1 : Nat) : Int)) (k + 1) v' w4
        rw [(unhide EK).2.1, (unhide EK).2.2]
        exact unhide R4
      clear R4 EK RA CW
      go_wp2
      go_roundw
      case rel => exact ⟨k + 1, by omega, by go_num, R5⟩
      case measure => simp [intOf]; omega
    · obtain rfl : k = len := by omega
      obtain ⟨q1, q2, q3, q4⟩ := unhide HI
      obtain ⟨ao', cap', rfl, r1, r2⟩ := owns_row q1
      have R6 : Hid (RP R k Z (c || zC s2C X Y k) (n + 2 * k) w (.returned (.tuple #[.slice ao' k cap', .int .i64 0])) wr) := ⟨ao', cap', rfl, r1, r2, q2, q3⟩
      clear q1 q2 q3 q4 r1 r2 HI
      go_wp2
      go_ret2
      exact unhide R6

set_option maxRecDepth 20000 in
set_option maxHeartbeats 4000000 in
theorem refVLess_ok (R : Nat) (c : Bool) (n : Int) (ao bo : Option Addr) (len c1 c2 : Nat) (X Y : Nat → Int) (hl : len ≤ 1000000) (hn : 0 ≤ n ∧ n < 1152921504606846976) (hX : Hid (∀ i, i < len → I64 (X i))) (hY : Hid (∀ i, i < len → I64 (Y i))) (w : World) (h : RC R c n w)
    (hr : Row w ao len X) (ho : Off R len ao) (ht : Row w bo len Y) (hp : Off R len bo) :
    Calls Try.prog 17 #[.pointer (some ⟨R, 0, none⟩), .slice ao len c1, .slice bo len c2] w fun e w' => RP R len (fun i => subN (X i) (Y i)) (c || zC subC X Y len) (n + 1 * len) w e w' := by
  have ST : Hid (RI w R (fun i => subN (X i) (Y i)) (c || zC subC X Y 0) (n + 1 * (0 : Nat)) 0 (.slice none 0 0) w) := by
    refine ⟨World.ownsRow_nil _ _ _ _, ?_, Mk.refl _ _, Blk.lt h⟩
    show RC _ (c || false) (n + 1 * 0) _
    rw [Bool.or_false, Int.mul_zero, Int.add_zero]
    exact h
  have HR := hide hr
  have HO := hide ho
  have HT := hide ht
  have HP := hide hp
  have HN := hide hn
  clear h hr ho ht hp hn
  obtain ⟨Z, hZ⟩ : ∃ Z, Z = fun i => subN (X i) (Y i) := ⟨_, rfl⟩
  rw [← hZ] at ST
  rw [← hZ]
  have EZ : Hid (∀ i, Z i = subN (X i) (Y i)) := fun i => by rw [hZ]
  clear hZ
  go_enter Try.func17, Try.ntmps17
  go_wp2_with fail
  go_loopw [8, 9] (fun v i wr => ∃ k : Nat, k ≤ len ∧ i = .int .i64 k ∧ Hid (RI w R Z (c || zC subC X Y k) (n + 1 * k) k v wr)) (fun _ i _ => len - (intOf i).toNat)
  case atStart => exact ⟨0, Nat.zero_le _, rfl, unhide ST⟩
  case round =>
    obtain ⟨k, hk, rfl, HI⟩ := hrel
    by_cases hlt : k < len
    · obtain ⟨q1, q2, q3, q4⟩ := unhide HI
      obtain ⟨b1, o1, rfl, hw1⟩ := (unhide HR).at hlt
      obtain ⟨b2, o2, rfl, hw2⟩ := (unhide HT).at hlt
      obtain ⟨x, ex⟩ : ∃ x, X k = x := ⟨_, rfl⟩
      obtain ⟨y, ey⟩ : ∃ y, Y k = y := ⟨_, rfl⟩
      obtain ⟨z, ez⟩ : ∃ z, subN x y = z := ⟨_, rfl⟩
      rw [ex] at hw1
      rw [ey] at hw2
      have RA := hide (fun W h => refUSub R (c || zC subC X Y k) (n + 1 * k) x y (by rw [← ex]; exact unhide hX k hlt) (by rw [← ey]; exact unhide hY k hlt) (by have := unhide HN; omega) W h)
      rw [ez] at RA
      have EK : Hid (Z k = z ∧ (c || zC subC X Y (k + 1)) = (c || zC subC X Y k || subC x y) ∧ n + 1 * ((k + 1 : Nat) : Int) = n + 1 * k + 1) := by
        refine ⟨by rw [unhide EZ, ex, ey, ez], ?_, by omega⟩
        show (c || (zC subC X Y k || subC (X k) (Y k))) = _
        rw [ex, ey, Bool.or_assoc]
      have CW : Hid (∀ wx, Mk R w wx → wx.cell? ⟨b1, o1 + k, none⟩ = some (.int .i64 x) ∧ wx.cell? ⟨b2, o2 + k, none⟩ = some (.int .i64 y)) := fun wx m => ⟨m.cell hw1 (unhide HO (by omega) _ rfl), m.cell hw2 (unhide HP (by omega) _ rfl)⟩
      obtain ⟨hc1, hc2⟩ := unhide CW wr q3
      have A0 : Hid (RC R (c || zC subC X Y k) (n + 1 * k) wr.drew ∧ True ∧ True ∧ wr.drew.ownsRow w.heap.size 3 1 u8 k (intL k Z) ∧ Mk R w wr.drew ∧ R < w.heap.size) := ⟨q2, trivial, trivial, q1, q3, q4⟩
      have hz1 : b1 < wr.heap.size := heap_gt hc1
      have hz2 : b2 < wr.heap.size := heap_gt hc2
      have i0 : (0 : Int) ≤ (k : Int) := by omega
      have i1 : (k : Int) < (len : Int) := by omega
      have hk1 : k ≤ 1000000 := by omega
      clear ex ey ez q1 q2 q3 q4 HI hw1 hw2
      go_wp2
      go_region_held3 (fun w' => w'.cell? ⟨b1, o1 + k, none⟩ = some (.int .i64 x) ∧ w'.cell? ⟨b2, o2 + k, none⟩ = some (.int .i64 y))
          (simp [go_sem, *])
          (first
            | (go_at_call 35; refine (unhide RA _ (unhide A0).1).mono ?_; rintro e w2 ⟨rfl, h2, m2⟩; obtain ⟨c21, c22⟩ := unhide CW w2 ((unhide A0).2.2.2.2.1.trans (Mk.of m2)); have z21 := heap_gt c21; have z22 := heap_gt c22; have A2 : Hid ((w2.alloc (.cells #[.int .i64 z] 3)).ownsRow w.heap.size 3 1 u8 k (intL k Z) ∧ (w2.alloc (.cells #[.int .i64 z] 3)).cell? ⟨w2.heap.size, 0, none⟩ = some (.int .i64 z) ∧ w.heap.size ≤ (w2.alloc (.cells #[.int .i64 z] 3)).heap.size ∧ RC R (c || zC subC X Y k || subC x y) (n + 1 * k + 1) (w2.alloc (.cells #[.int .i64 z] 3)) ∧ Mk R w (w2.alloc (.cells #[.int .i64 z] 3)) ∧ R < w.heap.size) := (refSum_next h2 m2 (unhide A0)); clear h2 m2 A0)
            | (refine step_append_one rfl (.tmp 21) (.tmp 32) rfl w.heap.size k u8 Z z (unhide EK).1 w2.heap.size (by first | rfl | simp [Act.eval, Act.put]) (by first | rfl | simp [Act.eval, Act.put]) (unhide A2).1 (unhide A2).2.1 hk1 (unhide A2).2.2.1 ?_; intro v' w4 hg4; have R4 : Hid (RI w R Z (c || zC subC X Y k || subC x y) (n + 1 * k + 1) (k + 1) v' w4) := (refSum_app (unhide hg4) (unhide A2)); obtain ⟨c41, c42⟩ := unhide CW w4 (unhide R4).2.2.1; clear hg4 A2))
      have R5 : Hid (RI w R Z (c || zC subC X Y (k + 1)) (n + 1 * ((k + 1 : Nat) : Int)) (k + 1) v' w4) := by
        show RI w R Z (c || zC subC X Y (k + 1)) (n + 1 * ((k + 1 : Nat) : Int)) (k + 1) v' w4
        rw [(unhide EK).2.1, (unhide EK).2.2]
        exact unhide R4
      clear R4 EK RA CW
      go_wp2
      go_roundw
      case rel => exact ⟨k + 1, by omega, by go_num, R5⟩
      case measure => simp [intOf]; omega
    · obtain rfl : k = len := by omega
      obtain ⟨q1, q2, q3, q4⟩ := unhide HI
      obtain ⟨ao', cap', rfl, r1, r2⟩ := owns_row q1
      have R6 : Hid (RP R k Z (c || zC subC X Y k) (n + 1 * k) w (.returned (.tuple #[.slice ao' k cap', .int .i64 0])) wr) := ⟨ao', cap', rfl, r1, r2, q2, q3⟩
      clear q1 q2 q3 q4 r1 r2 HI
      go_wp2
      go_ret2
      exact unhide R6

end Go.Proofs.Ytmdclpjbpkfckaa
