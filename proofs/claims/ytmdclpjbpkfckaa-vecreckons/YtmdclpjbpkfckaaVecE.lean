/- Package vec: Scale, Most. -/
import Derived.Test.YtmdclpjbpkfckaaVecD
namespace Go.Proofs.Ytmdclpjbpkfckaa
open Go.RowKit Go.Proofs.Wd
set_option linter.unusedVariables false
set_option linter.unusedSimpArgs false

set_option maxHeartbeats 1000000 in
theorem vecScale_ok (U : Nat) (c : Bool) (n s : Int) (ao : Option Addr) (len c1 : Nat) (X : Nat → Int) (hl : len ≤ 1000000) (hn : 0 ≤ n ∧ n < 1152921504606846976) (hs : I64 s) (hX : ∀ i, i < len → I64 (X i)) (w : World) (h : UC U c n w)
    (hr : Row w ao len X) (ho : Off U len ao) :
    Calls Try.prog 18 #[.pointer (some ⟨U, 0, none⟩), .slice ao len c1, .int .i64 s] w fun e w' => VP U len (fun i => m2N (X i) s) (c || zC m2C X (fun _ => s) len) (n + 2 * len) w e w' := by
  have G : Grown w (w.alloc (.cells #[.int .i64 s] 3)) := (Grown.refl _).alloc _ _
  have RP := hide (slicesRepeat s len w.heap.size 1 hl (w.alloc (.cells #[.int .i64 s] 3)) (by rw [Blk.cell (Blk.new w _ _)]; rfl))
  have D : Hid (UC U c n (w.alloc (.cells #[.int .i64 s] 3)) ∧ Row (w.alloc (.cells #[.int .i64 s] 3)) ao len X ∧ Mod U w (w.alloc (.cells #[.int .i64 s] 3)) ∧ U < w.heap.size ∧ w.heap.size < (w.alloc (.cells #[.int .i64 s] 3)).heap.size) := ⟨Blk.grown h G, hr.grown G, Mod.of G, Blk.lt h, Blk.lt (Blk.new w _ _)⟩
  have HX := hide hX
  have HO := hide ho
  have HS := hide hs
  have HN := hide hn
  clear h hr ho hX hs hn G
  go_enter Try.func18, Try.ntmps18
  go_wp2_with fail
  generalize w.alloc (.cells #[.int .i64 s] 3) = w1 at *
  refine (unhide RP).mono ?_
  rintro e w2 ⟨rfl, b2, m2⟩
  have D2 : Hid (UC U c n w2 ∧ Row w2 ao len X ∧ Mod U w w2 ∧ U < w2.heap.size ∧ Row w2 (some ⟨w1.heap.size, 0, none⟩) len (fun _ => s) ∧ Off U len (some ⟨w1.heap.size, 0, none⟩)) := by
    obtain ⟨d1, d2, d3, d4, d5⟩ := unhide D
    exact ⟨Blk.keep d1 m2 (by omega), d2.mod m2 (d2.off (Nat.le_refl _)), d3.new m2 (by omega), by have := m2.2.2.2.2; omega, b2.row, off_blk (by omega)⟩
  clear b2 m2 D RP
  go_wp2_with fail
  refine (vecTwo (.func (.func 37) #[.pointer (some ⟨U, 0, none⟩)] #[]) w2 rfl).mono ?_
  rintro e w3 ⟨rfl, rfl⟩
  have Q : Hid (Calls Try.prog 29 #[.pointer (some ⟨U, 0, none⟩), .slice ao len c1, .slice (some ⟨w1.heap.size, 0, none⟩) len len, .func (.func 45) #[] #[.pointer (some ⟨w2.heap.size, 0, none⟩)]] (w2.alloc (.cells #[.func (.func 37) #[.pointer (some ⟨U, 0, none⟩)] #[]] 51)) fun e w' => VP U len (fun i => m2N (X i) s) (c || zC m2C X (fun _ => s) len) (n + 2 * len) w e w') := by
    obtain ⟨d1, d2, d3, d4, d5, d6⟩ := unhide D2
    have G : Grown w2 (w2.alloc (.cells #[.func (.func 37) #[.pointer (some ⟨U, 0, none⟩)] #[]] 51)) := (Grown.refl _).alloc _ _
    refine (vecReckonP U w2.heap.size 37 (enters_of Try.func37 (by kernel_rfl) rfl) m2N m2C c n (fun a b c n ao cap w ha hb hn h hr ho => mulTwo U a b c n ao cap w ha hb hn h hr ho) ao (some ⟨w1.heap.size, 0, none⟩) len c1 len X (fun _ => s) hl (unhide HN) (unhide HX) (fun _ _ => unhide HS) _ (Blk.grown d1 G) (Blk.new w2 _ _) (by omega) (d2.grown G) (unhide HO) (d5.grown G) d6).mono ?_
    intro e w' hv
    exact hv.from (d3.trans (Mod.of G))
  generalize w2.alloc (.cells #[.func (.func 37) #[.pointer (some ⟨U, 0, none⟩)] #[]] 51) = w3 at *
  clear D2 HX HO HS HN
  go_wp2_with fail
  refine (unhide Q).mono ?_
  rintro e w4 hv
  have R := hide hv
  obtain ⟨L, _, rfl, _⟩ := hv
  clear Q
  go_wp2
  go_ret2
  exact unhide R

set_option maxHeartbeats 1000000 in
theorem vecScale_none (p : Option Addr) (s : Int) (ao : Option Addr) (len c1 : Nat) (hl : len ≤ 1000000) (w : World) (h : NU p w) :
    Calls Try.prog 18 #[.pointer p, .slice ao len c1, .int .i64 s] w fun e w' => e = .returned (.tuple #[.slice none 0 0, .int .i64 1]) ∧ Grown w w' := by
  have G : Grown w (w.alloc (.cells #[.int .i64 s] 3)) := (Grown.refl _).alloc _ _
  have RP := hide (slicesRepeat s len w.heap.size 1 hl (w.alloc (.cells #[.int .i64 s] 3)) (by rw [Blk.cell (Blk.new w _ _)]; rfl))
  have D : Hid (NU p (w.alloc (.cells #[.int .i64 s] 3)) ∧ Grown w (w.alloc (.cells #[.int .i64 s] 3)) ∧ w.heap.size ≤ (w.alloc (.cells #[.int .i64 s] 3)).heap.size) := ⟨h.grown G, G, Nat.le_of_lt (Blk.lt (Blk.new w _ _))⟩
  clear h G
  go_enter Try.func18, Try.ntmps18
  go_wp2_with fail
  generalize w.alloc (.cells #[.int .i64 s] 3) = w1 at *
  refine (unhide RP).mono ?_
  rintro e w2 ⟨rfl, b2, m2⟩
  have D2 : Hid (NU p w2 ∧ Grown w w2) := by
    obtain ⟨d1, d2, d3⟩ := unhide D
    exact ⟨d1.grown (Mod.grown (Grown.refl _) m2 (Nat.le_refl _)), Mod.grown d2 m2 d3⟩
  clear b2 m2 D RP
  go_wp2_with fail
  refine (vecTwo (.func (.func 37) #[.pointer p] #[]) w2 rfl).mono ?_
  rintro e w3 ⟨rfl, rfl⟩
  have D3 : Hid (NU p (w2.alloc (.cells #[.func (.func 37) #[.pointer p] #[]] 51)) ∧ Grown w (w2.alloc (.cells #[.func (.func 37) #[.pointer p] #[]] 51))) := ⟨(unhide D2).1.grown ((Grown.refl _).alloc _ _), (unhide D2).2.alloc _ _⟩
  generalize w2.alloc (.cells #[.func (.func 37) #[.pointer p] #[]] 51) = w3 at *
  clear D2
  go_wp2_with fail
  refine (vecReckon_none p _ ao _ len c1 len len w3 (unhide D3).1).mono ?_
  rintro e w4 ⟨rfl, rfl⟩
  go_wp2
  go_ret2
  exact ⟨rfl, (unhide D3).2⟩

set_option maxHeartbeats 1000000 in
theorem vecMost_none (p : Option Addr) (ao : Option Addr) (len c1 : Nat) (w : World) (h : NU p w) :
    Calls Try.prog 22 #[.pointer p, .slice ao len c1] w fun e w' => e = .returned (.tuple #[.int .i64 0, .int .i64 1]) ∧ w' = w := by
  have Q := hide (vecRefuse_none p ao ao len c1 len c1 w h)
  clear h
  go_enter Try.func22, Try.ntmps22
  go_wp2_with fail
  refine (unhide Q).mono ?_
  rintro e w2 ⟨rfl, rfl⟩
  go_wp2
  go_ret2
  exact ⟨rfl, rfl⟩

theorem max_cases (a b : Int) : (a < b ∧ mxI a b = b) ∨ (a = b ∧ mxI a b = b) ∨ (b < a ∧ mxI a b = a) := by
  unfold mxI
  split <;> omega

set_option maxHeartbeats 2000000 in
theorem vecMost_ok (U : Nat) (c : Bool) (n : Int) (ao : Option Addr) (len c1 : Nat) (X : Nat → Int) (hl : len ≤ 1000000) (hn : 0 ≤ n ∧ n < 1152921504606846976) (hX : ∀ i, i < len → I64 (X i)) (w : World) (h : UC U c n w)
    (hr : Row w ao len X) (ho : Off U len ao) :
    Calls Try.prog 22 #[.pointer (some ⟨U, 0, none⟩), .slice ao len c1] w fun e w' => e = .returned (.tuple #[.int .i64 (mostN X len), .int .i64 0]) ∧ UC U (c || mostC X len) (n + mostK X len) w' ∧ Mod U w w' := by
  have D := hide (vecRefuse_ok U c n ao ao len c1 c1 hl ⟨hn.1, by omega⟩ w h)
  have HR := hide hr
  have HO := hide ho
  have HX := hide hX
  have HN := hide hn
  clear h hr ho hX hn
  go_enter Try.func22, Try.ntmps22
  go_wp2_with fail
  refine (unhide D).mono ?_
  rintro e w1 ⟨rfl, h1, m1⟩
  have H1 : Hid (UC U (c || mostC X 0) (n + mostK X 0) w1 ∧ Mod U w w1) := by
    refine ⟨?_, m1⟩
    show UC U (c || false) (n + 0) w1
    rw [Bool.or_false, Int.add_zero]
    exact h1
  clear h1 m1 D
  go_wp2_with fail
  go_loopw [7, 19] (fun t i wr => ∃ k : Nat, k ≤ len ∧ i = .int .i64 k ∧ t = .int .i64 (mostN X k) ∧ Hid (UC U (c || mostC X k) (n + mostK X k) wr ∧ Mod U w wr)) (fun _ i _ => len - (intOf i).toNat)
  case atStart => exact ⟨0, Nat.zero_le _, rfl, rfl, unhide H1⟩
  case round =>
    obtain ⟨k, hk, rfl, rfl, HU⟩ := hrel
    by_cases hlt : k < len
    · obtain ⟨b, o, rfl, hc⟩ := ((unhide HR).mod (unhide HU).2 (unhide HO)).at hlt
      obtain ⟨m, em⟩ : ∃ m, mostN X k = m := ⟨_, rfl⟩
      obtain ⟨x, ex⟩ : ∃ x, X k = x := ⟨_, rfl⟩
      have hx : Hid (I64 x) := by rw [← ex]; exact unhide HX k hlt
      rw [ex] at hc
      rw [em]
      have E1 : Hid (mostN X (k + 1) = mxI m (farN x)) := by rw [← em, ← ex]; rfl
      have hb := mostK_le X k
      have HB : Hid (0 ≤ n + mostK X k ∧ n + mostK X k < 2305843009213693952) := by have := unhide HN; constructor <;> omega
      clear hb
      by_cases hneg : x < 0
      · have E2 : Hid (farN x = subN 0 x ∧ farC x = subC 0 x ∧ farK x = 1) := by unfold farN farC farK; rw [if_pos hneg, if_pos hneg, if_pos hneg]; exact ⟨rfl, rfl, rfl⟩
        have S := hide (unitSub U (c || mostC X k) (n + mostK X k) 0 x (by unfold I64; omega) (unhide hx) (unhide HB) wr (unhide HU).1)
        obtain ⟨y, ey⟩ : ∃ y, subN 0 x = y := ⟨_, rfl⟩
        rw [ey] at S
        have E3 : Hid (mostN X (k + 1) = mxI m y) := by show mostN X (k + 1) = mxI m y; rw [unhide E1, (unhide E2).1, ey]
        go_wp2_with fail
        refine (unhide S).mono ?_
        rintro e w2 ⟨rfl, h2, m2⟩
        have R : Hid (UC U (c || mostC X (k + 1)) (n + mostK X (k + 1)) w2 ∧ Mod U w w2) := by
          refine ⟨?_, (unhide HU).2.trans m2⟩
          show UC U (c || (mostC X k || farC (X k))) (n + (mostK X k + farK (X k))) w2
          rw [ex, (unhide E2).2.1, (unhide E2).2.2, ← Bool.or_assoc, ← Int.add_assoc]
          exact h2
        clear h2 m2 S ey E1 E2 hc em ex
        rcases max_cases m y with ⟨hcm, e0⟩ | ⟨rfl, e0⟩ | ⟨hcm, e0⟩
        all_goals
          have E4 : Hid (mostN X (k + 1) = _) := (unhide E3).trans e0
          clear e0 E3
          go_wp2
          go_roundw
          case rel => exact ⟨k + 1, by omega, by go_num, by rw [unhide E4], R⟩
          case measure => simp [intOf]; omega
      · have E2 : Hid (farN x = x ∧ farC x = false ∧ farK x = 0) := by unfold farN farC farK; rw [if_neg hneg, if_neg hneg, if_neg hneg]; exact ⟨rfl, rfl, rfl⟩
        have E3 : Hid (mostN X (k + 1) = mxI m x) := by show mostN X (k + 1) = mxI m x; rw [unhide E1, (unhide E2).1]
        have R : Hid (UC U (c || mostC X (k + 1)) (n + mostK X (k + 1)) wr ∧ Mod U w wr) := by
          refine ⟨?_, (unhide HU).2⟩
          show UC U (c || (mostC X k || farC (X k))) (n + (mostK X k + farK (X k))) wr
          rw [ex, (unhide E2).2.1, (unhide E2).2.2, Bool.or_false, Int.add_zero]
          exact (unhide HU).1
        clear E1 E2 em ex
        rcases max_cases m x with ⟨hcm, e0⟩ | ⟨rfl, e0⟩ | ⟨hcm, e0⟩
        all_goals
          have E4 : Hid (mostN X (k + 1) = _) := (unhide E3).trans e0
          clear e0 E3
          go_wp2
          go_roundw
          case rel => exact ⟨k + 1, by omega, by go_num, by rw [unhide E4], R⟩
          case measure => simp [intOf]; omega
    · obtain rfl : k = len := by omega
      go_wp2
      go_ret2
      exact ⟨rfl, (unhide HU).1, (unhide HU).2⟩

end Go.Proofs.Ytmdclpjbpkfckaa
