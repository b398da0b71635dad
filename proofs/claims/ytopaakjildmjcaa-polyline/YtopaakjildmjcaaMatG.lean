/- Package mat: refuse, of one matrix and of two. -/
import Derived.Test.YtopaakjildmjcaaMatE
namespace Go.Proofs.Ytopaakjildmjcaa
open Go.RowKit Go.Shelf Go.Proofs.Wd
set_option linter.unusedVariables false
set_option linter.unusedSimpArgs false
set_option maxRecDepth 10000

theorem refuseDot (U : Nat) (c : Bool) (n : Int) (hn : 0 ≤ n ∧ n < 2305843009213693952) (w : World) (h : UC U c n w) : Calls Try.prog 41 #[.pointer (some ⟨U, 0, none⟩), .slice none 0 0, .slice none 0 0] w fun e w' => e = .returned (.tuple #[.int .i64 0, .int .i64 0]) ∧ UC U c n w' ∧ Mod U w w' := by
  refine (unitDot_ok U c n none none 0 0 0 (fun _ => 0) (fun _ => 0) hn (by omega) (fun _ h => absurd h (Nat.not_lt_zero _)) (fun _ h => absurd h (Nat.not_lt_zero _)) w h (Or.inl rfl) (fun h => absurd h (Nat.lt_irrefl _)) (Or.inl rfl) (fun h => absurd h (Nat.lt_irrefl _))).mono ?_
  rintro e w' ⟨rfl, hu, hm⟩
  refine ⟨rfl, ?_, hm⟩
  have e1 : (c || dotC (fun _ => 0) (fun _ => 0) 0) = c := Bool.or_false c
  have e2 : n + 2 * ((0 : Nat) : Int) = n := by omega
  rw [e1, e2] at hu
  exact hu


set_option maxHeartbeats 2000000 in
theorem refuse1 (U : Nat) (c : Bool) (n : Int) (hn : 0 ≤ n ∧ n < 2305843009213693952) (r0 c0 : Int) (a0 : Option Addr) (l0 p0 : Nat) (xb : Nat) (err : Int) (hE : Hid (((okM r0 c0 l0) ∧ err = 0) ∨ (¬ (okM r0 c0 l0) ∧ err = 3))) (w : World) (h : UC U c n w) (hb : Blk xb #[.int .i64 r0, .int .i64 c0, .slice a0 l0 p0] 26 w) (hx : xb ≠ U) :
    Calls Try.prog 33 #[.pointer (some ⟨U, 0, none⟩), .slice (some ⟨xb, 0, none⟩) 1 1] w fun e w' => e = .returned (.int .i64 err) ∧ UC U c n w' ∧ Mod U w w' := by
  have D := hide (refuseDot U c n hn w h)
  have HB := hide (And.intro hb hx)
  clear h hb hx
  go_enter Try.func33, Try.ntmps33
  go_wp2_with fail
  refine (unhide D).mono ?_
  rintro e w1 ⟨rfl, h1, m1⟩
  have S1 : Hid (UC U c n w1 ∧ Mod U w w1 ∧ Blk xb #[.int .i64 r0, .int .i64 c0, .slice a0 l0 p0] 26 w1) := ⟨h1, m1, Blk.keep (unhide HB).1 m1 (unhide HB).2⟩
  clear h1 m1 D
  go_wp2_with fail
  go_loopw [20] (fun i wr => ((i = .int .i64 0) ∨ (i = .int .i64 1 ∧ Hid (okM r0 c0 l0))) ∧ Hid (UC U c n wr ∧ Mod U w wr ∧ Blk xb #[.int .i64 r0, .int .i64 c0, .slice a0 l0 p0] 26 wr)) (fun i _ => 1 - (intOf i).toNat)
  case atStart => exact ⟨Or.inl rfl, S1⟩
  case round =>
    obtain ⟨hi, HI⟩ := hrel
    clear S1
    rcases hi with rfl | ⟨rfl, o0⟩
    · have CK := hide (fun w => matCheck r0 c0 a0 l0 p0 w)
      have q0 := Blk.cell (unhide HI).2.2 0
      have q1 := Blk.cell (unhide HI).2.2 1
      have q2 := Blk.cell (unhide HI).2.2 2
      simp at q0 q1 q2
      have hlt : xb < wr.heap.size := Blk.lt (unhide HI).2.2
      have hne : xb ≠ wr.heap.size := Nat.ne_of_lt hlt
      have G1 : Hid (Grown wr (wr.alloc (.cells #[.int .i64 r0, .int .i64 c0, .slice a0 l0 p0] 26))) := (Grown.refl _).alloc _ _
      by_cases hk : okM r0 c0 l0
      · rw [chk_ok hk] at CK
        have OK := hide hk
        clear hk
        go_wp2_with fail
        refine (unhide CK _).mono ?_
        rintro e w3 ⟨rfl, g3⟩
        have S3 : Hid (UC U c n w3 ∧ Mod U w w3 ∧ Blk xb #[.int .i64 r0, .int .i64 c0, .slice a0 l0 p0] 26 w3) := ⟨Blk.grown (Blk.grown (unhide HI).1 (unhide G1)) g3, ((unhide HI).2.1.trans (Mod.of (unhide G1))).trans (Mod.of g3), Blk.grown (Blk.grown (unhide HI).2.2 (unhide G1)) g3⟩
        clear g3 CK G1 HI q0 q1 q2
        go_wp2
        go_roundw
        case rel => exact ⟨Or.inr (⟨by go_num, OK⟩), S3⟩
        case measure => simp [intOf]
      · rw [chk_bad hk] at CK
        have HE : Hid (err = 3) := by
          rcases unhide hE with h | h
          · exact absurd h.1 hk
          · exact h.2
        clear hk
        go_wp2_with fail
        refine (unhide CK _).mono ?_
        rintro e w3 ⟨rfl, g3⟩
        have S3 : Hid (UC U c n w3 ∧ Mod U w w3) := ⟨Blk.grown (Blk.grown (unhide HI).1 (unhide G1)) g3, ((unhide HI).2.1.trans (Mod.of (unhide G1))).trans (Mod.of g3)⟩
        clear g3 CK G1 HI q0 q1 q2
        go_wp2
        go_ret
        exact ⟨by rw [unhide HE]; rfl, unhide S3⟩
    · have HE : Hid (err = 0) := by
        rcases unhide hE with h | h
        · exact h.2
        · exact absurd o0 h.1
      have S3 : Hid (UC U c n wr ∧ Mod U w wr) := ⟨(unhide HI).1, (unhide HI).2.1⟩
      clear HI
      go_wp2
      go_ret
      exact ⟨by rw [unhide HE]; rfl, unhide S3⟩

set_option maxHeartbeats 1000000 in
theorem refuseNone (p : Option Addr) (s : Value) (w : World) (h : NU p w) :
    Calls Try.prog 33 #[.pointer p, s] w fun e w' => e = .returned (.int .i64 1) ∧ w' = w := by
  have D := hide (noneDot p none none 0 0 0 0 w h)
  clear h
  go_enter Try.func33, Try.ntmps33
  go_wp2_with fail
  refine (unhide D).mono ?_
  rintro e w1 ⟨rfl, rfl⟩
  go_wp2
  go_ret
  exact ⟨rfl, rfl⟩

set_option maxHeartbeats 2000000 in
theorem refuse2 (U : Nat) (c : Bool) (n : Int) (hn : 0 ≤ n ∧ n < 2305843009213693952) (r0 c0 : Int) (a0 : Option Addr) (l0 p0 : Nat) (r1 c1 : Int) (a1 : Option Addr) (l1 p1 : Nat) (xb : Nat) (err : Int) (hE : Hid (((okM r0 c0 l0 ∧ okM r1 c1 l1) ∧ err = 0) ∨ (¬ (okM r0 c0 l0 ∧ okM r1 c1 l1) ∧ err = 3))) (w : World) (h : UC U c n w) (hb : Blk xb #[.int .i64 r0, .int .i64 c0, .slice a0 l0 p0, .int .i64 r1, .int .i64 c1, .slice a1 l1 p1] 26 w) (hx : xb ≠ U) :
    Calls Try.prog 33 #[.pointer (some ⟨U, 0, none⟩), .slice (some ⟨xb, 0, none⟩) 2 2] w fun e w' => e = .returned (.int .i64 err) ∧ UC U c n w' ∧ Mod U w w' := by
  have D := hide (refuseDot U c n hn w h)
  have HB := hide (And.intro hb hx)
  clear h hb hx
  go_enter Try.func33, Try.ntmps33
  go_wp2_with fail
  refine (unhide D).mono ?_
  rintro e w1 ⟨rfl, h1, m1⟩
  have S1 : Hid (UC U c n w1 ∧ Mod U w w1 ∧ Blk xb #[.int .i64 r0, .int .i64 c0, .slice a0 l0 p0, .int .i64 r1, .int .i64 c1, .slice a1 l1 p1] 26 w1) := ⟨h1, m1, Blk.keep (unhide HB).1 m1 (unhide HB).2⟩
  clear h1 m1 D
  go_wp2_with fail
  go_loopw [20] (fun i wr => ((i = .int .i64 0) ∨ (i = .int .i64 1 ∧ Hid (okM r0 c0 l0)) ∨ (i = .int .i64 2 ∧ Hid (okM r0 c0 l0) ∧ Hid (okM r1 c1 l1))) ∧ Hid (UC U c n wr ∧ Mod U w wr ∧ Blk xb #[.int .i64 r0, .int .i64 c0, .slice a0 l0 p0, .int .i64 r1, .int .i64 c1, .slice a1 l1 p1] 26 wr)) (fun i _ => 2 - (intOf i).toNat)
  case atStart => exact ⟨Or.inl rfl, S1⟩
  case round =>
    obtain ⟨hi, HI⟩ := hrel
    clear S1
    rcases hi with rfl | ⟨rfl, o0⟩ | ⟨rfl, o0, o1⟩
    · have CK := hide (fun w => matCheck r0 c0 a0 l0 p0 w)
      have q0 := Blk.cell (unhide HI).2.2 0
      have q1 := Blk.cell (unhide HI).2.2 1
      have q2 := Blk.cell (unhide HI).2.2 2
      simp at q0 q1 q2
      have hlt : xb < wr.heap.size := Blk.lt (unhide HI).2.2
      have hne : xb ≠ wr.heap.size := Nat.ne_of_lt hlt
      have G1 : Hid (Grown wr (wr.alloc (.cells #[.int .i64 r0, .int .i64 c0, .slice a0 l0 p0] 26))) := (Grown.refl _).alloc _ _
      by_cases hk : okM r0 c0 l0
      · rw [chk_ok hk] at CK
        have OK := hide hk
        clear hk
        go_wp2_with fail
        refine (unhide CK _).mono ?_
        rintro e w3 ⟨rfl, g3⟩
        have S3 : Hid (UC U c n w3 ∧ Mod U w w3 ∧ Blk xb #[.int .i64 r0, .int .i64 c0, .slice a0 l0 p0, .int .i64 r1, .int .i64 c1, .slice a1 l1 p1] 26 w3) := ⟨Blk.grown (Blk.grown (unhide HI).1 (unhide G1)) g3, ((unhide HI).2.1.trans (Mod.of (unhide G1))).trans (Mod.of g3), Blk.grown (Blk.grown (unhide HI).2.2 (unhide G1)) g3⟩
        clear g3 CK G1 HI q0 q1 q2
        go_wp2
        go_roundw
        case rel => exact ⟨Or.inr (Or.inl ⟨by go_num, OK⟩), S3⟩
        case measure => simp [intOf]
      · rw [chk_bad hk] at CK
        have HE : Hid (err = 3) := by
          rcases unhide hE with h | h
          · exact absurd h.1.1 hk
          · exact h.2
        clear hk
        go_wp2_with fail
        refine (unhide CK _).mono ?_
        rintro e w3 ⟨rfl, g3⟩
        have S3 : Hid (UC U c n w3 ∧ Mod U w w3) := ⟨Blk.grown (Blk.grown (unhide HI).1 (unhide G1)) g3, ((unhide HI).2.1.trans (Mod.of (unhide G1))).trans (Mod.of g3)⟩
        clear g3 CK G1 HI q0 q1 q2
        go_wp2
        go_ret
        exact ⟨by rw [unhide HE]; rfl, unhide S3⟩
    · have CK := hide (fun w => matCheck r1 c1 a1 l1 p1 w)
      have q0 := Blk.cell (unhide HI).2.2 3
      have q1 := Blk.cell (unhide HI).2.2 4
      have q2 := Blk.cell (unhide HI).2.2 5
      simp at q0 q1 q2
      have hlt : xb < wr.heap.size := Blk.lt (unhide HI).2.2
      have hne : xb ≠ wr.heap.size := Nat.ne_of_lt hlt
      have G1 : Hid (Grown wr (wr.alloc (.cells #[.int .i64 r1, .int .i64 c1, .slice a1 l1 p1] 26))) := (Grown.refl _).alloc _ _
      by_cases hk : okM r1 c1 l1
      · rw [chk_ok hk] at CK
        have OK := hide hk
        clear hk
        go_wp2_with fail
        refine (unhide CK _).mono ?_
        rintro e w3 ⟨rfl, g3⟩
        have S3 : Hid (UC U c n w3 ∧ Mod U w w3 ∧ Blk xb #[.int .i64 r0, .int .i64 c0, .slice a0 l0 p0, .int .i64 r1, .int .i64 c1, .slice a1 l1 p1] 26 w3) := ⟨Blk.grown (Blk.grown (unhide HI).1 (unhide G1)) g3, ((unhide HI).2.1.trans (Mod.of (unhide G1))).trans (Mod.of g3), Blk.grown (Blk.grown (unhide HI).2.2 (unhide G1)) g3⟩
        clear g3 CK G1 HI q0 q1 q2
        go_wp2
        go_roundw
        case rel => exact ⟨Or.inr (Or.inr (⟨by go_num, o0, OK⟩)), S3⟩
        case measure => simp [intOf]
      · rw [chk_bad hk] at CK
        have HE : Hid (err = 3) := by
          rcases unhide hE with h | h
          · exact absurd h.1.2 hk
          · exact h.2
        clear hk
        go_wp2_with fail
        refine (unhide CK _).mono ?_
        rintro e w3 ⟨rfl, g3⟩
        have S3 : Hid (UC U c n w3 ∧ Mod U w w3) := ⟨Blk.grown (Blk.grown (unhide HI).1 (unhide G1)) g3, ((unhide HI).2.1.trans (Mod.of (unhide G1))).trans (Mod.of g3)⟩
        clear g3 CK G1 HI q0 q1 q2
        go_wp2
        go_ret
        exact ⟨by rw [unhide HE]; rfl, unhide S3⟩
    · have HE : Hid (err = 0) := by
        rcases unhide hE with h | h
        · exact h.2
        · exact absurd ⟨unhide o0, unhide o1⟩ h.1
      have S3 : Hid (UC U c n wr ∧ Mod U w wr) := ⟨(unhide HI).1, (unhide HI).2.1⟩
      clear HI
      go_wp2
      go_ret
      exact ⟨by rw [unhide HE]; rfl, unhide S3⟩

end Go.Proofs.Ytopaakjildmjcaa
