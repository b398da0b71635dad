/- The walk of UnitScript. -/
import Derived.Test.YtecelkneiffceaaGreatRefV
import Derived.Test.YtecelkneiffceaaGreatRefW
import Derived.Deep.DeepCutAuto
namespace Go.Proofs.YtecelkneiffceaaGreat
open Go.RowKit Go.Proofs.Wd
set_option linter.unusedVariables false
set_option linter.unusedSimpArgs false
set_option maxRecDepth 10000
attribute [local go_sem ↓] Go.wp_at_zero Go.wp_at_succ

theorem actR_countX (x : ActV) (c : Bool) (h : x.short) : 0 ≤ (actR x c).2.2.2 ∧ (actR x c).2.2.2 ≤ 40 := by
  obtain ⟨h1, h2⟩ := h
  unfold actR
  repeat' split
  all_goals (simp only; omega)

theorem ActV.rows.offK {x : ActV} {w : World} (h : x.rows w) {U : Nat} (hU : w.heap.size ≤ U) : x.off U := ⟨h.1.off hU, h.2.off hU⟩

set_option maxRecDepth 100000 in
set_option maxHeartbeats 8000000 in
theorem lawUnitScript (ao : Option Addr) (len cap : Nat) (X : Nat → ActV) (hl : len ≤ 9223372036854775807) (hX : Hid (∀ i, i < len → (X i).ln ≤ 9223372036854775807 ∧ (X i).kn ≤ 9223372036854775807)) (hI : Hid (∀ i, i < len → (X i).nums)) (hN : Hid (∀ i, i < len → ((X i).lo = none → (X i).ln = 0 ∧ (X i).lc = 0) ∧ ((X i).ko = none → (X i).kn = 0 ∧ (X i).kc = 0))) (w : World) (h : Acts w ao len X) (hR : Hid (∀ i, i < len → (X i).rows w)) :
    Calls Tryz.prog 3 #[.slice ao len cap] w fun e w' => e = .returned (.bool true) ∧ Kp w w' := by
  have H := hide h
  clear h
  have N1 := hide (unitNew w)
  have hU := Nat.le_refl w.heap.size
  generalize eU : w.heap.size = U at N1 hU
  have HE : Hid (w.heap.size ≤ U) := Nat.le_of_eq eU
  clear eU hU
  go_enter Tryz.func3, Tryz.ntmps3
  go_wp2_with fail
  refine (unhide N1).mono ?_
  clear N1
  rintro e w1 ⟨rfl, h1, g1⟩
  have H1 : Hid (UC U false 0 w1 ∧ Kp w w1) := ⟨h1, Kp.of g1⟩
  clear h1 g1
  have N2 := hide (refUNew w1)
  have hV : U < w1.heap.size := Blk.lt (unhide H1).1
  have hV0 := (unhide H1).2.2.2.2
  generalize eV : w1.heap.size = V at N2 hV hV0
  have HUV := hide hV
  have HV0 := hide hV0
  clear eV hV hV0
  go_wp2_with fail
  refine (unhide N2).mono ?_
  clear N2
  rintro e w2 ⟨rfl, h2, g2⟩
  have H2 : Hid (UC U false 0 w2 ∧ RC V false 0 w2 ∧ Kp w w2) := ⟨Blk.grown (unhide H1).1 g2, h2, (unhide H1).2.grown g2⟩
  clear h2 g2 H1
  go_wp2_with fail
  refine (lawLong ao len cap X hl hX w2 ((unhide H).kp (unhide H2).2.2)).mono ?_
  rintro e w3 hp
  obtain ⟨r, rfl, rfl, hs⟩ := hp
  cases r with
  | true =>
    go_wp2_with fail
    refine (lawAwake _).mono ?_
    rintro e w4 ⟨rfl, g4⟩
    have G4 : Hid (Kp w w4) := (unhide H2).2.2.grown g4
    clear g4
    go_wp2
    go_ret
    exact ⟨rfl, unhide G4⟩
  | false =>
    obtain ⟨l60, hs2⟩ := hs rfl
    have HS := hide hs2
    clear hs hs2 hX hl
    go_wp2_with fail
    go_loopw [5] (fun i wr => ∃ (k : Nat) (c : Bool) (n : Int), k ≤ len ∧ i = .int .i64 k ∧ 0 ≤ n ∧ n ≤ 40 * k ∧ Hid (UC U c n wr ∧ RC V c n wr ∧ Kp w wr)) (fun i _ => len - (intOf i).toNat)
    case atStart => exact ⟨0, false, 0, Nat.zero_le _, rfl, by omega, by omega, unhide H2⟩
    case round =>
      obtain ⟨k, c, n, hk, rfl, n0, n1, HU⟩ := hrel
      clear H2
      by_cases hlt : k < len
      · obtain ⟨b, o, rfl, c0, c1, c2, c3, c4, c5⟩ := ((unhide H).kp (unhide HU).2.2).at hlt
        have hbw : b < w.heap.size := by
          rcases unhide H with h | ⟨b', o', e, hc⟩
          · omega
          · cases e
            have := hc k hlt 0 (by omega)
            exact heap_gt (this.trans (show (X k).cells[0]? = some (.int .i64 (X k).kind) from rfl))
        have hbr : b < wr.heap.size := Nat.lt_of_lt_of_le hbw (unhide HU).2.2.2.2.2
        obtain ⟨b', o', ebo, CW0⟩ := (unhide H).at hlt
        cases ebo
        have CW := hide CW0
        clear CW0
        have RO := hide (unhide hR k hlt)
        have NU1 := hide (unhide hI k hlt)
        have NN := hide (unhide hN k hlt)
        obtain ⟨sh1, sh2⟩ := unhide HS k hlt
        generalize X k = x at *
        obtain ⟨kind, xa, xb, lo, ln, lc, ko, kn, kc, is, lz, kz⟩ := x
        simp only at c0 c1 c2 c3 c4 c5 sh1 sh2
        go_wp2_with fail
        have c30 := gat ((Grown.refl _).alloc #[.int .i64 kind, .int .i64 xa, .int .i64 xb, .slice lo ln lc, .slice ko kn kc, .bool is] 31) c3
        have c40 := gat ((Grown.refl _).alloc #[.int .i64 kind, .int .i64 xa, .int .i64 xb, .slice lo ln lc, .slice ko kn kc, .bool is] 31) c4
        have S0 : Hid (Blk wr.heap.size #[.int .i64 kind, .int .i64 xa, .int .i64 xb, .slice lo ln lc, .slice ko kn kc, .bool is] 31 (wr.alloc (.cells #[.int .i64 kind, .int .i64 xa, .int .i64 xb, .slice lo ln lc, .slice ko kn kc, .bool is] 31)) ∧ UC U c n (wr.alloc (.cells #[.int .i64 kind, .int .i64 xa, .int .i64 xb, .slice lo ln lc, .slice ko kn kc, .bool is] 31)) ∧ RC V c n (wr.alloc (.cells #[.int .i64 kind, .int .i64 xa, .int .i64 xb, .slice lo ln lc, .slice ko kn kc, .bool is] 31)) ∧ Kp w (wr.alloc (.cells #[.int .i64 kind, .int .i64 xa, .int .i64 xb, .slice lo ln lc, .slice ko kn kc, .bool is] 31))) := ⟨heap_alloc_new wr _, Blk.grown (unhide HU).1 ((Grown.refl _).alloc _ _), Blk.grown (unhide HU).2.1 ((Grown.refl _).alloc _ _), (unhide HU).2.2.alloc _ _⟩
        have zU : U < wr.heap.size := Blk.lt (unhide HU).1
        have zV : V < wr.heap.size := Blk.lt (unhide HU).2.1
        have zw : w.heap.size ≤ wr.heap.size := (unhide HU).2.2.2.2.2
        have z0 : (wr.alloc (.cells #[.int .i64 kind, .int .i64 xa, .int .i64 xb, .slice lo ln lc, .slice ko kn kc, .bool is] 31)).heap.size = wr.heap.size + 1 := by simp
        generalize wr.alloc (.cells #[.int .i64 kind, .int .i64 xa, .int .i64 xb, .slice lo ln lc, .slice ko kn kc, .bool is] 31) = W0 at *
        generalize wr.heap.size = XB at *
        have Z0 := hide z0
        clear z0 c0 c1 c2 c3 c4 c5 HU
        have hbx : b ≠ XB := Nat.ne_of_lt hbr
        have hxb : XB ≠ b := Nat.ne_of_gt hbr
        have CP1 := hide (fun w hr => kitCopy lo ln lc lz sh1 (unhide NN).1 w hr)
        have CP2 := hide (fun w hr => kitCopy ko kn kc kz sh2 (unhide NN).2 w hr)
        have i0 : (0 : Int) ≤ (k : Int) := by omega
        have i1 : (k : Int) < (len : Int) := by omega
        have ZZ := hide (And.intro zU (And.intro zV zw))
        clear zU zV zw
        go_region_held3 (fun w' => w'.cell? ⟨b, o + k * 6 + 3, none⟩ = some (.slice lo ln lc) ∧ w'.cell? ⟨b, o + k * 6 + 4, none⟩ = some (.slice ko kn kc)) (simp [go_sem, *])
          (first
            | (go_at_call_of 8 lo; refine (unhide CP1 _ (by exact (unhide RO).1.kp (unhide S0).2.2.2)).mono ?_; rintro e w5 hp5; obtain ⟨ao1, cap1, rfl, r5, f5, k5⟩ := hp5; have c35 := Kp.cell (by exact k5) c30; have c45 := Kp.cell (by exact k5) c40; have S5 : Hid (Blk XB #[.int .i64 kind, .int .i64 xa, .int .i64 xb, .slice lo ln lc, .slice ko kn kc, .bool is] 31 w5 ∧ UC U c n w5 ∧ RC V c n w5 ∧ Kp w w5 ∧ Row w5 ao1 ln lz ∧ (∀ U, U < XB + 1 → Off U ln ao1) ∧ XB + 1 ≤ w5.heap.size) := ⟨Blk.kp (unhide S0).1 (by exact k5), Blk.kp (unhide S0).2.1 (by exact k5), Blk.kp (unhide S0).2.2.1 (by exact k5), (unhide S0).2.2.2.trans (by exact k5), r5, (fun U hU => f5 U (show U < W0.heap.size by have := unhide Z0; omega)), (by have h1 := k5.2.2.2; have h2 := unhide Z0; change W0.heap.size ≤ _ at h1; omega)⟩; clear r5 f5 k5)
            | (go_at_call_of 8 ko; refine (unhide CP2 _ (by exact (unhide RO).2.kp (unhide S5).2.2.2.1)).mono ?_; rintro e w6 hp6; obtain ⟨ao2, cap2, rfl, r6, f6, k6⟩ := hp6; have c36 := Kp.cell (by exact k6) c35; have c46 := Kp.cell (by exact k6) c45; have S6 : Hid (Blk XB #[.int .i64 kind, .int .i64 xa, .int .i64 xb, .slice lo ln lc, .slice ko kn kc, .bool is] 31 w6 ∧ UC U c n w6 ∧ RC V c n w6 ∧ Kp w w6 ∧ Row w6 ao1 ln lz ∧ (∀ U, U < XB + 1 → Off U ln ao1) ∧ Row w6 ao2 kn kz ∧ (∀ U, U < XB + 1 → Off U kn ao2)) := ⟨Blk.kp (unhide S5).1 k6, Blk.kp (unhide S5).2.1 k6, Blk.kp (unhide S5).2.2.1 k6, (unhide S5).2.2.2.1.trans k6, (unhide S5).2.2.2.2.1.kp k6, (unhide S5).2.2.2.2.2.1, r6, (fun U hU => f6 U (by have := (unhide S5).2.2.2.2.2.2; omega))⟩; have x36 : w6.cell? ⟨XB, 3, none⟩ = some (.slice lo ln lc) := Blk.cell (unhide S6).1 3; have x46 : w6.cell? ⟨XB, 4, none⟩ = some (.slice ko kn kc) := Blk.cell (unhide S6).1 4; have fx6 := Blk.free (unhide S6).1; clear r6 f6 k6))
        have OF := hide (And.intro (unhide S6).2.2.2.2.2.1 (unhide S6).2.2.2.2.2.2.2)
        have m7 : Mod XB w6 ((w6.setCell ⟨XB, 3, none⟩ (.slice ao1 ln cap1)).setCell ⟨XB, 4, none⟩ (.slice ao2 kn cap2)) := ((Mod.refl _ _).setCell _ _).setCell _ _
        have S7 : Hid (Blk XB #[.int .i64 kind, .int .i64 xa, .int .i64 xb, .slice ao1 ln cap1, .slice ao2 kn cap2, .bool is] 31 ((w6.setCell ⟨XB, 3, none⟩ (.slice ao1 ln cap1)).setCell ⟨XB, 4, none⟩ (.slice ao2 kn cap2)) ∧ UC U c n ((w6.setCell ⟨XB, 3, none⟩ (.slice ao1 ln cap1)).setCell ⟨XB, 4, none⟩ (.slice ao2 kn cap2)) ∧ RC V c n ((w6.setCell ⟨XB, 3, none⟩ (.slice ao1 ln cap1)).setCell ⟨XB, 4, none⟩ (.slice ao2 kn cap2)) ∧ Kp w ((w6.setCell ⟨XB, 3, none⟩ (.slice ao1 ln cap1)).setCell ⟨XB, 4, none⟩ (.slice ao2 kn cap2)) ∧ Row ((w6.setCell ⟨XB, 3, none⟩ (.slice ao1 ln cap1)).setCell ⟨XB, 4, none⟩ (.slice ao2 kn cap2)) ao1 ln lz ∧ Row ((w6.setCell ⟨XB, 3, none⟩ (.slice ao1 ln cap1)).setCell ⟨XB, 4, none⟩ (.slice ao2 kn cap2)) ao2 kn kz) :=
          ⟨Blk.set (Blk.set (unhide S6).1 3 _) 4 _, Blk.keep (unhide S6).2.1 m7 (Nat.ne_of_lt (unhide ZZ).1), Blk.keep (unhide S6).2.2.1 m7 (Nat.ne_of_lt (unhide ZZ).2.1), (unhide S6).2.2.2.1.mod m7 (unhide ZZ).2.2, (unhide S6).2.2.2.2.1.mod m7 ((unhide OF).1 XB (Nat.lt_succ_self _)), (unhide S6).2.2.2.2.2.2.1.mod m7 ((unhide OF).2 XB (Nat.lt_succ_self _))⟩
        clear m7 S0 S5 S6 CP1 CP2 c30 c40 c35 c45 c36 c46 x36 x46 fx6 Z0
        generalize (w6.setCell ⟨XB, 3, none⟩ (.slice ao1 ln cap1)).setCell ⟨XB, 4, none⟩ (.slice ao2 kn cap2) = w7 at *
        have e0 : w7.cell? ⟨XB, 0, none⟩ = some (.int .i64 kind) := Blk.cell (unhide S7).1 0
        have e1 : w7.cell? ⟨XB, 1, none⟩ = some (.int .i64 xa) := Blk.cell (unhide S7).1 1
        have e2 : w7.cell? ⟨XB, 2, none⟩ = some (.int .i64 xb) := Blk.cell (unhide S7).1 2
        have e3 : w7.cell? ⟨XB, 3, none⟩ = some (.slice ao1 ln cap1) := Blk.cell (unhide S7).1 3
        have e4 : w7.cell? ⟨XB, 4, none⟩ = some (.slice ao2 kn cap2) := Blk.cell (unhide S7).1 4
        have e5 : w7.cell? ⟨XB, 5, none⟩ = some (.bool is) := Blk.cell (unhide S7).1 5
        have A1 := hide (lawAct (⟨kind, xa, xb, ao1, ln, cap1, ao2, kn, cap2, is, lz, kz⟩ : ActV) U c n ⟨n0, by omega⟩ ⟨sh1, sh2⟩ (unhide NU1) w7 ⟨(unhide S7).2.2.2.2.1, (unhide S7).2.2.2.2.2⟩ ⟨(unhide OF).1 U (by have := (unhide ZZ).1; omega), (unhide OF).2 U (by have := (unhide ZZ).1; omega)⟩ (unhide S7).2.1)
        change Hid (Calls Tryz.prog 9 #[.pointer (some ⟨U, 0, none⟩), .agg #[.int .i64 kind, .int .i64 xa, .int .i64 xb, .slice ao1 ln cap1, .slice ao2 kn cap2, .bool is]] w7 fun e w' => e = .returned (.tuple #[.int .i64 (actR (⟨kind, xa, xb, lo, ln, lc, ko, kn, kc, is, lz, kz⟩ : ActV) c).1, .int .i64 (actR (⟨kind, xa, xb, lo, ln, lc, ko, kn, kc, is, lz, kz⟩ : ActV) c).2.1]) ∧ UC U (actR (⟨kind, xa, xb, lo, ln, lc, ko, kn, kc, is, lz, kz⟩ : ActV) c).2.2.1 (n + (actR (⟨kind, xa, xb, lo, ln, lc, ko, kn, kc, is, lz, kz⟩ : ActV) c).2.2.2) w' ∧ Mod U w7 w') at A1
        have B1 := hide (fun w hr h => lawTold (⟨kind, xa, xb, lo, ln, lc, ko, kn, kc, is, lz, kz⟩ : ActV) V c n ⟨n0, by omega⟩ ⟨sh1, sh2⟩ (unhide NU1) w hr (ActV.rows.offK (unhide RO) (unhide HV0)) h)
        change Hid (∀ w, ActV.rows (⟨kind, xa, xb, lo, ln, lc, ko, kn, kc, is, lz, kz⟩ : ActV) w → RC V c n w → Calls Tryz.prog 10 #[.pointer (some ⟨V, 0, none⟩), .agg #[.int .i64 kind, .int .i64 xa, .int .i64 xb, .slice lo ln lc, .slice ko kn kc, .bool is]] w fun e w' => e = .returned (.tuple #[.int .i64 (actR (⟨kind, xa, xb, lo, ln, lc, ko, kn, kc, is, lz, kz⟩ : ActV) c).1, .int .i64 (actR (⟨kind, xa, xb, lo, ln, lc, ko, kn, kc, is, lz, kz⟩ : ActV) c).2.1]) ∧ RC V (actR (⟨kind, xa, xb, lo, ln, lc, ko, kn, kc, is, lz, kz⟩ : ActV) c).2.2.1 (n + (actR (⟨kind, xa, xb, lo, ln, lc, ko, kn, kc, is, lz, kz⟩ : ActV) c).2.2.2) w' ∧ Mod V w w') at B1
        have AC := hide (actR_countX (⟨kind, xa, xb, lo, ln, lc, ko, kn, kc, is, lz, kz⟩ : ActV) c ⟨sh1, sh2⟩)
        generalize actR (⟨kind, xa, xb, lo, ln, lc, ko, kn, kc, is, lz, kz⟩ : ActV) c = R at *
        obtain ⟨rn, re, rc, rq⟩ := R
        simp only at A1 B1 AC
        go_wp2_with fail
        refine (unhide A1).mono ?_
        rintro e w8 ⟨rfl, h8, m8⟩
        have S8 : Hid (Blk XB #[.int .i64 kind, .int .i64 xa, .int .i64 xb, .slice ao1 ln cap1, .slice ao2 kn cap2, .bool is] 31 w8 ∧ UC U rc (n + rq) w8 ∧ RC V c n w8 ∧ Kp w w8 ∧ Row w8 ao1 ln lz ∧ Row w8 ao2 kn kz) :=
          ⟨Blk.keep (unhide S7).1 m8 (Nat.ne_of_gt (unhide ZZ).1), h8, Blk.keep (unhide S7).2.2.1 m8 (Nat.ne_of_gt (unhide HUV)), (unhide S7).2.2.2.1.mod m8 (unhide HE), (unhide S7).2.2.2.2.1.mod m8 ((unhide OF).1 U (by have := (unhide ZZ).1; omega)), (unhide S7).2.2.2.2.2.mod m8 ((unhide OF).2 U (by have := (unhide ZZ).1; omega))⟩
        clear S7 e0 e1 e2 e3 e4 e5 h8 m8 A1
        have g0 := Kp.cell (unhide S8).2.2.2.1 (unhide CW).1
        have g1 := Kp.cell (unhide S8).2.2.2.1 (unhide CW).2.1
        have g2 := Kp.cell (unhide S8).2.2.2.1 (unhide CW).2.2.1
        have g3 := Kp.cell (unhide S8).2.2.2.1 (unhide CW).2.2.2.1
        have g4 := Kp.cell (unhide S8).2.2.2.1 (unhide CW).2.2.2.2.1
        have g5 := Kp.cell (unhide S8).2.2.2.1 (unhide CW).2.2.2.2.2
        go_wp2_with fail
        refine (unhide B1 _ ((unhide RO).kp (unhide S8).2.2.2.1) (unhide S8).2.2.1).mono ?_
        rintro e w9 ⟨rfl, h9, m9⟩
        have S9 : Hid (Blk XB #[.int .i64 kind, .int .i64 xa, .int .i64 xb, .slice ao1 ln cap1, .slice ao2 kn cap2, .bool is] 31 w9 ∧ UC U rc (n + rq) w9 ∧ RC V rc (n + rq) w9 ∧ Kp w w9 ∧ Row w9 ao1 ln lz ∧ Row w9 ao2 kn kz) :=
          ⟨Blk.keep (unhide S8).1 m9 (Nat.ne_of_gt (unhide ZZ).2.1), Blk.keep (unhide S8).2.1 m9 (Nat.ne_of_lt (unhide HUV)), h9, (unhide S8).2.2.2.1.mod m9 (unhide HV0), (unhide S8).2.2.2.2.1.mod m9 ((unhide OF).1 V (by have := (unhide ZZ).2.1; omega)), (unhide S8).2.2.2.2.2.mod m9 ((unhide OF).2 V (by have := (unhide ZZ).2.1; omega))⟩
        clear S8 g0 g1 g2 g3 g4 g5 h9 m9 B1
        have q3 := Kp.cell (unhide S9).2.2.2.1 (unhide CW).2.2.2.1
        have q4 := Kp.cell (unhide S9).2.2.2.1 (unhide CW).2.2.2.2.1
        have x3 : w9.cell? ⟨XB, 3, none⟩ = some (.slice ao1 ln cap1) := Blk.cell (unhide S9).1 3
        have x4 : w9.cell? ⟨XB, 4, none⟩ = some (.slice ao2 kn cap2) := Blk.cell (unhide S9).1 4
        have v0 : w9.cell? ⟨V, 0, none⟩ = some (.bool rc) := (unhide S9).2.2.1.c0
        have v1 : w9.cell? ⟨V, 1, none⟩ = some (.int .i64 (n + rq)) := (unhide S9).2.2.1.c1
        have R9 := hide ((unhide RO).kp (unhide S9).2.2.2.1)
        have q0 := (unhide AC).1
        have q1 := (unhide AC).2
        clear AC
        generalize hq : n + rq = nz at *
        have n0' : 0 ≤ nz := by omega
        have n1' : nz ≤ 40 * ((k + 1 : Nat) : Int) := by omega
        clear hq
        go_wp2
        go_quiet (first
          | (go_at_call 11; exact Calls.quiet_of_same (unitCut U _ _ _ (by exact (unhide S9).2.1)))
          | (go_at_call 12; exact Calls.quiet_of_same (unitCount U _ _ _ (by exact (unhide S9).2.1)))
          | (go_at_call_of 13 lo; exact Calls.quiet_of (kitSameQ _ _ _ _ _ lz (by omega) _ (by exact (unhide S9).2.2.2.2.1) (by exact (unhide R9).1)))
          | (go_at_call_of 13 ko; exact Calls.quiet_of (kitSameQ _ _ _ _ _ kz (by omega) _ (by exact (unhide S9).2.2.2.2.2) (by exact (unhide R9).2))))
        go_wp2
        go_roundw
        case rel => exact ⟨k + 1, rc, nz, by omega, by go_num, n0', n1', ⟨(unhide S9).2.1, (unhide S9).2.2.1, (unhide S9).2.2.2.1⟩⟩
        case measure => simp [intOf]; omega
      · obtain rfl : k = len := by omega
        go_wp2_with fail
        refine (lawAwake _).mono ?_
        rintro e w4 ⟨rfl, g4⟩
        have G4 : Hid (Kp w w4) := (unhide HU).2.2.grown g4
        clear g4
        go_wp2
        go_ret
        exact ⟨rfl, unhide G4⟩

end Go.Proofs.YtecelkneiffceaaGreat
