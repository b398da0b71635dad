/- PolyX1 MatRL PolyTermsLaw, one after another. -/
import Derived.Test.YtopaakjildmjcaaGreatPolySide
import Derived.Test.YtopaakjildmjcaaGreatPolyBas2
import Derived.Test.YtopaakjildmjcaaGreatRowL
import Derived.Test.YtopaakjildmjcaaGreatRows
import Derived.ProofKit
import Derived.OpenShut
import Derived.Lib.SmallJoins
/- PolyTerms. -/
namespace Go.Proofs.YtopaakjildmjcaaGreat
open Go.RowKit Go.Shelf Go.Proofs.Wd
set_option linter.unusedVariables false
set_option linter.unusedSimpArgs false
set_option maxRecDepth 10000
attribute [local go_sem ↓] Go.wp_at_zero Go.wp_at_succ

set_option maxRecDepth 50000 in
set_option maxHeartbeats 4000000 in
theorem lawPolyTerms_not (R1 C1 t k : Int) (ht : I64 t) (ao : Option Addr) (len cap : Nat) (A : Nat → Int) (hp : len ≤ cap) (hA : ∀ j, j < len → I64 (A j)) (h0 : ao = none → len = 0 ∧ cap = 0) (w : World) (ra : Row w ao len A) (hc : 160 < len) :
    Calls Tryz.prog 3 #[.agg #[.int .i64 R1, .int .i64 C1, .slice ao len cap], .int .i64 k, .int .i64 t] w fun e w' => e = .returned (.bool true) ∧ Kp w w' := by
  have d1 : decide ((160 : Int) < (len : Int)) = true := decide_eq_true (by omega)
  clear hc hA h0 hp ht
  have S0 := hide (((ST.nil w).rowOld ra).box #[.int .i64 R1, .int .i64 C1, .slice ao len cap] 24)
  clear ra
  go_enter Tryz.func3, Tryz.ntmps3
  go_wp2_with fail
  generalize w.alloc (.cells #[.int .i64 R1, .int .i64 C1, .slice ao len cap] 24) = w0 at *
  generalize w.heap.size = Ax at *
  refine (unitNew w0).mono ?_
  rintro e w1 ⟨rfl, u1, g1⟩
  have S1 : Hid (ST w [([w0.heap.size], UE w0.heap.size false 0)] [fBlk Ax #[.int .i64 R1, .int .i64 C1, .slice ao len cap] 24, fRow ao len A] w1) := (unhide S0).push (Kp.of g1) ⟨0, by omega, by omega, u1⟩ (ue_dep _ _ _) (by simp) (fun q hq => by simp at hq; subst hq; exact ⟨Nat.le_refl _, Blk.lt u1⟩)
  clear u1 g1 S0
  go_wp2_with fail
  refine (refUNew w1).mono ?_
  rintro e w2 ⟨rfl, u2, g2⟩
  have S2 : Hid (ST w [([w1.heap.size], RE w1.heap.size false 0), ([w0.heap.size], UE w0.heap.size false 0)] [fBlk Ax #[.int .i64 R1, .int .i64 C1, .slice ao len cap] 24, fRow ao len A] w2) := (unhide S1).push (Kp.of g2) ⟨0, by omega, by omega, u2⟩ (re_dep _ _ _) (by simp) (fun q hq => by simp at hq; subst hq; exact ⟨Nat.le_refl _, Blk.lt u2⟩)
  clear u2 g2 S1
  generalize w0.heap.size = U at *
  generalize w1.heap.size = R at *
  obtain ⟨x0, x1, x2⟩ := (unhide S2).cells (b := Ax) (x := .int .i64 R1) (y := .int .i64 C1) (z := .slice ao len cap) (T := 24) (by simp)
  go_wp2_with fail
  refine (lawPolyAwake _).mono ?_
  rintro e w3 ⟨rfl, k3⟩
  have S3 := hide ((unhide S2).kp k3)
  clear k3 S2 x0 x1 x2
  go_wp2
  go_ret
  exact ⟨rfl, (unhide S3).keep⟩

set_option maxRecDepth 50000 in
set_option maxHeartbeats 16000000 in
theorem lawPolyTerms_ok (R1 C1 t k : Int) (ht : I64 t) (ao : Option Addr) (len cap : Nat) (A : Nat → Int) (hp : len ≤ cap) (hA : ∀ j, j < len → I64 (A j)) (h0 : ao = none → len = 0 ∧ cap = 0) (w : World) (ra : Row w ao len A) (hc : len ≤ 160) :
    Calls Tryz.prog 3 #[.agg #[.int .i64 R1, .int .i64 C1, .slice ao len cap], .int .i64 k, .int .i64 t] w fun e w' => e = .returned (.bool true) ∧ Kp w w' := by
  have d1 : decide ((160 : Int) < (len : Int)) = false := decide_eq_false (by omega)
  have K1 := hide (fun w hr => kitCopyM R1 C1 ao len cap A (by omega) h0 w hr)
  have HC : Hid (len ≤ 160 ∧ I64 t ∧ (∀ j, j < len → I64 (A j)) ∧ len ≤ cap) := ⟨hc, ht, hA, hp⟩
  clear hc hA h0 hp ht
  have S0 := hide (((ST.nil w).rowOld ra).box #[.int .i64 R1, .int .i64 C1, .slice ao len cap] 24)
  clear ra
  go_enter Tryz.func3, Tryz.ntmps3
  go_wp2_with fail
  generalize w.alloc (.cells #[.int .i64 R1, .int .i64 C1, .slice ao len cap] 24) = w0 at *
  generalize w.heap.size = Ax at *
  refine (unitNew w0).mono ?_
  rintro e w1 ⟨rfl, u1, g1⟩
  have S1 : Hid (ST w [([w0.heap.size], UE w0.heap.size false 0)] [fBlk Ax #[.int .i64 R1, .int .i64 C1, .slice ao len cap] 24, fRow ao len A] w1) := (unhide S0).push (Kp.of g1) ⟨0, by omega, by omega, u1⟩ (ue_dep _ _ _) (by simp) (fun q hq => by simp at hq; subst hq; exact ⟨Nat.le_refl _, Blk.lt u1⟩)
  clear u1 g1 S0
  go_wp2_with fail
  refine (refUNew w1).mono ?_
  rintro e w2 ⟨rfl, u2, g2⟩
  have S2 : Hid (ST w [([w1.heap.size], RE w1.heap.size false 0), ([w0.heap.size], UE w0.heap.size false 0)] [fBlk Ax #[.int .i64 R1, .int .i64 C1, .slice ao len cap] 24, fRow ao len A] w2) := (unhide S1).push (Kp.of g2) ⟨0, by omega, by omega, u2⟩ (re_dep _ _ _) (by simp) (fun q hq => by simp at hq; subst hq; exact ⟨Nat.le_refl _, Blk.lt u2⟩)
  clear u2 g2 S1
  generalize w0.heap.size = U at *
  generalize w1.heap.size = R at *
  obtain ⟨x0, x1, x2⟩ := (unhide S2).cells (b := Ax) (x := .int .i64 R1) (y := .int .i64 C1) (z := .slice ao len cap) (T := 24) (by simp)
  go_wp2_with fail
  refine (unhide K1 _ ((unhide S2).row (by simp))).mono ?_
  rintro e w3 ⟨a1, p1, rfl, hp1, r3, o3, k3⟩
  have S3 := hide ((unhide S2).rowNew k3 r3 o3)
  have HP := hide hp1
  clear k3 r3 o3 S2 x0 x1 x2 hp1 K1 d1
  have S3 := hide ((unhide S3).box #[.int .i64 R1, .int .i64 C1, .slice a1 len p1] 24)
  obtain ⟨q1, hq1⟩ : ∃ q, termsO R1 C1 len A k false = q := ⟨_, rfl⟩
  obtain ⟨q2, hq2⟩ : ∃ q, flowO R1 C1 len A t q1.cut = q := ⟨_, rfl⟩
  have HQ := hide (And.intro hq1 (And.intro hq2 (And.intro (termsO_len hq1) (flowO_len hq2))))
  clear hq1 hq2
  obtain ⟨Ix, hIx⟩ : ∃ q, w3.heap.size = q := ⟨_, rfl⟩
  rw [hIx] at S3
  generalize hw4 : w3.alloc (.cells #[.int .i64 R1, .int .i64 C1, .slice a1 len p1] 24) = w4 at S3
  have S4 : Hid (ST w [([R], RE R false 0), ([U], UE U false 0)] [fBlk Ix #[.int .i64 R1, .int .i64 C1, .slice a1 len p1] 24, fRow a1 len A, fBlk Ax #[.int .i64 R1, .int .i64 C1, .slice ao len cap] 24, fRow ao len A] w4) := unhide S3
  clear S3
  have C1' := hide (ST.callT (q := q1) (A := A) [([R], RE R false 0)] 200000 (unhide S4) (by omega) (by omega) (fun n0 hn hu => polyTermsAny U false n0 ⟨hn.1, by omega⟩ R1 C1 k a1 len p1 A (unhide HP) (unhide HC).2.2.1 w4 hu ((unhide S4).row (ao := a1) (len := len) (Z := A) (by simp)) ((unhide S4).off (ao := a1) (len := len) (Z := A) (by simp) (c := ([U], UE U false 0)) (by simp) (by simp)) q1 (unhide HQ).1))
  obtain ⟨x0, x1, x2⟩ := (unhide S4).cells (b := Ix) (x := .int .i64 R1) (y := .int .i64 C1) (z := .slice a1 len p1) (T := 24) (by simp)
  go_wp2_with fail
  (try rw [hIx])
  (try rw [hw4])
  clear hIx hw4
  refine (unhide C1').mono ?_
  rintro e w5 ⟨lo, lc, l, rfl, hnd, hlc, s5⟩
  have S5 : Hid (ST w [(tD lo q1.m l, TLs lo q1.m q1.n q1.nn A l 0), ([R], RE R false 0), ([U], UE U q1.cut 200000)] [fBlk Ix #[.int .i64 R1, .int .i64 C1, .slice a1 len p1] 24, fRow a1 len A, fBlk Ax #[.int .i64 R1, .int .i64 C1, .slice ao len cap] 24, fRow ao len A] w5) := s5
  have HT := hide (And.intro hnd hlc)
  clear s5 hnd hlc S4 C1' x0 x1 x2
  obtain ⟨x0, x1, x2⟩ := (unhide S5).cells (b := Ax) (x := .int .i64 R1) (y := .int .i64 C1) (z := .slice ao len cap) (T := 24) (by simp)
  go_wp2_with fail
  refine (ST.callTD (q := q1) (A := A) [(tD lo q1.m l, TLs lo q1.m q1.n q1.nn A l 0)] 200000 (unhide S5) (by omega) (by omega) (fun n0 hn hu => refTermsAny R false n0 ⟨hn.1, by omega⟩ R1 C1 k ao len cap A (unhide HC).2.2.2 (unhide HC).2.2.1 w5 hu ((unhide S5).row (ao := ao) (len := len) (Z := A) (by simp)) ((unhide S5).off (ao := ao) (len := len) (Z := A) (by simp) (c := ([R], RE R false 0)) (by simp) (by simp)) q1 (unhide HQ).1)).mono ?_
  rintro e w6 ⟨lo2, lc2, l2, rfl, s6⟩
  have S6 : Hid (ST w [(tD lo q1.m l, TLs lo q1.m q1.n q1.nn A l 0), ([R], RE R q1.cut 200000), ([U], UE U q1.cut 200000)] [(tD lo2 q1.m l2, TLs lo2 q1.m q1.n q1.nn A l2 0), fBlk Ix #[.int .i64 R1, .int .i64 C1, .slice a1 len p1] 24, fRow a1 len A, fBlk Ax #[.int .i64 R1, .int .i64 C1, .slice ao len cap] 24, fRow ao len A] w6) := s6
  clear s6 S5 x0 x1 x2
  obtain ⟨x0, x1, x2⟩ := (unhide S6).cells (b := Ix) (x := .int .i64 R1) (y := .int .i64 C1) (z := .slice a1 len p1) (T := 24) (by simp)
  go_wp2_with fail
  refine (ST.callV (q := q2) [(tD lo q1.m l, TLs lo q1.m q1.n q1.nn A l 0), ([R], RE R q1.cut 200000)] 400000 (unhide S6) (by omega) (by omega) (fun n0 hn hu => polyFlowAny U q1.cut n0 hn R1 C1 t (unhide HC).2.1 a1 len p1 A (unhide HP) (unhide HC).2.2.1 w6 hu ((unhide S6).row (ao := a1) (len := len) (Z := A) (by simp)) ((unhide S6).off (ao := a1) (len := len) (Z := A) (by simp) (c := ([U], UE U q1.cut 200000)) (by simp) (by simp)) q2 (unhide HQ).2.1)).mono ?_
  rintro e w7 ⟨ap, pp, Bp, rfl, hpp, s7⟩
  have S7 : Hid (ST w [(ovD Bp q2.len, OvP ap Bp q2.len q2.Z), (tD lo q1.m l, TLs lo q1.m q1.n q1.nn A l 0), ([R], RE R q1.cut 200000), ([U], UE U q2.cut 400000)] [(tD lo2 q1.m l2, TLs lo2 q1.m q1.n q1.nn A l2 0), fBlk Ix #[.int .i64 R1, .int .i64 C1, .slice a1 len p1] 24, fRow a1 len A, fBlk Ax #[.int .i64 R1, .int .i64 C1, .slice ao len cap] 24, fRow ao len A] w7) := s7
  clear s7 S6 x0 x1 x2 hpp
  have S7 := hide ((unhide S7).box #[.int .i64 q2.r, .int .i64 q2.c, .slice ap q2.len pp] 24)
  obtain ⟨Px, hPx⟩ : ∃ q, w7.heap.size = q := ⟨_, rfl⟩
  rw [hPx] at S7
  generalize hw8 : w7.alloc (.cells #[.int .i64 q2.r, .int .i64 q2.c, .slice ap q2.len pp] 24) = w8 at S7
  have S8 : Hid (ST w [(ovD Bp q2.len, OvP ap Bp q2.len q2.Z), (tD lo q1.m l, TLs lo q1.m q1.n q1.nn A l 0), ([R], RE R q1.cut 200000), ([U], UE U q2.cut 400000)] [fBlk Px #[.int .i64 q2.r, .int .i64 q2.c, .slice ap q2.len pp] 24, (tD lo2 q1.m l2, TLs lo2 q1.m q1.n q1.nn A l2 0), fBlk Ix #[.int .i64 R1, .int .i64 C1, .slice a1 len p1] 24, fRow a1 len A, fBlk Ax #[.int .i64 R1, .int .i64 C1, .slice ao len cap] 24, fRow ao len A] w8) := unhide S7
  clear S7
  have C2' := hide (ST.callD (q := q2) [(ovD Bp q2.len, OvP ap Bp q2.len q2.Z), (tD lo q1.m l, TLs lo q1.m q1.n q1.nn A l 0)] 400000 (unhide S8) (by omega) (by omega) (fun n0 hn hu => refFlowAny R q1.cut n0 hn R1 C1 t (unhide HC).2.1 ao len cap A (unhide HC).2.2.2 (unhide HC).2.2.1 w8 hu ((unhide S8).row (ao := ao) (len := len) (Z := A) (by simp)) ((unhide S8).off (ao := ao) (len := len) (Z := A) (by simp) (c := ([R], RE R q1.cut 200000)) (by simp) (by simp)) q2 (unhide HQ).2.1))
  obtain ⟨x0, x1, x2⟩ := (unhide S8).cells (b := Ax) (x := .int .i64 R1) (y := .int .i64 C1) (z := .slice ao len cap) (T := 24) (by simp)
  go_wp2_with fail
  (try rw [hPx])
  (try rw [hw8])
  clear hPx hw8
  refine (unhide C2').mono ?_
  rintro e w9 ⟨aq, pq, rfl, hpq, s9⟩
  have S9 : Hid (ST w [(ovD Bp q2.len, OvP ap Bp q2.len q2.Z), (tD lo q1.m l, TLs lo q1.m q1.n q1.nn A l 0), ([R], RE R q2.cut 400000), ([U], UE U q2.cut 400000)] [fRow aq q2.len q2.Z, fBlk Px #[.int .i64 q2.r, .int .i64 q2.c, .slice ap q2.len pp] 24, (tD lo2 q1.m l2, TLs lo2 q1.m q1.n q1.nn A l2 0), fBlk Ix #[.int .i64 R1, .int .i64 C1, .slice a1 len p1] 24, fRow a1 len A, fBlk Ax #[.int .i64 R1, .int .i64 C1, .slice ao len cap] 24, fRow ao len A] w9) := s9
  clear s9 S8 x0 x1 x2 hpq C2'
  have S9 := hide ((unhide S9).box #[.int .i64 q2.r, .int .i64 q2.c, .slice aq q2.len pq] 24)
  obtain ⟨Qx, hQx⟩ : ∃ q, w9.heap.size = q := ⟨_, rfl⟩
  rw [hQx] at S9
  generalize hwa : w9.alloc (.cells #[.int .i64 q2.r, .int .i64 q2.c, .slice aq q2.len pq] 24) = wa at S9
  have SA : Hid (ST w [(ovD Bp q2.len, OvP ap Bp q2.len q2.Z), (tD lo q1.m l, TLs lo q1.m q1.n q1.nn A l 0), ([R], RE R q2.cut 400000), ([U], UE U q2.cut 400000)] [fBlk Qx #[.int .i64 q2.r, .int .i64 q2.c, .slice aq q2.len pq] 24, fRow aq q2.len q2.Z, fBlk Px #[.int .i64 q2.r, .int .i64 q2.c, .slice ap q2.len pp] 24, (tD lo2 q1.m l2, TLs lo2 q1.m q1.n q1.nn A l2 0), fBlk Ix #[.int .i64 R1, .int .i64 C1, .slice a1 len p1] 24, fRow a1 len A, fBlk Ax #[.int .i64 R1, .int .i64 C1, .slice ao len cap] 24, fRow ao len A] wa) := unhide S9
  clear S9
  have CW : Hid (∀ wx, Kp wa wx → (wx.cell? ⟨Px, 0, none⟩ = some (.int .i64 q2.r) ∧ wx.cell? ⟨Px, 1, none⟩ = some (.int .i64 q2.c) ∧ wx.cell? ⟨Px, 2, none⟩ = some (.slice ap q2.len pp)) ∧ (wx.cell? ⟨Qx, 0, none⟩ = some (.int .i64 q2.r) ∧ wx.cell? ⟨Qx, 1, none⟩ = some (.int .i64 q2.c) ∧ wx.cell? ⟨Qx, 2, none⟩ = some (.slice aq q2.len pq)) ∧ (wx.cell? ⟨Ix, 0, none⟩ = some (.int .i64 R1) ∧ wx.cell? ⟨Ix, 1, none⟩ = some (.int .i64 C1) ∧ wx.cell? ⟨Ix, 2, none⟩ = some (.slice a1 len p1)) ∧ (wx.cell? ⟨Ax, 0, none⟩ = some (.int .i64 R1) ∧ wx.cell? ⟨Ax, 1, none⟩ = some (.int .i64 C1) ∧ wx.cell? ⟨Ax, 2, none⟩ = some (.slice ao len cap))) := fun wx g => by
    have S := (unhide SA).kp g
    exact ⟨S.cells (T := 24) (by simp), S.cells (T := 24) (by simp), S.cells (T := 24) (by simp), S.cells (T := 24) (by simp)⟩
  have SM : Hid (∀ wx, Kp wa wx → Calls Tryz.prog 13 #[.slice lo q1.m lc, .slice lo2 q1.m lc2] wx fun e w' => e = .returned (.bool true) ∧ Kp wx w') := fun wx g => by
    have S := (unhide SA).kp g
    have h1 : TLs lo q1.m q1.n q1.nn A l 0 wx := S.ob (c := (tD lo q1.m l, TLs lo q1.m q1.n q1.nn A l 0)) (by simp)
    have h2 : TLs lo2 q1.m q1.n q1.nn A l2 0 wx := S.get (f := (tD lo2 q1.m l2, TLs lo2 q1.m q1.n q1.nn A l2 0)) (by simp)
    have hl := (unhide HQ).2.2.1.2
    exact lawSameP lo lo2 q1.m lc lc2 (by have := (unhide HQ).2.2.1.1; omega) (tX q1.n q1.nn A l) (tX q1.n q1.nn A l2) (fun i hi => by show q1.nn ≤ 1000000; omega) (fun i hi => ⟨rfl, rfl, rfl, fun _ _ => rfl⟩) wx h1.1 h2.1 (fun i hi => h1.row (Nat.zero_le _) hi) (fun i hi => h2.row (Nat.zero_le _) hi)
  have SN : Hid (∀ wx, Kp wa wx → Calls Tryz.prog 14 #[.agg #[.int .i64 q2.r, .int .i64 q2.c, .slice ap q2.len pp], .agg #[.int .i64 q2.r, .int .i64 q2.c, .slice aq q2.len pq]] wx fun e w' => e = .returned (.bool true) ∧ Kp wx w') := fun wx g => by
    have S := (unhide SA).kp g
    have h1 : OvP ap Bp q2.len q2.Z wx := S.ob (c := (ovD Bp q2.len, OvP ap Bp q2.len q2.Z)) (by simp)
    have hl := (unhide HQ).2.2.2
    exact kitSameM _ _ _ _ _ _ _ _ (by omega) wx h1.row (S.row (ao := aq) (len := q2.len) (Z := q2.Z) (by simp))
  have CU : Hid (∀ wx, Kp wa wx → Calls Tryz.prog 15 #[.pointer (some ⟨U, 0, none⟩)] wx fun e w' => e = .returned (.bool q2.cut) ∧ w' = wx) := fun wx g => by
    obtain ⟨n, _, _, hu⟩ := ((unhide SA).kp g).unitE [(ovD Bp q2.len, OvP ap Bp q2.len q2.Z), (tD lo q1.m l, TLs lo q1.m q1.n q1.nn A l 0), ([R], RE R q2.cut 400000)]
    exact unitCut U q2.cut n wx hu
  have CR : Hid (∀ wx, Kp wa wx → Calls Tryz.prog 16 #[.pointer (some ⟨R, 0, none⟩)] wx fun e w' => e = .returned (.bool q2.cut) ∧ w' = wx) := fun wx g => by
    obtain ⟨n, _, _, hu⟩ := ((unhide SA).kp g).unitR [(ovD Bp q2.len, OvP ap Bp q2.len q2.Z), (tD lo q1.m l, TLs lo q1.m q1.n q1.nn A l 0)]
    exact refUCutD R q2.cut n wx hu
  have UA : Hid (∀ wx, Kp wa wx → Calls Tryz.prog 17 #[.agg #[.int .i64 R1, .int .i64 C1, .slice a1 len p1]] wx fun e w' => e = .returned (.bool (upO R1 C1 len A)) ∧ Grown wx w') := fun wx g => polyUpper R1 C1 a1 len p1 A wx (((unhide SA).kp g).row (ao := a1) (len := len) (Z := A) (by simp))
  have UB : Hid (∀ wx, Kp wa wx → Calls Tryz.prog 18 #[.agg #[.int .i64 R1, .int .i64 C1, .slice ao len cap]] wx fun e w' => e = .returned (.bool (upO R1 C1 len A)) ∧ Grown wx w') := fun wx g => pRefUpper R1 C1 ao len cap A wx (((unhide SA).kp g).row (ao := ao) (len := len) (Z := A) (by simp))
  generalize upO R1 C1 len A = up at *
  obtain ⟨⟨x0, x1, x2⟩, ⟨x3, x4, x5⟩, ⟨x6, x7, x8⟩, ⟨x9, x10, x11⟩⟩ := unhide CW wa (Kp.refl _)
  have gx0 := heap_gt x0
  have gx1 := heap_gt x3
  have gx2 := heap_gt x6
  have gx3 := heap_gt x9
  go_wp2_with fail
  (try rw [hQx])
  (try rw [hwa])
  clear hQx hwa
  go_region_held3 (fun w' => w'.cell? ⟨Px, 0, none⟩ = some (.int .i64 q2.r) ∧ w'.cell? ⟨Px, 1, none⟩ = some (.int .i64 q2.c) ∧ w'.cell? ⟨Px, 2, none⟩ = some (.slice ap q2.len pp) ∧ w'.cell? ⟨Qx, 0, none⟩ = some (.int .i64 q2.r) ∧ w'.cell? ⟨Qx, 1, none⟩ = some (.int .i64 q2.c) ∧ w'.cell? ⟨Qx, 2, none⟩ = some (.slice aq q2.len pq) ∧ w'.cell? ⟨Ix, 0, none⟩ = some (.int .i64 R1) ∧ w'.cell? ⟨Ix, 1, none⟩ = some (.int .i64 C1) ∧ w'.cell? ⟨Ix, 2, none⟩ = some (.slice a1 len p1) ∧ w'.cell? ⟨Ax, 0, none⟩ = some (.int .i64 R1) ∧ w'.cell? ⟨Ax, 1, none⟩ = some (.int .i64 C1) ∧ w'.cell? ⟨Ax, 2, none⟩ = some (.slice ao len cap))
      (simp [go_sem, *])
      (first
        | (go_at_call 13; refine (unhide SM _ (show Kp wa wa.drew from Kp.refl _)).mono ?_; rintro e wb ⟨rfl, kb⟩; have KB : Hid (Kp wa wb) := kb; obtain ⟨⟨b0, b1, b2⟩, ⟨b3, b4, b5⟩, ⟨b6, b7, b8⟩, ⟨b9, b10, b11⟩⟩ := unhide CW wb (unhide KB); have gb0 := heap_gt b0; have gb1 := heap_gt b3; have gb2 := heap_gt b6; have gb3 := heap_gt b9; clear kb SM)
        | (go_at_call 14; refine (unhide SN _ (unhide KB)).mono ?_; rintro e wc ⟨rfl, kc⟩; have KC : Hid (Kp wa wc) := ((unhide KB).trans kc); obtain ⟨⟨c0, c1, c2⟩, ⟨c3, c4, c5⟩, ⟨c6, c7, c8⟩, ⟨c9, c10, c11⟩⟩ := unhide CW wc (unhide KC); have gc0 := heap_gt c0; have gc1 := heap_gt c3; have gc2 := heap_gt c6; have gc3 := heap_gt c9; clear kc SN)
        | (go_at_call 15; refine (unhide CU _ (unhide KC)).mono ?_; rintro e wd ⟨rfl, ed⟩; subst ed; clear CU)
        | (go_at_call 16; refine (unhide CR _ (unhide KC)).mono ?_; rintro e wd ⟨rfl, ed⟩; subst ed; clear CR)
        | (go_at_call 17; refine (unhide UA _ (unhide KC)).mono ?_; rintro e we ⟨rfl, ge⟩; have KE : Hid (Kp wa we) := ((unhide KC).grown ge); obtain ⟨⟨e0, e1, e2⟩, ⟨e3, e4, e5⟩, ⟨e6, e7, e8⟩, ⟨e9, e10, e11⟩⟩ := unhide CW we (unhide KE); have ge0 := heap_gt e0; have ge1 := heap_gt e3; have ge2 := heap_gt e6; have ge3 := heap_gt e9; clear ge UA)
        | (go_at_call 18; refine (unhide UB _ (unhide KE)).mono ?_; rintro e wf ⟨rfl, gf⟩; have KF : Hid (Kp wa wf) := ((unhide KE).grown gf); obtain ⟨⟨f0, f1, f2⟩, ⟨f3, f4, f5⟩, ⟨f6, f7, f8⟩, ⟨f9, f10, f11⟩⟩ := unhide CW wf (unhide KF); have gf0 := heap_gt f0; have gf1 := heap_gt f3; have gf2 := heap_gt f6; have gf3 := heap_gt f9; clear gf UB))
  have SF : Hid (ST w [(ovD Bp q2.len, OvP ap Bp q2.len q2.Z), (tD lo q1.m l, TLs lo q1.m q1.n q1.nn A l 0), ([R], RE R q2.cut 400000), ([U], UE U q2.cut 400000)] [fBlk Qx #[.int .i64 q2.r, .int .i64 q2.c, .slice aq q2.len pq] 24, fRow aq q2.len q2.Z, fBlk Px #[.int .i64 q2.r, .int .i64 q2.c, .slice ap q2.len pp] 24, (tD lo2 q1.m l2, TLs lo2 q1.m q1.n q1.nn A l2 0), fBlk Ix #[.int .i64 R1, .int .i64 C1, .slice a1 len p1] 24, fRow a1 len A, fBlk Ax #[.int .i64 R1, .int .i64 C1, .slice ao len cap] 24, fRow ao len A] wf) := (unhide SA).kp (unhide KF)
  have m25 := (unhide HQ).2.2.1.1
  have HL : Hid (q1.nn ≤ 1000000 ∧ q2.len ≤ 1000000) := ⟨by have := (unhide HQ).2.2.1.2; omega, by have := (unhide HQ).2.2.2; omega⟩
  clear SA CW HQ b0 b1 b2 b3 b4 b5 b6 b7 b8 b9 b10 b11 c0 c1 c2 c3 c4 c5 c6 c7 c8 c9 c10 c11 e0 e1 e2 e3 e4 e5 e6 e7 e8 e9 e10 e11 f0 f1 f2 f3 f4 f5 f6 f7 f8 f9 f10 f11 x0 x1 x2 x3 x4 x5 x6 x7 x8 x9 x10 x11 gx0 gx1 gx2 gx3 gb0 gb1 gb2 gb3 gc0 gc1 gc2 gc3 ge0 ge1 ge2 ge3 gf0 gf1 gf2 gf3 KB KC KE KF
  go_wp2_with fail
  go_loopw [19] (fun i wr => ∃ j : Nat, j ≤ q1.m ∧ i = .int .i64 j ∧ Hid (ST w [(ovD Bp q2.len, OvP ap Bp q2.len q2.Z), (tD lo q1.m l, TLs lo q1.m q1.n q1.nn A l j), ([R], RE R q2.cut 400000), ([U], UE U q2.cut 400000)] [fBlk Qx #[.int .i64 q2.r, .int .i64 q2.c, .slice aq q2.len pq] 24, fRow aq q2.len q2.Z, fBlk Px #[.int .i64 q2.r, .int .i64 q2.c, .slice ap q2.len pp] 24, (tD lo2 q1.m l2, TLs lo2 q1.m q1.n q1.nn A l2 0), fBlk Ix #[.int .i64 R1, .int .i64 C1, .slice a1 len p1] 24, fRow a1 len A, fBlk Ax #[.int .i64 R1, .int .i64 C1, .slice ao len cap] 24, fRow ao len A] wr)) (fun i _ => q1.m - (intOf i).toNat)
  case atStart => exact ⟨0, Nat.zero_le _, rfl, SF⟩
  case round =>
    obtain ⟨j, hj, rfl, HJ⟩ := hrel
    clear SF
    by_cases hlt : j < q1.m
    · have hT : TLs lo q1.m q1.n q1.nn A l j wr := (unhide HJ).ob (c := (tD lo q1.m l, TLs lo q1.m q1.n q1.nn A l j)) (by simp)
      obtain ⟨b, o, rfl, c0, c1, c2⟩ := hT.1.at hlt
      have c2 : wr.cell? ⟨b, o + j * 3 + 2, none⟩ = some (.slice (some ⟨(l j).1, 0, none⟩) q1.nn (l j).2) := c2
      have i0 : (0 : Int) ≤ (j : Int) := Int.natCast_nonneg _
      have i1 : (j : Int) < (q1.m : Int) := Int.ofNat_lt.2 hlt
      have OVR := hide (ST.overT (cap := (l j).2) [(ovD Bp q2.len, OvP ap Bp q2.len q2.Z)] (unhide HL).1 (unhide HT).1 hlt (unhide HJ))
      have B1 : Hid (j + 1 ≤ q1.m) := hlt
      clear hT c0 c1
      go_wp2_with fail
      refine (unhide OVR).mono ?_
      rintro e w5 ⟨rfl, s5⟩
      have S5 : Hid (ST w [(ovD Bp q2.len, OvP ap Bp q2.len q2.Z), (tD (some ⟨b, o, none⟩) q1.m l, TLs (some ⟨b, o, none⟩) q1.m q1.n q1.nn A l (j + 1)), ([R], RE R q2.cut 400000), ([U], UE U q2.cut 400000)] [fBlk Qx #[.int .i64 q2.r, .int .i64 q2.c, .slice aq q2.len pq] 24, fRow aq q2.len q2.Z, fBlk Px #[.int .i64 q2.r, .int .i64 q2.c, .slice ap q2.len pp] 24, (tD lo2 q1.m l2, TLs lo2 q1.m q1.n q1.nn A l2 0), fBlk Ix #[.int .i64 R1, .int .i64 C1, .slice a1 len p1] 24, fRow a1 len A, fBlk Ax #[.int .i64 R1, .int .i64 C1, .slice ao len cap] 24, fRow ao len A] w5) := s5
      clear s5 HJ c2 OVR
      go_wp2
      go_roundw
      case rel => exact ⟨j + 1, unhide B1, by go_num, S5⟩
      case measure => have := unhide B1; simp [intOf]; omega
    · obtain rfl : j = q1.m := by omega
      obtain ⟨y0, y1, y2⟩ := (unhide HJ).cells (b := Px) (x := .int .i64 q2.r) (y := .int .i64 q2.c) (z := .slice ap q2.len pp) (T := 24) (by simp)
      clear hlt hj
      go_wp2_with fail
      refine (ST.overV (cap := pp) [] (unhide HL).2 (unhide HJ)).mono ?_
      rintro e w6 ⟨rfl, s6⟩
      have S6 : Hid (ST w [(ovD Bp q2.len, fun _ => True), (tD lo q1.m l, TLs lo q1.m q1.n q1.nn A l q1.m), ([R], RE R q2.cut 400000), ([U], UE U q2.cut 400000)] [fBlk Qx #[.int .i64 q2.r, .int .i64 q2.c, .slice aq q2.len pq] 24, fRow aq q2.len q2.Z, fBlk Px #[.int .i64 q2.r, .int .i64 q2.c, .slice ap q2.len pp] 24, (tD lo2 q1.m l2, TLs lo2 q1.m q1.n q1.nn A l2 0), fBlk Ix #[.int .i64 R1, .int .i64 C1, .slice a1 len p1] 24, fRow a1 len A, fBlk Ax #[.int .i64 R1, .int .i64 C1, .slice ao len cap] 24, fRow ao len A] w6) := s6
      clear s6 HJ y0 y1 y2
      obtain ⟨y0, y1, y2⟩ := (unhide S6).cells (b := Ix) (x := .int .i64 R1) (y := .int .i64 C1) (z := .slice a1 len p1) (T := 24) (by simp)
      obtain ⟨y3, y4, y5⟩ := (unhide S6).cells (b := Ax) (x := .int .i64 R1) (y := .int .i64 C1) (z := .slice ao len cap) (T := 24) (by simp)
      go_wp2_with fail
      refine (kitSameM R1 C1 a1 ao len p1 cap A (by have := (unhide HC).1; omega) _ ((unhide S6).row (by simp)) ((unhide S6).row (by simp))).mono ?_
      rintro e w7 ⟨rfl, k7⟩
      have S7 := hide ((unhide S6).kp k7)
      clear k7 S6 y0 y1 y2 y3 y4 y5
      go_wp2_with fail
      refine (lawPolyAwake _).mono ?_
      rintro e w8 ⟨rfl, k8⟩
      have S8 := hide ((unhide S7).kp k8)
      clear k8 S7
      go_wp2
      go_ret
      exact ⟨rfl, (unhide S8).keep⟩

theorem lawPolyTerms (R1 C1 t k : Int) (ht : I64 t) (ao : Option Addr) (len cap : Nat) (A : Nat → Int) (hp : len ≤ cap) (hA : ∀ j, j < len → I64 (A j)) (h0 : ao = none → len = 0 ∧ cap = 0) (w : World) (ra : Row w ao len A) : Calls Tryz.prog 3 #[.agg #[.int .i64 R1, .int .i64 C1, .slice ao len cap], .int .i64 k, .int .i64 t] w fun e w' => e = .returned (.bool true) ∧ Kp w w' := by
  by_cases h : len ≤ 160
  · exact lawPolyTerms_ok R1 C1 t k ht ao len cap A hp hA h0 w ra h
  · exact lawPolyTerms_not R1 C1 t k ht ao len cap A hp hA h0 w ra (by omega)

end Go.Proofs.YtopaakjildmjcaaGreat

/- How matrices that are handed in lie in memory. -/
namespace Go.Proofs.YtopaakjildmjcaaGreat
open Go.ChangeShapes Go.WideShapes Go.ChangeAt Go.RowKit Go.Joins Go.Proofs.Wd Go.Deep
set_option linter.unusedVariables false
set_option linter.unusedSimpArgs false
set_option maxRecDepth 10000

set_option maxRecDepth 20000 in
theorem open_mat {H : Type} {enc : TypeId × Value → H} {W : World} {n : Nat} {cs : List Value} {y : DataW H × List MemPlace} (h : DataW.trod enc Tryz.prog W 0 (fun _ => true) true n 24 cs = some y) :
    ∃ (R C : Int) (ao : Option Addr) (ln lc : Nat) (Z : Nat → Int), cs = [.int .i64 R, .int .i64 C, .slice ao ln lc] ∧ I64 R ∧ I64 C ∧ ln ≤ lc ∧ lc ≤ 9223372036854775807 ∧ Row W ao ln Z ∧ (∀ i, i < ln → I64 (Z i)) ∧ (ao = none → ln = 0 ∧ lc = 0) := by
  obtain ⟨xs, m, _, _, hlen, hxl, hf⟩ := DataW.trod_struct Tryz.underlying24 h
  rw [show Tryz.prog.cellsOf 24 = 3 by kernel_rfl] at hlen
  match cs, hlen with
  | [v0, v1, v2], _ =>
  match xs, hxl with
  | [x0, x1, x2], _ =>
  have f0 : DataW.trod enc Tryz.prog W 0 (fun _ => true) true m 3 (([v0, v1, v2].drop 0).take (Tryz.prog.cellsOf 3)) = some x0 := hf 0 _ rfl
  rw [cellsInt] at f0
  have f1 : DataW.trod enc Tryz.prog W 0 (fun _ => true) true m 3 (([v0, v1, v2].drop 1).take (Tryz.prog.cellsOf 3)) = some x1 := hf 1 _ rfl
  rw [cellsInt] at f1
  have f2 : DataW.trod enc Tryz.prog W 0 (fun _ => true) true m 22 (([v0, v1, v2].drop 2).take (Tryz.prog.cellsOf 22)) = some x2 := hf 2 _ rfl
  rw [cellsInts] at f2
  obtain ⟨R, e0, _, w0⟩ := DataW.trod_int Tryz.underlying3 f0
  obtain ⟨C, e1, _, w1⟩ := DataW.trod_int Tryz.underlying3 f1
  obtain ⟨lo, ln, lc, lz, rfl, l1, l2, l3, l4, l5⟩ := open_row0 f2
  simp at e0 e1
  subst e0 e1
  exact ⟨R, C, lo, ln, lc, lz, rfl, i64_wf w0, i64_wf w1, l1, l2, l3, l4, l5⟩

end Go.Proofs.YtopaakjildmjcaaGreat

/- The statement PolyTerms holds for every input: the law returns true, and its arguments read afterwards as before. No condition. -/
namespace Go.Proofs.YtopaakjildmjcaaGreat.polyTerms
open Go.ChangeShapes Go.WideShapes Go.ChangeAt Go.RowKit Go.Joins Go.Proofs.Wd
set_option linter.unusedVariables false
set_option linter.unusedSimpArgs false
set_option maxRecDepth 10000

theorem own : ownKnob Tryz.prog.godebug = none := by kernel_rfl

set_option maxRecDepth 100000 in
theorem lifted (os : Os) (started : os.Started) (H : Type) (enc : TypeId × Value → H) :
    ReturnsInHanded {} Tryz.checked os 3 .any (Rows.polyTermsSpec.pre6 enc Tryz.prog Tryz.f3 Rows.polyTermsRow.domain false) (Rows.polyTermsSpec.post enc Tryz.prog Tryz.f3 false true false false) := by
  refine returnsInHanded_of_change (C := Tryz.checked) own started (by kernel_rfl) Tryz.func3
    (ChangeSpec.witness6 (enc := enc) (C := Tryz.checked) false ⟨#[], #[.agg #[.int .i64 0, .int .i64 0, .slice none 0 0], .int .i64 0, .int .i64 0], []⟩ 8 (by kernel_rfl) (by kernel_rfl) (by kernel_rfl) (by kernel_rfl)) ?_
  intro W base args ds gs before hval0 hW hcnd _
  have hval : ∀ (j : Nat) t v, Tryz.f3.params[j]? = some t → args[j]? = some v → Value.okWide Tryz.prog W .any base t v := hval0
  have hW' := hW
  obtain ⟨p, q, hA0, hV, rfl, hfz, hnd⟩ := hW
  have hA : DataW.TrodAll enc Tryz.prog W 0 (fun _ => true) true Tryz.f3.params.toList args.toList ds p := hA0
  rw [Tryz.params3] at hA hval
  obtain ⟨v0, vs0, d0, ds0, p0, q0, hargs, rfl, rfl, h0, r0⟩ := trodAll_cons hA
  obtain ⟨v1, vs1, d1, ds1, p1, q1, rfl, rfl, rfl, h1, r1⟩ := trodAll_cons r0
  obtain ⟨v2, vs2, d2, ds2, p2, q2, rfl, rfl, rfl, h2, r2⟩ := trodAll_cons r1
  obtain ⟨rfl, rfl, rfl⟩ := trodAll_nil r2
  obtain rfl : args = #[v0, v1, v2] := by cases args; simp_all
  obtain ⟨rfl, rfl⟩ := trodVars_none hV
  have hlt := hW'.lt
  have k0 := h0
  obtain ⟨fuel0, t0⟩ := h0
  obtain ⟨cs0, rfl, _⟩ := okWide_struct Tryz.underlying24 (hval 0 24 v0 rfl rfl)
  obtain ⟨R0, C0, ao0, ln0, lc0, Z0, e0, iR0, iC0, le0, lm0, row0, num0, nil0⟩ := open_mat t0
  obtain rfl : cs0 = #[.int .i64 R0, .int .i64 C0, .slice ao0 ln0 lc0] := Array.ext' (by simpa [Value.cells] using e0)
  obtain ⟨a1, rfl, rfl, rfl, wa1⟩ := open_int Tryz.underlying3 (hval 1 3 v1 rfl rfl) h1
  obtain ⟨a2, rfl, rfl, rfl, wa2⟩ := open_int Tryz.underlying3 (hval 2 3 v2 rfl rfl) h2
  clear hA0 hval0
  refine (lawPolyTerms R0 C0 a2 a1 (i64_wf wa2) ao0 ln0 lc0 Z0 le0 num0 nil0 W row0).mono fun e W' ⟨he, hg⟩ => ?_
  subst he
  exact ⟨_, rfl, post_of_kp (pa := p0 ++ ([] ++ ([] ++ ([])))) (pv := []) hW' (fun _ => (trodAll_cons_mk (shut_bool Tryz.underlying4 _) trodAll_mk0)) (trodAll_cons_mk (WideElems.Trod_stays laid (by kernel_rfl) (of_decide_eq_true (by kernel_rfl)) k0 (fun x hx => hg.same (hlt x (by simp [hx]))) (fun x hx => by simpa using hlt x (by simp [hx]))) (trodAll_cons_mk (shut_int Tryz.underlying3 wa1) (trodAll_cons_mk (shut_int Tryz.underlying3 wa2) trodAll_mk0))) rfl hg⟩

end Go.Proofs.YtopaakjildmjcaaGreat.polyTerms
namespace Go.Proofs.YtopaakjildmjcaaGreat
theorem polyTerms_holds : Rows.PolyTermsSaid :=
  OpenClaim.holds_of_wide 3 Tryz.f3 rfl rfl rfl rfl rfl rfl rfl ⟨rfl, rfl, rfl, rfl, rfl⟩ rfl rfl rfl rfl rfl (by kernel_rfl) Tryz.func3 (by kernel_rfl)
    (of_decide_eq_true (by kernel_rfl)) (by unfold Func.isWrapper; first | (rw [if_pos (by decide +kernel)]; kernel_rfl) | (rw [if_neg (by decide +kernel)]; exact ⟨rfl, rfl⟩))
    (fun os started H enc _ => polyTerms.lifted os started H enc)
#print axioms polyTerms_holds
end Go.Proofs.YtopaakjildmjcaaGreat
