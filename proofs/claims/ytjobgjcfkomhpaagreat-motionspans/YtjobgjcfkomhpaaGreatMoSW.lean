/- MoS, as far as MoFour wants it. -/
import Derived.Test.YtjobgjcfkomhpaaGreatMoFourT4
set_option linter.unusedVariables false
set_option linter.unusedSimpArgs false
namespace Go.Proofs.YtjobgjcfkomhpaaGreat
open Go.RowKit Go.Shelf Go.Proofs.Wd
set_option maxRecDepth 10000
attribute [local go_sem ↓] Go.wp_at_zero Go.wp_at_succ
theorem span_one (t : Int) (ht : 0 ≤ t ∧ t ≤ 80) : spanZ t 4294967296 = t * 4294967296 ∧ spanC t 4294967296 = false := by
 obtain ⟨n, rfl⟩ : ∃ n : Nat, t = n := ⟨t.toNat, by omega⟩
 obtain ⟨w1, w2⟩ := who_of n (by omega)
 have e1 := mul_half2 (2 * (n : Int)) 1 (by omega) (by omega) (by omega)
 have e2 := mul_half2 2 (n : Int) (by omega) (by omega) (by omega)
 rw [show (1 : Int) * 4294967296 = 4294967296 by omega, show 2 * (n : Int) * 2147483648 = (n : Int) * 4294967296 by omega, show 1 * (2 * (n : Int)) * 2147483648 = (n : Int) * 4294967296 by omega] at e1
 rw [show (2 : Int) * 2147483648 = 4294967296 by omega, show (n : Int) * 2 * 2147483648 = (n : Int) * 4294967296 by omega] at e2
 unfold spanZ spanC
 rw [w1, w2]
 constructor
 ·show mulN (mulN 4294967296 ((n : Int) * 4294967296)) 4294967296 = _
  rw [e1.1, e2.1]
 ·show (false || (mulC 4294967296 ((n : Int) * 4294967296) || mulC (mulN 4294967296 ((n : Int) * 4294967296)) 4294967296)) = false
  rw [e1.1, e1.2, e2.2]
  rfl
theorem moA_up (a : Int) (ha : -4 ≤ a ∧ a ≤ 4) : UpW 9 2 (moA a) := by
 refine ⟨fun p _ => ?_, fun i k hi hk h => ?_⟩
 ·unfold moA
  split <;> omega
 ·unfold moA
  rw [if_neg]
  rcases (show i = 0 ∨ i = 1 by omega) with rfl | rfl <;> omega
theorem flow_m4 (a t : Int) (ha : -4 ≤ a ∧ a ≤ 4) (ht : 0 ≤ t ∧ t ≤ 80) : (∀ p, p < 4 → flowZ (WZ (moA a)) 2 (t * 4294967296) p = m4 1 (a * t) 0 1 p * 4294967296) ∧ flowC (WZ (moA a)) 2 (t * 4294967296) = false := by
 obtain ⟨h1, h2⟩ := flow_uni (moA a) 2 (by omega) (moA_up a ha) t (by omega)
 refine ⟨fun p hp => ?_, h2⟩
 rw [h1 p hp]
 rcases four hp with rfl | rfl | rfl | rfl
 ·show (2 : Int) * 2147483648 = 1 * 4294967296; omega
 ·show 2 * (a * t) * 2147483648 = a * t * 4294967296; omega
 ·show (0 : Int) * 2147483648 = 0 * 4294967296; omega
 ·show (2 : Int) * 2147483648 = 1 * 4294967296; omega
theorem twoQ_mo (q g : Int) : twoQ q (3 * g) = moQ q g := rfl
theorem turnR (r c : Nat) (hr : 1 ≤ r ∧ r ≤ 12) (hc : 1 ≤ c ∧ c ≤ 12) (a1 : Option Addr) (p1 : Nat) (A : Nat → Int) (w : World) (ra : Row w a1 (r * c) A) :
  Calls Tryz.prog 29 #[.agg #[.int .i64 r, .int .i64 c, .slice a1 (r * c) p1]] w fun e w' => MatP c r (c * r) (turnZ A r c) 0 (Kp w) w e w' := by
 obtain ⟨b, o, rfl, za⟩ := ra.some (mul12n r c hr hc).1
 exact matTurn_ok r c b o p1 A hr hc w za
section
variable {w wx w' : World} {es fs : List Ob}
theorem ST.rowK {r c err : Int} {len : Nat} {Z : Nat → Int} {e : Ending} (h : ST w es fs wx) (hv : MatP r c len Z err (Kp wx) wx e w') : ∃ ao cap, e = .returned (.tuple #[.agg #[.int .i64 r, .int .i64 c, .slice ao len cap], .int .i64 err]) ∧ len ≤ cap ∧ ST w es (fRow ao len Z :: fs) w' := by
 obtain ⟨ao, cap, B, rfl, h1, h2, h3, k⟩ := hv
 refine ⟨ao, cap, rfl, h3, h.rowNew k (h2.elim Or.inl fun ⟨e, b⟩ => by rw [e]; exact (Own.of b).row) (fun U hU => ?_)⟩
 rcases h2 with h2 | ⟨rfl, b⟩
 ·intro h0; omega
 ·exact off_blk (by omega)
end
theorem mulTw (U : Nat) (a1 a2 : Option Addr) (p1 p2 : Nat) (A B : Nat → Int) (hp : 4 ≤ p1) (hA : ∀ j, j < 4 → I64 (A j)) (hB : ∀ j, j < 4 → I64 (B j)) (w : World) (ra : Row w a1 4 A ∧ Off U 4 a1) (rb : Row w a2 4 B ∧ Off U 4 a2) (n0 : Int) (hn : 0 ≤ n0 ∧ n0 < 1000000000000) (h : UC U false n0 w) (hg : orC (mulG A B 2 2) 4 = false) :
  Calls Tryz.prog 30 #[.pointer (some ⟨U, 0, none⟩), .agg #[.int .i64 2, .int .i64 2, .slice a1 4 p1], .agg #[.int .i64 2, .int .i64 2, .slice a2 4 p2]] w fun e w' => ValP 2 2 4 (mulZ A B 2 2) 0 (fun w' => UW U false n0 100 w' ∧ Mk U w w') w e w' := by
 refine (mulR U 2 2 2 (by omega) (by omega) (by omega) a1 a2 p1 p2 A B hp hA hB w ra rb false n0 ⟨hn.1, by omega⟩ h).mono ?_
 rintro e w' ⟨ao, cap, C, rfl, h1, h2, h3, h4, h5⟩
 have h4 : UC U (false || orC (mulG A B 2 2) 4) (n0 + 16) w' := h4
 rw [hg] at h4
 exact ⟨ao, cap, C, rfl, h3, h1, h2.imp id (fun ⟨e, b⟩ => ⟨e, Own.of b⟩), ⟨n0 + 16, by omega, by omega, h4⟩, h5⟩
theorem sumTw (U : Nat) (a1 a2 : Option Addr) (p1 p2 : Nat) (A B : Nat → Int) (hA : ∀ j, j < 4 → I64 (A j)) (hB : ∀ j, j < 4 → I64 (B j)) (w : World) (ra : Row w a1 4 A ∧ Off U 4 a1) (rb : Row w a2 4 B ∧ Off U 4 a2) (n0 : Int) (hn : 0 ≤ n0 ∧ n0 < 1000000000000) (h : UC U false n0 w) (hg : orC (fun p => s2C (A p) (B p)) 4 = false) :
  Calls Tryz.prog 31 #[.pointer (some ⟨U, 0, none⟩), .agg #[.int .i64 2, .int .i64 2, .slice a1 4 p1], .agg #[.int .i64 2, .int .i64 2, .slice a2 4 p2]] w fun e w' => ValP 2 2 4 (fun p => s2N (A p) (B p)) 0 (fun w' => UW U false n0 100 w' ∧ Mk U w w') w e w' := by
 refine (sumR U 2 2 (by omega) (by omega) a1 a2 p1 p2 A B hA hB w ra rb false n0 ⟨hn.1, by omega⟩ h).mono ?_
 rintro e w' ⟨ao, cap, C, rfl, h1, h2, h3, h4, h5⟩
 have h4 : UC U (false || orC (fun p => s2C (A p) (B p)) 4) (n0 + 8) w' := h4
 rw [hg] at h4
 exact ⟨ao, cap, C, rfl, h3, h1, h2.imp id (fun ⟨e, b⟩ => ⟨e, Own.of b⟩), ⟨n0 + 8, by omega, by omega, h4⟩, h5⟩
theorem spN (U : Nat) (n0 : Int) (hn0 : 0 ≤ n0 ∧ n0 < 10000000000000000) (a q g : Int) (ba bq : Nat) (t : Int) (hb : (-4 ≤ a ∧ a ≤ 4) ∧ (0 ≤ q ∧ q ≤ 16) ∧ (0 ≤ g ∧ g ≤ 5)) (ht : 0 ≤ t ∧ t ≤ 80) (w : World) (h : UC U false n0 w) (hB : Blk ba (twoAC a) 3 w ∧ Blk bq (twoQC q (3 * g)) 3 w) :
  Calls Tryz.prog 17 #[.pointer (some ⟨U, 0, none⟩), .agg #[.int .i64 2, .slice (some ⟨ba, 0, none⟩) 4 4, .slice (some ⟨bq, 0, none⟩) 2 2, .int .i64 4294967296, .int .i64 1, .int .i64 1, .slice none 0 0], .int .i64 t] w fun e w' => ValP 2 2 4 (noiseZ (WZ (moA a)) (moQ q g) 2 (t * 4294967296)) 0 (fun w' => UW U false n0 300000 w' ∧ Mk U w w') w e w' := by
 have := twNoise U false n0 hn0 a q (3 * g) ba bq ⟨⟨by omega, by omega⟩, hb.2.1, by omega, by omega⟩ t (t * 4294967296) (by omega) (span_one t ht).1 w h hB
 rw [(span_one t ht).2, twoQ_mo, (noise_half a q g t hb.1 hb.2.1 hb.2.2 ht).2] at this
 exact this
theorem spF (U : Nat) (n0 : Int) (hn0 : 0 ≤ n0 ∧ n0 < 10000000000000000) (a q g : Int) (ba bq : Nat) (t : Int) (hb : (-4 ≤ a ∧ a ≤ 4) ∧ (0 ≤ q ∧ q ≤ 16) ∧ (0 ≤ g ∧ g ≤ 5)) (ht : 0 ≤ t ∧ t ≤ 80) (w : World) (h : UC U false n0 w) (hB : Blk ba (twoAC a) 3 w ∧ Blk bq (twoQC q (3 * g)) 3 w) :
  Calls Tryz.prog 15 #[.pointer (some ⟨U, 0, none⟩), .agg #[.int .i64 2, .slice (some ⟨ba, 0, none⟩) 4 4, .slice (some ⟨bq, 0, none⟩) 2 2, .int .i64 4294967296, .int .i64 1, .int .i64 1, .slice none 0 0], .int .i64 t] w fun e w' => ValP 2 2 4 (flowZ (WZ (moA a)) 2 (t * 4294967296)) 0 (fun w' => UW U false n0 300000 w' ∧ Mk U w w') w e w' := by
 have := twFlow U false n0 hn0 a q (3 * g) ba bq ⟨⟨by omega, by omega⟩, hb.2.1, by omega, by omega⟩ t (t * 4294967296) (by omega) (span_one t ht).1 w h hB
 rw [(span_one t ht).2, (flow_m4 a t hb.1 ht).2] at this
 exact this
set_option maxRecDepth 50000 in
set_option maxHeartbeats 16000000 in
theorem lawMotionSpans (mv fi se s t : Int) (im : I64 mv) (if' : I64 fi) (is : I64 se) (ia : I64 s) (ib : I64 t) (w : World) :
  Calls Tryz.prog 7 #[.int .i64 mv, .int .i64 fi, .int .i64 se, .int .i64 s, .int .i64 t] w fun e w' => e = .returned (.bool true) ∧ Kp w w' := by
 have II := hide (And.intro im (And.intro if' (And.intro is (And.intro ia ib))))
 clear im if' is ia ib
 go_enter Tryz.func7, Tryz.ntmps7
 go_wp2_with fail
 refine (lawAwake11 _).mono ?_
 rintro e w1 ⟨rfl, k1⟩
 have K1 : Hid (Kp w w1) := k1
 clear k1
 go_wp2_with fail
 refine (kitPick s 41 (unhide II).2.2.2.1 (by omega) w1).mono ?_
 rintro e wa ⟨rfl, k2⟩
 have K1 : Hid (Kp w wa) := (unhide K1).trans k2
 clear k2
 go_wp2_with fail
 refine (kitPick t 41 (unhide II).2.2.2.2 (by omega) wa).mono ?_
 rintro e wb ⟨rfl, k2⟩
 have K1 : Hid (Kp w wb) := (unhide K1).trans k2
 clear k2
 have bs : 0 ≤ s % 41 ∧ s % 41 ≤ 40 := by omega
 have bt : 0 ≤ t % 41 ∧ t % 41 ≤ 40 := by omega
 generalize s % 41 = s1 at *
 generalize t % 41 = t1 at *
 obtain ⟨bs0, bs1⟩ := bs
 obtain ⟨bt0, bt1⟩ := bt
 go_wp2_with fail
 refine (kitPick mv 9 (unhide II).1 (by omega) wb).mono ?_
 rintro e wc ⟨rfl, k2⟩
 have K1 : Hid (Kp w wc) := (unhide K1).trans k2
 clear k2
 have bm : 0 ≤ mv % 9 ∧ mv % 9 ≤ 8 := by omega
 generalize mv % 9 = m1 at *
 obtain ⟨bm0, bm1⟩ := bm
 go_wp2_with fail
 refine (kitPick fi 17 (unhide II).2.1 (by omega) wc).mono ?_
 rintro e wd ⟨rfl, k2⟩
 have K1 : Hid (Kp w wd) := (unhide K1).trans k2
 clear k2
 have bf : 0 ≤ fi % 17 ∧ fi % 17 ≤ 16 := by omega
 generalize fi % 17 = q at *
 obtain ⟨bf0, bf1⟩ := bf
 go_wp2_with fail
 refine (kitPick se 6 (unhide II).2.2.1 (by omega) wd).mono ?_
 rintro e we ⟨rfl, k2⟩
 have K1 : Hid (Kp w we) := (unhide K1).trans k2
 clear k2
 have bg : 0 ≤ se % 6 ∧ se % 6 ≤ 5 := by omega
 generalize se % 6 = g at *
 obtain ⟨bg0, bg1⟩ := bg
 clear II
 go_wp2_with fail
 refine (lawTwo11 (m1 - 4) q (3 * g) ⟨⟨by omega, by omega⟩, ⟨by omega, by omega⟩, by omega, by omega⟩ we).mono ?_
 intro e w2 hv
 have S1 := (ST.nil w).kp (unhide K1)
 obtain ⟨ba, bq, rfl, S2⟩ := S1.two hv
 clear hv S1 K1
 have BB : Hid ((-4 ≤ m1 - 4 ∧ m1 - 4 ≤ 4) ∧ (0 ≤ q ∧ q ≤ 16) ∧ (0 ≤ g ∧ g ≤ 5)) := ⟨⟨by omega, by omega⟩, ⟨bf0, bf1⟩, bg0, bg1⟩
 obtain ⟨a, ea⟩ : ∃ a, m1 - 4 = a := ⟨_, rfl⟩
 rw [ea] at S2 BB
 rw [ea]
 have S2 := hide (S2.box (mV a q (3 * g) ba bq).cells 25)
 have S2' : Hid (ST w [] [fBlk w2.heap.size (mV a q (3 * g) ba bq).cells 25, fTwo a q (3 * g) ba bq] (w2.alloc (.cells #[.int .i64 2, .slice (some ⟨ba, 0, none⟩) 4 4, .slice (some ⟨bq, 0, none⟩) 2 2, .int .i64 4294967296, .int .i64 1, .int .i64 1, .slice none 0 0] 25))) := S2
 have eMC : (mV a q (3 * g) ba bq).cells = #[.int .i64 2, .slice (some ⟨ba, 0, none⟩) 4 4, .slice (some ⟨bq, 0, none⟩) 2 2, .int .i64 4294967296, .int .i64 1, .int .i64 1, .slice none 0 0] := rfl
 rw [eMC]
 clear ea eMC S2 bm0 bm1 bf0 bf1 bg0 bg1
 have BT : Hid ((0 ≤ s1 ∧ s1 ≤ 40) ∧ (0 ≤ t1 ∧ t1 ≤ 40)) := ⟨⟨bs0, bs1⟩, bt0, bt1⟩
 go_wp2_with fail
 generalize (w2.alloc (.cells #[.int .i64 2, .slice (some ⟨ba, 0, none⟩) 4 4, .slice (some ⟨bq, 0, none⟩) 2 2, .int .i64 4294967296, .int .i64 1, .int .i64 1, .slice none 0 0] 25)) = w3 at *
 generalize w2.heap.size = Mb at *
 refine (unitNew w3).mono ?_
 rintro e w4 ⟨rfl, u1, g1⟩
 have S4 : Hid (ST w [([w3.heap.size], UO w3.heap.size (fun c => c = false) 0)] [fBlk Mb (mV a q (3 * g) ba bq).cells 25, fTwo a q (3 * g) ba bq] w4) := (unhide S2').push (Kp.of g1) ⟨false, 0, rfl, by omega, by omega, u1⟩ (uo_dep _ _ _) (by simp) (fun q hq => by simp at hq; subst hq; exact ⟨Nat.le_refl _, Blk.lt u1⟩)
 generalize w3.heap.size = U at *
 clear u1 g1 S2'

 obtain ⟨y0, y1, y2, y3, y4, y5, y6⟩ := cells_two (A := Mb) (a := a) (q := q) (g := 3 * g) ((unhide S4).get (f := fBlk Mb (mV a q (3 * g) ba bq).cells 25) (by simp))
 obtain ⟨c0, n0, hc0, q1, q2, hu⟩ := (unhide S4).unit []
 have HQ := hide (And.intro q1 q2)
 subst hc0
 have F0 := hide (spN U n0 ⟨q1, by omega⟩ a q g ba bq s1 (unhide BB) (by have := unhide BT; omega) w4 hu ((unhide S4).twoB (a := a) (q := q) (g := 3 * g) (ba := ba) (bq := bq) (by simp)))
 clear hu q1 q2
 go_wp2_with fail
 refine (unhide F0).mono ?_
 intro e w5 hv
 obtain ⟨a0, c0, rfl, hc0, Sw5⟩ := (unhide S4).value [] (unhide HQ) (show false = false from rfl) hv
 have Sw5 := hide (Sw5.box #[.int .i64 2, .int .i64 2, .slice a0 4 c0] 38)
 have Hc0 : Hid (4 ≤ c0) := hc0
 clear hv hc0 S4 F0 HQ y0 y1 y2 y3 y4 y5 y6
 obtain ⟨y0, y1, y2, y3, y4, y5, y6⟩ := cells_two (A := Mb) (a := a) (q := q) (g := 3 * g) ((unhide Sw5).get (f := fBlk Mb (mV a q (3 * g) ba bq).cells 25) (by simp))
 obtain ⟨c0, n0, hc0, q1, q2, hu⟩ := (unhide Sw5).unit []
 have HQ := hide (And.intro q1 q2)
 subst hc0
 have F1 := hide (spN U n0 ⟨q1, by omega⟩ a q g ba bq t1 (unhide BB) (by have := unhide BT; omega) (w5.alloc (.cells #[.int .i64 2, .int .i64 2, .slice a0 4 c0] 38)) hu ((unhide Sw5).twoB (a := a) (q := q) (g := 3 * g) (ba := ba) (bq := bq) (by simp)))
 clear hu q1 q2
 go_wp2_with fail
 generalize (w5.alloc (.cells #[.int .i64 2, .int .i64 2, .slice a0 4 c0] 38)) = w5b at *
 generalize w5.heap.size = B0x at *
 refine (unhide F1).mono ?_
 intro e w6 hv
 obtain ⟨a1, c1, rfl, hc1, Sw6⟩ := (unhide Sw5).value [] (unhide HQ) (show false = false from rfl) hv
 have Sw6 := hide (Sw6.box #[.int .i64 2, .int .i64 2, .slice a1 4 c1] 38)
 have Hc1 : Hid (4 ≤ c1) := hc1
 clear hv hc1 Sw5 F1 HQ y0 y1 y2 y3 y4 y5 y6
 obtain ⟨y0, y1, y2, y3, y4, y5, y6⟩ := cells_two (A := Mb) (a := a) (q := q) (g := 3 * g) ((unhide Sw6).get (f := fBlk Mb (mV a q (3 * g) ba bq).cells 25) (by simp))
 obtain ⟨c0, n0, hc0, q1, q2, hu⟩ := (unhide Sw6).unit []
 have HQ := hide (And.intro q1 q2)
 subst hc0
 have F2 := hide (spN U n0 ⟨q1, by omega⟩ a q g ba bq (s1 + t1) (unhide BB) (by have := unhide BT; omega) (w6.alloc (.cells #[.int .i64 2, .int .i64 2, .slice a1 4 c1] 38)) hu ((unhide Sw6).twoB (a := a) (q := q) (g := 3 * g) (ba := ba) (bq := bq) (by simp)))
 clear hu q1 q2
 go_wp2_with fail
 generalize (w6.alloc (.cells #[.int .i64 2, .int .i64 2, .slice a1 4 c1] 38)) = w6b at *
 generalize w6.heap.size = B1x at *
 refine (unhide F2).mono ?_
 intro e w7 hv
 obtain ⟨a2, c2, rfl, hc2, Sw7⟩ := (unhide Sw6).value [] (unhide HQ) (show false = false from rfl) hv
 have Sw7 := hide (Sw7.box #[.int .i64 2, .int .i64 2, .slice a2 4 c2] 38)
 have Hc2 : Hid (4 ≤ c2) := hc2
 clear hv hc2 Sw6 F2 HQ y0 y1 y2 y3 y4 y5 y6
 obtain ⟨y0, y1, y2, y3, y4, y5, y6⟩ := cells_two (A := Mb) (a := a) (q := q) (g := 3 * g) ((unhide Sw7).get (f := fBlk Mb (mV a q (3 * g) ba bq).cells 25) (by simp))
 obtain ⟨c0, n0, hc0, q1, q2, hu⟩ := (unhide Sw7).unit []
 have HQ := hide (And.intro q1 q2)
 subst hc0
 have F3 := hide (spF U n0 ⟨q1, by omega⟩ a q g ba bq t1 (unhide BB) (by have := unhide BT; omega) (w7.alloc (.cells #[.int .i64 2, .int .i64 2, .slice a2 4 c2] 38)) hu ((unhide Sw7).twoB (a := a) (q := q) (g := 3 * g) (ba := ba) (bq := bq) (by simp)))
 clear hu q1 q2
 go_wp2_with fail
 generalize (w7.alloc (.cells #[.int .i64 2, .int .i64 2, .slice a2 4 c2] 38)) = w7b at *
 generalize w7.heap.size = B2x at *
 refine (unhide F3).mono ?_
 intro e w8 hv
 obtain ⟨a3, c3, rfl, hc3, Sw8⟩ := (unhide Sw7).value [] (unhide HQ) (show false = false from rfl) hv
 have Sw8 := hide (Sw8.box #[.int .i64 2, .int .i64 2, .slice a3 4 c3] 38)
 have Hc3 : Hid (4 ≤ c3) := hc3
 clear hv hc3 Sw7 F3 HQ y0 y1 y2 y3 y4 y5 y6
 obtain ⟨y0, y1, y2, y3, y4, y5, y6⟩ := cells_two (A := Mb) (a := a) (q := q) (g := 3 * g) ((unhide Sw8).get (f := fBlk Mb (mV a q (3 * g) ba bq).cells 25) (by simp))
 obtain ⟨c0, n0, hc0, q1, q2, hu⟩ := (unhide Sw8).unit []
 have HQ := hide (And.intro q1 q2)
 subst hc0
 have F4 := hide (spF U n0 ⟨q1, by omega⟩ a q g ba bq s1 (unhide BB) (by have := unhide BT; omega) (w8.alloc (.cells #[.int .i64 2, .int .i64 2, .slice a3 4 c3] 38)) hu ((unhide Sw8).twoB (a := a) (q := q) (g := 3 * g) (ba := ba) (bq := bq) (by simp)))
 clear hu q1 q2
 go_wp2_with fail
 generalize (w8.alloc (.cells #[.int .i64 2, .int .i64 2, .slice a3 4 c3] 38)) = w8b at *
 generalize w8.heap.size = B3x at *
 refine (unhide F4).mono ?_
 intro e w9 hv
 obtain ⟨a4, c4, rfl, hc4, Sw9⟩ := (unhide Sw8).value [] (unhide HQ) (show false = false from rfl) hv
 have Sw9 := hide (Sw9.box #[.int .i64 2, .int .i64 2, .slice a4 4 c4] 38)
 have Hc4 : Hid (4 ≤ c4) := hc4
 clear hv hc4 Sw8 F4 HQ y0 y1 y2 y3 y4 y5 y6
 obtain ⟨y0, y1, y2, y3, y4, y5, y6⟩ := cells_two (A := Mb) (a := a) (q := q) (g := 3 * g) ((unhide Sw9).get (f := fBlk Mb (mV a q (3 * g) ba bq).cells 25) (by simp))
 obtain ⟨c0, n0, hc0, q1, q2, hu⟩ := (unhide Sw9).unit []
 have HQ := hide (And.intro q1 q2)
 subst hc0
 have F5 := hide (spF U n0 ⟨q1, by omega⟩ a q g ba bq (s1 + t1) (unhide BB) (by have := unhide BT; omega) (w9.alloc (.cells #[.int .i64 2, .int .i64 2, .slice a4 4 c4] 38)) hu ((unhide Sw9).twoB (a := a) (q := q) (g := 3 * g) (ba := ba) (bq := bq) (by simp)))
 clear hu q1 q2
 go_wp2_with fail
 generalize (w9.alloc (.cells #[.int .i64 2, .int .i64 2, .slice a4 4 c4] 38)) = w9b at *
 generalize w9.heap.size = B4x at *
 refine (unhide F5).mono ?_
 intro e w10 hv
 obtain ⟨a5, c5, rfl, hc5, Sw10⟩ := (unhide Sw9).value [] (unhide HQ) (show false = false from rfl) hv
 have Sw10 := hide (Sw10.box #[.int .i64 2, .int .i64 2, .slice a5 4 c5] 38)
 have Hc5 : Hid (4 ≤ c5) := hc5
 clear hv hc5 Sw9 F5 HQ y0 y1 y2 y3 y4 y5 y6
 obtain ⟨Z0, hZ0⟩ : ∃ Z, noiseZ (WZ (moA a)) (moQ q g) 2 (s1 * 4294967296) = Z := ⟨_, rfl⟩
 obtain ⟨Z1, hZ1⟩ : ∃ Z, noiseZ (WZ (moA a)) (moQ q g) 2 (t1 * 4294967296) = Z := ⟨_, rfl⟩
 obtain ⟨Z2, hZ2⟩ : ∃ Z, noiseZ (WZ (moA a)) (moQ q g) 2 ((s1 + t1) * 4294967296) = Z := ⟨_, rfl⟩
 obtain ⟨Z3, hZ3⟩ : ∃ Z, flowZ (WZ (moA a)) 2 (t1 * 4294967296) = Z := ⟨_, rfl⟩
 obtain ⟨Z4, hZ4⟩ : ∃ Z, flowZ (WZ (moA a)) 2 (s1 * 4294967296) = Z := ⟨_, rfl⟩
 obtain ⟨Z5, hZ5⟩ : ∃ Z, flowZ (WZ (moA a)) 2 ((s1 + t1) * 4294967296) = Z := ⟨_, rfl⟩
 have EZ : Hid ((noiseZ (WZ (moA a)) (moQ q g) 2 (s1 * 4294967296) = Z0 ∧ noiseZ (WZ (moA a)) (moQ q g) 2 (t1 * 4294967296) = Z1 ∧ noiseZ (WZ (moA a)) (moQ q g) 2 ((s1 + t1) * 4294967296) = Z2) ∧ flowZ (WZ (moA a)) 2 (t1 * 4294967296) = Z3 ∧ flowZ (WZ (moA a)) 2 (s1 * 4294967296) = Z4 ∧ flowZ (WZ (moA a)) 2 ((s1 + t1) * 4294967296) = Z5) := ⟨⟨hZ0, hZ1, hZ2⟩, hZ3, hZ4, hZ5⟩
 rw [hZ0, hZ1, hZ2, hZ3, hZ4, hZ5] at Sw10
 have IZ : Hid ((∀ p, I64 (Z0 p)) ∧ (∀ p, I64 (Z1 p)) ∧ (∀ p, p < 4 → I64 (Z3 p)) ∧ (∀ p, p < 4 → I64 (Z4 p))) := by
  refine ⟨fun p => ?_, fun p => ?_, fun p hp => ?_, fun p hp => ?_⟩
  ·rw [← hZ0]; exact noiseZ_I64 _ _ _ _ _
  ·rw [← hZ1]; exact noiseZ_I64 _ _ _ _ _
  ·rw [← hZ3, (flow_m4 a t1 (unhide BB).1 (by have := unhide BT; omega)).1 p hp]
   have := (unhide BB).1
   have b := mul_bound a t1 4 40 this (by have := unhide BT; omega)
   rcases four hp with rfl | rfl | rfl | rfl <;> (simp only [m4]; unfold I64; first | omega | (simp; omega))
  ·rw [← hZ4, (flow_m4 a s1 (unhide BB).1 (by have := unhide BT; omega)).1 p hp]
   have := (unhide BB).1
   have b := mul_bound a s1 4 40 this (by have := unhide BT; omega)
   rcases four hp with rfl | rfl | rfl | rfl <;> (simp only [m4]; unfold I64; first | omega | (simp; omega))
 clear hZ0 hZ1 hZ2 hZ3 hZ4 hZ5
 have HS : Hid ((∀ p, p < 4 → s2N (mulZ (mulZ Z3 Z0 2 2) (turnZ Z3 2 2) 2 2 p) (Z1 p) = Z2 p) ∧ orC (mulG Z3 Z0 2 2) 4 = false ∧ orC (mulG (mulZ Z3 Z0 2 2) (turnZ Z3 2 2) 2 2) 4 = false ∧ orC (fun p => s2C (mulZ (mulZ Z3 Z0 2 2) (turnZ Z3 2 2) 2 2 p) (Z1 p)) 4 = false ∧ (∀ p, p < 4 → mulZ Z3 Z4 2 2 p = Z5 p) ∧ orC (mulG Z3 Z4 2 2) 4 = false) := by
  obtain ⟨⟨e0, e1, e2⟩, e3, e4, e5⟩ := unhide EZ
  have bb := unhide BB
  have bt := unhide BT
  have SG := spans_gain a q g s1 t1 bb.1 bb.2.1 bb.2.2 bt.1 bt.2 Z3 Z0 Z1 (mulZ Z3 Z0 2 2) (turnZ Z3 2 2) (mulZ (mulZ Z3 Z0 2 2) (turnZ Z3 2 2) 2 2) (fun p hp => by rw [← e3]; exact (flow_m4 a t1 bb.1 (by omega)).1 p hp) (fun p _ => by rw [e0]) (fun p _ => by rw [e1]) (fun _ _ => rfl) (fun _ _ => rfl) (fun _ _ => rfl)
  have FM := flow_mul (moA a) 2 (by omega) (moA_up a bb.1) t1 s1 (by omega) (by omega)
  rw [e3, e4, show t1 + s1 = s1 + t1 by omega, e5] at FM
  exact ⟨fun p hp => by rw [SG.1 p hp, e2], orC_of _ _ (fun p hp => (SG.2 p hp).1), orC_of _ _ (fun p hp => (SG.2 p hp).2.1), orC_of _ _ (fun p hp => (SG.2 p hp).2.2), fun p hp => FM.1 p hp, orC_of _ _ (fun p hp => FM.2 p hp)⟩
 have IT : Hid (∀ p, p < 4 → I64 (turnZ Z3 2 2 p)) := fun p hp => by
  rcases four hp with rfl | rfl | rfl | rfl
  ·exact (unhide IZ).2.2.1 0 (by omega)
  ·exact (unhide IZ).2.2.1 2 (by omega)
  ·exact (unhide IZ).2.2.1 1 (by omega)
  ·exact (unhide IZ).2.2.1 3 (by omega)
 clear EZ BB BT

 obtain ⟨x30, x31, x32⟩ := (unhide Sw10).cells (b := B3x) (x := .int .i64 2) (y := .int .i64 2) (z := .slice a3 4 c3) (T := 38) (by simp)
 have F6 := hide (show Calls Tryz.prog 29 #[.agg #[.int .i64 2, .int .i64 2, .slice a3 4 c3]] (w10.alloc (.cells #[.int .i64 2, .int .i64 2, .slice a5 4 c5] 38)) fun e w' => MatP 2 2 4 (turnZ Z3 2 2) 0 (Kp (w10.alloc (.cells #[.int .i64 2, .int .i64 2, .slice a5 4 c5] 38))) (w10.alloc (.cells #[.int .i64 2, .int .i64 2, .slice a5 4 c5] 38)) e w' from turnR 2 2 (by omega) (by omega) a3 c3 Z3 (w10.alloc (.cells #[.int .i64 2, .int .i64 2, .slice a5 4 c5] 38)) ((unhide Sw10).row (ao := a3) (len := 4) (Z := Z3) (by simp)))
 go_wp2_with fail
 generalize (w10.alloc (.cells #[.int .i64 2, .int .i64 2, .slice a5 4 c5] 38)) = w10b at *
 generalize w10.heap.size = B5x at *
 refine (unhide F6).mono ?_
 intro e w11 hv
 obtain ⟨a6, c6, rfl, hc6, Sw11⟩ := (unhide Sw10).rowK hv
 have Sw11 := hide (Sw11.box #[.int .i64 2, .int .i64 2, .slice a6 4 c6] 38)
 have Hc6 : Hid (4 ≤ c6) := hc6
 clear hv hc6 Sw10 F6 x30 x31 x32
 obtain ⟨x30, x31, x32⟩ := (unhide Sw11).cells (b := B3x) (x := .int .i64 2) (y := .int .i64 2) (z := .slice a3 4 c3) (T := 38) (by simp)
 obtain ⟨x00, x01, x02⟩ := (unhide Sw11).cells (b := B0x) (x := .int .i64 2) (y := .int .i64 2) (z := .slice a0 4 c0) (T := 38) (by simp)
 obtain ⟨c0, n0, hc0, q1, q2, hu⟩ := (unhide Sw11).unit []
 have HQ := hide (And.intro q1 q2)
 subst hc0
 have F7 := hide (mulTw U a3 a0 c3 c0 (Z3) (Z0) (unhide Hc3) (unhide IZ).2.2.1 (fun p _ => (unhide IZ).1 p) (w11.alloc (.cells #[.int .i64 2, .int .i64 2, .slice a6 4 c6] 38)) ⟨(unhide Sw11).row (ao := a3) (len := 4) (Z := Z3) (by simp), (unhide Sw11).off (ao := a3) (len := 4) (Z := Z3) (by simp) (c := ([U], UO U (fun c => c = false) _)) (List.mem_singleton.2 rfl) (U := U) (by simp)⟩ ⟨(unhide Sw11).row (ao := a0) (len := 4) (Z := Z0) (by simp), (unhide Sw11).off (ao := a0) (len := 4) (Z := Z0) (by simp) (c := ([U], UO U (fun c => c = false) _)) (List.mem_singleton.2 rfl) (U := U) (by simp)⟩ n0 ⟨q1, by omega⟩ hu (unhide HS).2.1)
 clear hu q1 q2
 go_wp2_with fail
 generalize (w11.alloc (.cells #[.int .i64 2, .int .i64 2, .slice a6 4 c6] 38)) = w11b at *
 generalize w11.heap.size = B6x at *
 refine (unhide F7).mono ?_
 intro e w12 hv
 obtain ⟨a7, c7, rfl, hc7, Sw12⟩ := (unhide Sw11).value [] (unhide HQ) (show false = false from rfl) hv
 have Sw12 := hide (Sw12.box #[.int .i64 2, .int .i64 2, .slice a7 4 c7] 38)
 have Hc7 : Hid (4 ≤ c7) := hc7
 clear hv hc7 Sw11 F7 HQ x30 x31 x32 x00 x01 x02
 obtain ⟨x70, x71, x72⟩ := (unhide Sw12).cells (b := w12.heap.size) (x := .int .i64 2) (y := .int .i64 2) (z := .slice a7 4 c7) (T := 38) (by simp)
 obtain ⟨x60, x61, x62⟩ := (unhide Sw12).cells (b := B6x) (x := .int .i64 2) (y := .int .i64 2) (z := .slice a6 4 c6) (T := 38) (by simp)
 obtain ⟨c0, n0, hc0, q1, q2, hu⟩ := (unhide Sw12).unit []
 have HQ := hide (And.intro q1 q2)
 subst hc0
 have F8 := hide (mulTw U a7 a6 c7 c6 (mulZ Z3 Z0 2 2) (turnZ Z3 2 2) (unhide Hc7) (fun p _ => mulZ_I64 _ _ _ _ _) (unhide IT) (w12.alloc (.cells #[.int .i64 2, .int .i64 2, .slice a7 4 c7] 38)) ⟨(unhide Sw12).row (ao := a7) (len := 4) (Z := mulZ Z3 Z0 2 2) (by simp), (unhide Sw12).off (ao := a7) (len := 4) (Z := mulZ Z3 Z0 2 2) (by simp) (c := ([U], UO U (fun c => c = false) _)) (List.mem_singleton.2 rfl) (U := U) (by simp)⟩ ⟨(unhide Sw12).row (ao := a6) (len := 4) (Z := turnZ Z3 2 2) (by simp), (unhide Sw12).off (ao := a6) (len := 4) (Z := turnZ Z3 2 2) (by simp) (c := ([U], UO U (fun c => c = false) _)) (List.mem_singleton.2 rfl) (U := U) (by simp)⟩ n0 ⟨q1, by omega⟩ hu (unhide HS).2.2.1)
 clear hu q1 q2
 go_wp2_with fail
 generalize (w12.alloc (.cells #[.int .i64 2, .int .i64 2, .slice a7 4 c7] 38)) = w12b at *
 generalize w12.heap.size = B7x at *
 refine (unhide F8).mono ?_
 intro e w13 hv
 obtain ⟨a8, c8, rfl, hc8, Sw13⟩ := (unhide Sw12).value [] (unhide HQ) (show false = false from rfl) hv
 have Sw13 := hide (Sw13.box #[.int .i64 2, .int .i64 2, .slice a8 4 c8] 38)
 have Hc8 : Hid (4 ≤ c8) := hc8
 clear hv hc8 Sw12 F8 HQ x70 x71 x72 x60 x61 x62
 obtain ⟨x80, x81, x82⟩ := (unhide Sw13).cells (b := w13.heap.size) (x := .int .i64 2) (y := .int .i64 2) (z := .slice a8 4 c8) (T := 38) (by simp)
 obtain ⟨x10, x11, x12⟩ := (unhide Sw13).cells (b := B1x) (x := .int .i64 2) (y := .int .i64 2) (z := .slice a1 4 c1) (T := 38) (by simp)
 obtain ⟨c0, n0, hc0, q1, q2, hu⟩ := (unhide Sw13).unit []
 have HQ := hide (And.intro q1 q2)
 subst hc0
 have F9 := hide (sumTw U a8 a1 c8 c1 (mulZ (mulZ Z3 Z0 2 2) (turnZ Z3 2 2) 2 2) (Z1) (fun p _ => mulZ_I64 _ _ _ _ _) (fun p _ => (unhide IZ).2.1 p) (w13.alloc (.cells #[.int .i64 2, .int .i64 2, .slice a8 4 c8] 38)) ⟨(unhide Sw13).row (ao := a8) (len := 4) (Z := mulZ (mulZ Z3 Z0 2 2) (turnZ Z3 2 2) 2 2) (by simp), (unhide Sw13).off (ao := a8) (len := 4) (Z := mulZ (mulZ Z3 Z0 2 2) (turnZ Z3 2 2) 2 2) (by simp) (c := ([U], UO U (fun c => c = false) _)) (List.mem_singleton.2 rfl) (U := U) (by simp)⟩ ⟨(unhide Sw13).row (ao := a1) (len := 4) (Z := Z1) (by simp), (unhide Sw13).off (ao := a1) (len := 4) (Z := Z1) (by simp) (c := ([U], UO U (fun c => c = false) _)) (List.mem_singleton.2 rfl) (U := U) (by simp)⟩ n0 ⟨q1, by omega⟩ hu (unhide HS).2.2.2.1)
 clear hu q1 q2
 go_wp2_with fail
 generalize (w13.alloc (.cells #[.int .i64 2, .int .i64 2, .slice a8 4 c8] 38)) = w13b at *
 generalize w13.heap.size = B8x at *
 refine (unhide F9).mono ?_
 intro e w14 hv
 obtain ⟨a9, c9, rfl, hc9, Sw14⟩ := (unhide Sw13).value [] (unhide HQ) (show false = false from rfl) hv
 have Sw14 := hide (Sw14.box #[.int .i64 2, .int .i64 2, .slice a9 4 c9] 38)
 have Hc9 : Hid (4 ≤ c9) := hc9
 clear hv hc9 Sw13 F9 HQ x80 x81 x82 x10 x11 x12
 obtain ⟨x30, x31, x32⟩ := (unhide Sw14).cells (b := B3x) (x := .int .i64 2) (y := .int .i64 2) (z := .slice a3 4 c3) (T := 38) (by simp)
 obtain ⟨x40, x41, x42⟩ := (unhide Sw14).cells (b := B4x) (x := .int .i64 2) (y := .int .i64 2) (z := .slice a4 4 c4) (T := 38) (by simp)
 obtain ⟨c0, n0, hc0, q1, q2, hu⟩ := (unhide Sw14).unit []
 have HQ := hide (And.intro q1 q2)
 subst hc0
 have F10 := hide (mulTw U a3 a4 c3 c4 (Z3) (Z4) (unhide Hc3) (unhide IZ).2.2.1 (unhide IZ).2.2.2 (w14.alloc (.cells #[.int .i64 2, .int .i64 2, .slice a9 4 c9] 38)) ⟨(unhide Sw14).row (ao := a3) (len := 4) (Z := Z3) (by simp), (unhide Sw14).off (ao := a3) (len := 4) (Z := Z3) (by simp) (c := ([U], UO U (fun c => c = false) _)) (List.mem_singleton.2 rfl) (U := U) (by simp)⟩ ⟨(unhide Sw14).row (ao := a4) (len := 4) (Z := Z4) (by simp), (unhide Sw14).off (ao := a4) (len := 4) (Z := Z4) (by simp) (c := ([U], UO U (fun c => c = false) _)) (List.mem_singleton.2 rfl) (U := U) (by simp)⟩ n0 ⟨q1, by omega⟩ hu (unhide HS).2.2.2.2.2)
 clear hu q1 q2
 go_wp2_with fail
 generalize (w14.alloc (.cells #[.int .i64 2, .int .i64 2, .slice a9 4 c9] 38)) = w14b at *
 generalize w14.heap.size = B9x at *
 refine (unhide F10).mono ?_
 intro e w15 hv
 obtain ⟨a10, c10, rfl, hc10, Sw15⟩ := (unhide Sw14).value [] (unhide HQ) (show false = false from rfl) hv
 have Sw15 := hide (Sw15.box #[.int .i64 2, .int .i64 2, .slice a10 4 c10] 38)
 have Hc10 : Hid (4 ≤ c10) := hc10
 clear hv hc10 Sw14 F10 HQ x30 x31 x32 x40 x41 x42
 obtain ⟨x90, x91, x92⟩ := (unhide Sw15).cells (b := B9x) (x := .int .i64 2) (y := .int .i64 2) (z := .slice a9 4 c9) (T := 38) (by simp)
 obtain ⟨x20, x21, x22⟩ := (unhide Sw15).cells (b := B2x) (x := .int .i64 2) (y := .int .i64 2) (z := .slice a2 4 c2) (T := 38) (by simp)
 have FA := hide (kitSameM 2 2 a9 a2 4 c9 c2 Z2 (by omega) (w15.alloc (.cells #[.int .i64 2, .int .i64 2, .slice a10 4 c10] 38)) (rowCongr ((unhide Sw15).row (ao := a9) (len := 4) (Z := fun p => s2N (mulZ (mulZ Z3 Z0 2 2) (turnZ Z3 2 2) 2 2 p) (Z1 p)) (by simp)) (unhide HS).1) ((unhide Sw15).row (ao := a2) (len := 4) (Z := Z2) (by simp)))
 go_wp2_with fail
 generalize (w15.alloc (.cells #[.int .i64 2, .int .i64 2, .slice a10 4 c10] 38)) = w15b at *
 generalize w15.heap.size = B10x at *
 refine (unhide FA).mono ?_
 rintro e wy ⟨rfl, ky⟩
 have SY := hide ((unhide Sw15).kp ky)
 clear ky Sw15 FA x90 x91 x92 x20 x21 x22
 obtain ⟨x100, x101, x102⟩ := (unhide SY).cells (b := B10x) (x := .int .i64 2) (y := .int .i64 2) (z := .slice a10 4 c10) (T := 38) (by simp)
 obtain ⟨x50, x51, x52⟩ := (unhide SY).cells (b := B5x) (x := .int .i64 2) (y := .int .i64 2) (z := .slice a5 4 c5) (T := 38) (by simp)
 have FB := hide (kitSameM 2 2 a10 a5 4 c10 c5 Z5 (by omega) wy (rowCongr ((unhide SY).row (ao := a10) (len := 4) (Z := mulZ Z3 Z4 2 2) (by simp)) (unhide HS).2.2.2.2.1) ((unhide SY).row (ao := a5) (len := 4) (Z := Z5) (by simp)))
 go_wp2_with fail
 refine (unhide FB).mono ?_
 rintro e wz ⟨rfl, kz⟩
 have SZ := hide ((unhide SY).kp kz)
 clear kz SY FB x100 x101 x102 x50 x51 x52
 obtain ⟨c0, n0, hc0, q1, q2, hu⟩ := (unhide SZ).unit []
 have HQ := hide (And.intro q1 q2)
 subst hc0
 have FC := hide (unitCut U false n0 wz hu)
 have KZ := hide (unhide SZ).keep
 clear hu q1 q2 SZ HQ
 go_wp2_with fail
 refine (unhide FC).mono ?_
 rintro e wq ⟨rfl, rfl⟩
 clear FC
 go_wp2
 go_ret
 exact ⟨rfl, unhide KZ⟩
end Go.Proofs.YtjobgjcfkomhpaaGreat
