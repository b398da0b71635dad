/- MoSh, as far as MoFour wants it. -/
import Derived.Test.YtjobgjcfkomhpaaGreatMoT0W
import Derived.Test.YtjobgjcfkomhpaaGreatMoFourT4
import Derived.BigQuiet
set_option linter.unusedVariables false
set_option linter.unusedSimpArgs false
namespace Go.Proofs.YtjobgjcfkomhpaaGreat
open Go.RowKit Go.Shelf Go.Proofs.Wd
set_option maxRecDepth 10000
attribute [local go_sem ↓] Go.wp_at_zero Go.wp_at_succ
theorem turnS (n n' nn : Nat) (hnn : n * n = nn) (hn : 1 ≤ n ∧ n ≤ 12) (a1 : Option Addr) (p1 : Nat) (A : Nat → Int) (w : World) (ra : Row w a1 nn A) :
  Calls Tryz.prog 29 #[.agg #[.int .i64 n, .int .i64 n, .slice a1 nn p1]] w fun e w' => MatP n n nn (turnZ A n n) 0 (Kp w) w e w' := by
 have k := (mul12n n n hn hn).1
 rw [hnn] at k
 obtain ⟨b, o, rfl, za⟩ := ra.some k
 have := matTurn_ok n n b o p1 A hn hn w (by rw [hnn]; exact za)
 rwa [hnn] at this
section
variable (U n nn : Nat) (c0 : Bool) (n0 : Int) (hn0 : 0 ≤ n0 ∧ n0 < 1000000000000) (m : DV) (eN : m.N = n) (hnn : n * n = nn) (hok : okD m) (ticks : Int) (ht : 0 ≤ ticks ∧ ticks ≤ 1099511627776) (w : World) (hm : (∀ W, Mk U w W → m.good W) ∧ Off U m.A.len m.A.ao ∧ Off U m.Q.len m.Q.ao) (h : UC U c0 n0 w)
include hn0 eN hnn hok ht hm h
theorem shFlow : Calls Tryz.prog 15 #[.pointer (some ⟨U, 0, none⟩), .agg #[.int .i64 m.N, .slice m.A.ao m.A.len m.A.cap, .slice m.Q.ao m.Q.len m.Q.cap, .int .i64 m.tick, .int .i64 m.gate, .int .i64 m.rmin, .slice m.ro m.rl m.rc], .int .i64 ticks] w fun e w' => ValP m.N m.N nn (flowZ m.A.Z n (spanZ ticks m.tick)) 0 (fun w' => UW U (c0 || spanC ticks m.tick || flowC m.A.Z n (spanZ ticks m.tick)) n0 300000 w' ∧ Mk U w w') w e w' := by
 have := moFlow_ok U c0 n0 ⟨hn0.1, by omega⟩ m n eN ticks (by unfold I64; omega) w hm.1 hm.2.1 (rfL_time hok ⟨by omega, by omega⟩) h
 rw [hnn, ← eN] at this
 exact this
theorem shNoise : Calls Tryz.prog 17 #[.pointer (some ⟨U, 0, none⟩), .agg #[.int .i64 m.N, .slice m.A.ao m.A.len m.A.cap, .slice m.Q.ao m.Q.len m.Q.cap, .int .i64 m.tick, .int .i64 m.gate, .int .i64 m.rmin, .slice m.ro m.rl m.rc], .int .i64 ticks] w fun e w' => ValP m.N m.N nn (noiseZ m.A.Z m.Q.Z n (spanZ ticks m.tick)) 0 (fun w' => UW U (c0 || spanC ticks m.tick || noiseC m.A.Z m.Q.Z n (spanZ ticks m.tick)) n0 300000 w' ∧ Mk U w w') w e w' := by
 have := moNoise_ok U c0 n0 ⟨hn0.1, by omega⟩ m n eN ticks (by unfold I64; omega) w hm.1 hm.2.1 hm.2.2 (rfL_time hok ⟨by omega, by omega⟩) h
 rw [hnn, ← eN] at this
 exact this
end
set_option maxRecDepth 50000 in
set_option maxHeartbeats 16000000 in
theorem lawMotionShape (m : DV) (ticks : Int) (hI : I64 ticks) (w : World) (hm : m.okIn w) :
  Calls Tryz.prog 6 #[.agg m.cells, .int .i64 ticks] w fun e w' => e = .returned (.bool true) ∧ Kp w w' := by
 have HM := hide hm
 have HI := hide hI
 have S0 := hide (((ST.nil w).dvOld (okIn_rows hm)).box m.cells 25)
 clear hm hI
 have S0 : Hid (ST w [] [fBlk w.heap.size m.cells 25, fDV m] (w.alloc (.cells #[.int .i64 m.N, .slice m.A.ao m.A.len m.A.cap, .slice m.Q.ao m.Q.len m.Q.cap, .int .i64 m.tick, .int .i64 m.gate, .int .i64 m.rmin, .slice m.ro m.rl m.rc] 25))) := unhide S0
 unfold DV.cells
 go_enter Tryz.func6, Tryz.ntmps6
 go_wp2_with fail
 generalize (w.alloc (.cells #[.int .i64 m.N, .slice m.A.ao m.A.len m.A.cap, .slice m.Q.ao m.Q.len m.Q.cap, .int .i64 m.tick, .int .i64 m.gate, .int .i64 m.rmin, .slice m.ro m.rl m.rc] 25)) = w0 at *
 generalize w.heap.size = Ax at *
 refine (lawMotionKnown w0).mono ?_
 rintro e w1 ⟨rfl, k1⟩
 have S1 := hide ((unhide S0).kp k1)
 clear k1 S0
 obtain ⟨y0, y1, y2, y3, y4, y5, y6⟩ : _ ∧ _ ∧ _ ∧ _ ∧ _ ∧ _ ∧ _ := ((unhide S1).get (f := fBlk Ax m.cells 25) (by simp)).cellsM
 go_wp2_with fail
 refine (kitLongM m w1 ((unhide HM).rvs.kp (unhide S1).keep)).mono ?_
 rintro e w2 ⟨r, rfl, g2, hs⟩
 have S2 := hide ((unhide S1).kp (Kp.of g2))
 have HS := hide hs
 clear g2 S1 y0 y1 y2 y3 y4 y5 y6 hs
 cases r with
 | true =>
  go_wp2
  go_ret
  exact ⟨rfl, (unhide S2).keep⟩
 | false =>
 have GM : Hid (m.good w) := okIn_good (unhide HM) (by first | exact unhide HS rfl | exact unhide HS trivial)
 clear HM HS
 obtain ⟨y0, y1, y2, y3, y4, y5, y6⟩ : _ ∧ _ ∧ _ ∧ _ ∧ _ ∧ _ ∧ _ := ((unhide S2).get (f := fBlk Ax m.cells 25) (by simp)).cellsM
 go_wp2_with fail
 refine (pCheck m w2 (DV.good_of (unhide GM) ((unhide S2).dv (by simp)))).mono ?_
 rintro e w3 ⟨rfl, k3⟩
 have S3 := hide ((unhide S2).kp k3)
 clear k3 S2 y0 y1 y2 y3 y4 y5 y6
 by_cases hok : okD m
 case neg =>
  rw [show chkD m = 2 from if_neg hok]
  clear hok
  go_wp2
  go_ret
  exact ⟨rfl, (unhide S3).keep⟩
 rw [show chkD m = 0 from if_pos hok]
 have HO := hide hok
 obtain ⟨n, eN, hn, hal, hql, hnn2, hup⟩ := okD_nat hok
 obtain ⟨nn, hnn⟩ : ∃ nn, n * n = nn := ⟨_, rfl⟩
 rw [hnn] at hnn2
 have HN : Hid (m.N = n ∧ n * n = nn ∧ (1 ≤ n ∧ n ≤ 6) ∧ (1 ≤ nn ∧ nn ≤ 36)) := ⟨eN, hnn, hn, hnn2⟩
 have wNN : wrap64 (m.N * m.N) = (nn : Int) := by rw [eN]; exact wrapP n n nn hnn (by omega)
 have F0 : Hid (∀ p, p < nn → flowZ m.A.Z n (spanZ 0 m.tick) p = diagZ oneZ n p) := fun p hp => by
  rw [spanZ_zero]
  exact flow_none m.A.Z n p hn.1
 have N0 : Hid (∀ p, p < nn → noiseZ m.A.Z m.Q.Z n (spanZ 0 m.tick) p = 0) := fun p _ => by
  rw [spanZ_zero]
  exact noise_none _ _ _ _
 have LW : Hid (∀ t i k, i < n → k < n → k ≤ i → flowZ m.A.Z n t (i * n + k) = diagZ oneZ n (i * n + k)) := fun t i k hi hk hik => flow_low m.A.Z n t ⟨hn.1, by omega⟩ (fun i k hi hk h => (hok.2.1.2.2 i (by rw [eN]; exact hi)).2 k (by rw [eN]; exact hk) |>.2 h |> fun e => by rwa [eN, Int.toNat_natCast] at e) i k hi hk hik
 have EV : Hid (∀ t p, p < nn → turnZ (noiseZ m.A.Z m.Q.Z n t) n n p = noiseZ m.A.Z m.Q.Z n t p) := fun t p hp => even_turn (noise_even _ _ _ _) p (by rw [hnn]; exact hp)
 have EY : Hid (∀ W, Calls Tryz.prog 28 #[.int .i64 m.N] W fun e w' => MatP m.N m.N nn (diagZ oneZ n) 0 (Kp W) W e w') := fun W => by
  have := matEye_ok n ⟨hn.1, by omega⟩ W
  rwa [hnn, ← eN] at this
 clear hok eN hn hal hql hnn2 hup hnn
 go_wp2_with fail
 refine (unitNew w3).mono ?_
 rintro e w4 ⟨rfl, u1, g1⟩
 have S4 : Hid (ST w [([w3.heap.size], UO w3.heap.size (fun _ => True) 0)] [fBlk Ax m.cells 25, fDV m] w4) := (unhide S3).push (Kp.of g1) ⟨false, 0, trivial, by omega, by omega, u1⟩ (uo_dep _ _ _) (by simp) (fun q hq => by simp at hq; subst hq; exact ⟨Nat.le_refl _, Blk.lt u1⟩)
 generalize w3.heap.size = U at *
 clear u1 g1 S3
 go_wp2_with fail
 refine (kitPick ticks 1099511627777 (unhide HI) (by omega) w4).mono ?_
 rintro e w5 ⟨rfl, k5⟩
 have S5 := hide ((unhide S4).kp k5)
 clear k5 S4
 have TB : Hid (0 ≤ ticks % 1099511627777 ∧ ticks % 1099511627777 ≤ 1099511627776) := by unfold Hid; omega
 generalize ticks % 1099511627777 = tk at *
 clear HI
 obtain ⟨y0, y1, y2, y3, y4, y5, y6⟩ : _ ∧ _ ∧ _ ∧ _ ∧ _ ∧ _ ∧ _ := ((unhide S5).get (f := fBlk Ax m.cells 25) (by simp)).cellsM
 go_wp2_with fail
 refine (unhide EY w5).mono ?_
 intro e w6 hv
 obtain ⟨Be, ce, rfl, _, S6⟩ := (unhide S5).matK (by have := unhide HN; omega) hv
 have S6 := hide (S6.box #[.int .i64 m.N, .int .i64 m.N, .slice (some ⟨Be, 0, none⟩) nn ce] 38)
 clear hv S5 y0 y1 y2 y3 y4 y5 y6 EY
 obtain ⟨y0, y1, y2, y3, y4, y5, y6⟩ : _ ∧ _ ∧ _ ∧ _ ∧ _ ∧ _ ∧ _ := ((unhide S6).get (f := fBlk Ax m.cells 25) (by simp)).cellsM
 obtain ⟨c0, n0, _, q1, q2, hu⟩ := (unhide S6).unit []
 have HQ := hide (And.intro q1 q2)
 have F7 := hide (shFlow U n nn c0 n0 ⟨q1, by omega⟩ m (unhide HN).1 (unhide HN).2.1 (unhide HO) 0 (by omega) (w6.alloc (.cells #[.int .i64 m.N, .int .i64 m.N, .slice (some ⟨Be, 0, none⟩) nn ce] 38)) ((unhide S6).dvMk (m := m) (by simp) (unhide GM) (o := ([U], UO U (fun _ => True) _)) (List.mem_singleton.2 rfl) (U := U) (by simp)) hu)
 clear hu q1 q2
 go_wp2_with fail
 generalize (w6.alloc (.cells #[.int .i64 m.N, .int .i64 m.N, .slice (some ⟨Be, 0, none⟩) nn ce] 38)) = w6b at *
 generalize w6.heap.size = Ex at *
 refine (unhide F7).mono ?_
 intro e w7 hv
 obtain ⟨ast, cs, rfl, _, S7⟩ := (unhide S6).value [] (unhide HQ) trivial hv
 have S7 := hide (S7.box #[.int .i64 m.N, .int .i64 m.N, .slice ast nn cs] 38)
 clear hv S6 F7 HQ y0 y1 y2 y3 y4 y5 y6
 obtain ⟨y0, y1, y2, y3, y4, y5, y6⟩ : _ ∧ _ ∧ _ ∧ _ ∧ _ ∧ _ ∧ _ := ((unhide S7).get (f := fBlk Ax m.cells 25) (by simp)).cellsM
 obtain ⟨c0, n0, _, q1, q2, hu⟩ := (unhide S7).unit []
 have HQ := hide (And.intro q1 q2)
 have F8 := hide (shNoise U n nn c0 n0 ⟨q1, by omega⟩ m (unhide HN).1 (unhide HN).2.1 (unhide HO) 0 (by omega) (w7.alloc (.cells #[.int .i64 m.N, .int .i64 m.N, .slice ast nn cs] 38)) ((unhide S7).dvMk (m := m) (by simp) (unhide GM) (o := ([U], UO U (fun _ => True) _)) (List.mem_singleton.2 rfl) (U := U) (by simp)) hu)
 clear hu q1 q2
 go_wp2_with fail
 generalize (w7.alloc (.cells #[.int .i64 m.N, .int .i64 m.N, .slice ast nn cs] 38)) = w7b at *
 generalize w7.heap.size = Sx at *
 refine (unhide F8).mono ?_
 intro e w8 hv
 obtain ⟨az, cz, rfl, _, S8⟩ := (unhide S7).value [] (unhide HQ) trivial hv
 have S8 := hide (S8.box #[.int .i64 m.N, .int .i64 m.N, .slice az nn cz] 38)
 clear hv S7 F8 HQ y0 y1 y2 y3 y4 y5 y6
 obtain ⟨s0, s1, s2⟩ := (unhide S8).cells (b := Sx) (x := .int .i64 m.N) (y := .int .i64 m.N) (z := .slice ast nn cs) (T := 38) (by simp)
 obtain ⟨e0, e1, e2⟩ := (unhide S8).cells (b := Ex) (x := .int .i64 m.N) (y := .int .i64 m.N) (z := .slice (some ⟨Be, 0, none⟩) nn ce) (T := 38) (by simp)
 have F9 := hide (kitSameM m.N m.N ast (some ⟨Be, 0, none⟩) nn cs ce (diagZ oneZ n) (by have := unhide HN; omega) (w8.alloc (.cells #[.int .i64 m.N, .int .i64 m.N, .slice az nn cz] 38)) (rowCongr ((unhide S8).row (ao := ast) (len := nn) (Z := flowZ m.A.Z n (spanZ 0 m.tick)) (by simp)) (unhide F0)) ((unhide S8).own (B := Be) (len := nn) (Z := diagZ oneZ n) (by simp)).row)
 go_wp2_with fail
 generalize (w8.alloc (.cells #[.int .i64 m.N, .int .i64 m.N, .slice az nn cz] 38)) = w8b at *
 generalize w8.heap.size = Zx at *
 refine (unhide F9).mono ?_
 rintro e w9 ⟨rfl, k9⟩
 have S9 := hide ((unhide S8).kp k9)
 clear k9 S8 F9 s0 s1 s2 e0 e1 e2
 obtain ⟨y0, y1, y2, y3, y4, y5, y6⟩ : _ ∧ _ ∧ _ ∧ _ ∧ _ ∧ _ ∧ _ := ((unhide S9).get (f := fBlk Ax m.cells 25) (by simp)).cellsM
 obtain ⟨z0, z1, z2⟩ := (unhide S9).cells (b := Zx) (x := .int .i64 m.N) (y := .int .i64 m.N) (z := .slice az nn cz) (T := 38) (by simp)
 go_wp2_with fail
 go_loopw [13] (fun i wr => ∃ j : Nat, j ≤ nn ∧ i = .int .i64 j ∧ Hid (wr = w9)) (fun i _ => nn - (intOf i).toNat)
 case atStart => exact ⟨0, Nat.zero_le _, rfl, rfl⟩
 case round =>
  obtain ⟨j, hj, rfl, hw⟩ := hrel
  have hw := unhide hw
  subst hw
  by_cases hlt : j < nn
  ·obtain ⟨b, o, rfl, hc⟩ := ((unhide S9).row (ao := az) (len := nn) (Z := noiseZ m.A.Z m.Q.Z n (spanZ 0 m.tick)) (by simp)).at hlt
   rw [unhide N0 j hlt] at hc
   have i0 : (0 : Int) ≤ (j : Int) := by omega
   have i1 : (j : Int) < (nn : Int) := by omega
   have j36 : j ≤ 36 := by have := unhide HN; omega
   go_wp2
   go_roundw
   case rel => exact ⟨j + 1, by omega, by go_num, trivial⟩
   case measure => simp [intOf]; omega
  ·obtain rfl : nn = j := by omega
   clear z0 z1
   obtain ⟨y0, y1, y2, y3, y4, y5, y6⟩ : _ ∧ _ ∧ _ ∧ _ ∧ _ ∧ _ ∧ _ := ((unhide S9).get (f := fBlk Ax m.cells 25) (by simp)).cellsM
   obtain ⟨c0, n0, _, q1, q2, hu⟩ := (unhide S9).unit []
   have HQ := hide (And.intro q1 q2)
   have F10 := hide (shFlow U n nn c0 n0 ⟨q1, by omega⟩ m (unhide HN).1 (unhide HN).2.1 (unhide HO) tk (unhide TB) wr ((unhide S9).dvMk (m := m) (by simp) (unhide GM) (o := ([U], UO U (fun _ => True) _)) (List.mem_singleton.2 rfl) (U := U) (by simp)) hu)
   clear hu q1 q2
   go_wp2_with fail
   clear z2
   refine (unhide F10).mono ?_
   intro e w10 hv
   obtain ⟨af, cf, rfl, _, S10⟩ := (unhide S9).value [] (unhide HQ) trivial hv
   have S10 := hide (S10.box #[.int .i64 m.N, .int .i64 m.N, .slice af nn cf] 38)
   clear hv S9 F10 HQ y0 y1 y2 y3 y4 y5 y6
   obtain ⟨y0, y1, y2, y3, y4, y5, y6⟩ : _ ∧ _ ∧ _ ∧ _ ∧ _ ∧ _ ∧ _ := ((unhide S10).get (f := fBlk Ax m.cells 25) (by simp)).cellsM
   obtain ⟨c0, n0, _, q1, q2, hu⟩ := (unhide S10).unit []
   have HQ := hide (And.intro q1 q2)
   have F11 := hide (shNoise U n nn c0 n0 ⟨q1, by omega⟩ m (unhide HN).1 (unhide HN).2.1 (unhide HO) tk (unhide TB) (w10.alloc (.cells #[.int .i64 m.N, .int .i64 m.N, .slice af nn cf] 38)) ((unhide S10).dvMk (m := m) (by simp) (unhide GM) (o := ([U], UO U (fun _ => True) _)) (List.mem_singleton.2 rfl) (U := U) (by simp)) hu)
   clear hu q1 q2
   go_wp2_with fail
   generalize (w10.alloc (.cells #[.int .i64 m.N, .int .i64 m.N, .slice af nn cf] 38)) = w10b at *
   generalize w10.heap.size = Fx at *
   refine (unhide F11).mono ?_
   intro e w11 hv
   obtain ⟨az2, cn, rfl, _, S11⟩ := (unhide S10).value [] (unhide HQ) trivial hv
   have S11 := hide (S11.box #[.int .i64 m.N, .int .i64 m.N, .slice az2 nn cn] 38)
   clear hv S10 F11 HQ y0 y1 y2 y3 y4 y5 y6
   have F12 := hide (show Calls Tryz.prog 29 #[.agg #[.int .i64 m.N, .int .i64 m.N, .slice az2 nn cn]] (w11.alloc (.cells #[.int .i64 m.N, .int .i64 m.N, .slice az2 nn cn] 38)) fun e w' => MatP m.N m.N nn (turnZ (noiseZ m.A.Z m.Q.Z n (spanZ tk m.tick)) n n) 0 (Kp (w11.alloc (.cells #[.int .i64 m.N, .int .i64 m.N, .slice az2 nn cn] 38))) (w11.alloc (.cells #[.int .i64 m.N, .int .i64 m.N, .slice az2 nn cn] 38)) e w' from by
    have := turnS n n nn (unhide HN).2.1 ⟨(unhide HN).2.2.1.1, by have := unhide HN; omega⟩ az2 cn (noiseZ m.A.Z m.Q.Z n (spanZ tk m.tick)) (w11.alloc (.cells #[.int .i64 m.N, .int .i64 m.N, .slice az2 nn cn] 38)) ((unhide S11).row (ao := az2) (len := nn) (Z := noiseZ m.A.Z m.Q.Z n (spanZ tk m.tick)) (by simp))
    rwa [← (unhide HN).1] at this)
   obtain ⟨z0, z1, z2⟩ := (unhide S11).cells (b := w11.heap.size) (x := .int .i64 m.N) (y := .int .i64 m.N) (z := .slice az2 nn cn) (T := 38) (by simp)
   go_wp2_with fail
   generalize (w11.alloc (.cells #[.int .i64 m.N, .int .i64 m.N, .slice az2 nn cn] 38)) = w11b at *
   generalize w11.heap.size = Nx at *
   refine (unhide F12).mono ?_
   intro e w12 hv
   obtain ⟨Bt, ct, rfl, _, S12⟩ := (unhide S11).matK (by have := unhide HN; omega) hv
   have S12 := hide (S12.box #[.int .i64 m.N, .int .i64 m.N, .slice (some ⟨Bt, 0, none⟩) nn ct] 38)
   clear hv S11 F12 z0 z1 z2
   obtain ⟨t0, t1, t2⟩ := (unhide S12).cells (b := w12.heap.size) (x := .int .i64 m.N) (y := .int .i64 m.N) (z := .slice (some ⟨Bt, 0, none⟩) nn ct) (T := 38) (by simp)
   obtain ⟨z0, z1, z2⟩ := (unhide S12).cells (b := Nx) (x := .int .i64 m.N) (y := .int .i64 m.N) (z := .slice az2 nn cn) (T := 38) (by simp)
   have F13 := hide (kitSameM m.N m.N (some ⟨Bt, 0, none⟩) az2 nn ct cn (noiseZ m.A.Z m.Q.Z n (spanZ tk m.tick)) (by have := unhide HN; omega) (w12.alloc (.cells #[.int .i64 m.N, .int .i64 m.N, .slice (some ⟨Bt, 0, none⟩) nn ct] 38)) (rowCongr ((unhide S12).own (B := Bt) (len := nn) (Z := turnZ (noiseZ m.A.Z m.Q.Z n (spanZ tk m.tick)) n n) (by simp)).row (unhide EV _)) ((unhide S12).row (ao := az2) (len := nn) (Z := noiseZ m.A.Z m.Q.Z n (spanZ tk m.tick)) (by simp)))
   go_wp2_with fail
   generalize (w12.alloc (.cells #[.int .i64 m.N, .int .i64 m.N, .slice (some ⟨Bt, 0, none⟩) nn ct] 38)) = w12b at *
   generalize w12.heap.size = Tx at *
   refine (unhide F13).mono ?_
   rintro e w13 ⟨rfl, k13⟩
   have S13 := hide ((unhide S12).kp k13)
   clear k13 S12 F13 z0 z1 z2 t0 t1 t2
   obtain ⟨FZ, hFZ⟩ : ∃ Z, flowZ m.A.Z n (spanZ tk m.tick) = Z := ⟨_, rfl⟩
   have LZ : Hid (∀ i k, i < n → k < n → k ≤ i → FZ (i * n + k) = diagZ oneZ n (i * n + k)) := by rw [← hFZ]; exact unhide LW _
   rw [hFZ] at S13
   clear hFZ LW EV N0 F0 TB HO
   have CW : Hid (∀ wx, Kp w13 wx → (wx.cell? ⟨Fx, 2, none⟩ = some (.slice af nn cf) ∧ wx.cell? ⟨Ex, 2, none⟩ = some (.slice (some ⟨Be, 0, none⟩) nn ce) ∧ wx.cell? ⟨Ax, 0, none⟩ = some (.int .i64 m.N)) ∧ Row wx af nn FZ ∧ Own Be nn (diagZ oneZ n) wx ∧ Kp w wx) := fun wx k => by
    have S := (unhide S13).kp k
    refine ⟨⟨(S.cells (b := Fx) (x := .int .i64 m.N) (y := .int .i64 m.N) (z := .slice af nn cf) (T := 38) (by simp)).2.2, (S.cells (b := Ex) (x := .int .i64 m.N) (y := .int .i64 m.N) (z := .slice (some ⟨Be, 0, none⟩) nn ce) (T := 38) (by simp)).2.2, (S.get (f := fBlk Ax m.cells 25) (by simp)).cellsM.1⟩, S.row (by simp), S.own (by simp), S.keep⟩
   clear S13
   obtain ⟨⟨x0, x1, x2⟩, _, _, _⟩ := unhide CW w13 (Kp.refl _)
   have NN : Hid (m.N = (n : Int)) := (unhide HN).1
   go_wp2_with fail
   clear x0 x1 x2
   go_loopw [20] (fun i wr => ∃ k : Nat, k ≤ n ∧ i = .int .i64 k ∧ Hid (Kp w13 wr)) (fun i _ => n - (intOf i).toNat)
   case atStart => exact ⟨0, Nat.zero_le _, rfl, Kp.refl _⟩
   case round =>
    obtain ⟨k, hk, rfl, KR⟩ := hrel
    obtain ⟨⟨x0, x1, x2⟩, _, _, _⟩ := unhide CW _ (unhide KR)
    by_cases hkn : k < n
    ·have lk : (k : Int) < m.N := by rw [unhide NN]; omega
     have k6 : k ≤ 6 := by have := unhide HN; omega
     go_wp2_with fail
     clear x0 x1 x2
     go_loopw [21] (fun i wr => ∃ j : Nat, j ≤ k + 1 ∧ i = .int .i64 j ∧ Hid (Kp w13 wr)) (fun i _ => k + 1 - (intOf i).toNat)
     case atStart => exact ⟨0, Nat.zero_le _, rfl, unhide KR⟩
     case round =>
      obtain ⟨j, hj, rfl, KJ⟩ := hrel
      by_cases hjk : j ≤ k
      ·obtain ⟨⟨x0, x1, x2⟩, rf, ro, _⟩ := unhide CW _ (unhide KJ)
       have hp := place_in k j n n hkn (by omega)
       rw [(unhide HN).2.1] at hp
       obtain ⟨q, hq⟩ : ∃ q, k * n = q := ⟨_, rfl⟩
       obtain ⟨p, hp2⟩ : ∃ p, q + j = p := ⟨_, rfl⟩
       have hz := unhide LZ k j hkn (by omega) hjk
       rw [hq, hp2] at hz hp
       obtain ⟨b, o, rfl, fc⟩ := rf.at hp
       have ec := ro.cellAt p hp
       rw [hz] at fc
       generalize diagZ oneZ n p = v at *
       have p36 : p ≤ 36 := by have := unhide HN; omega
       have wa : IntKind.i64.wrap ((k : Int) * m.N) = (q : Int) := by rw [unhide NN]; exact wrapPi k n q hq (by omega)
       have wb : IntKind.i64.wrap ((q : Int) + (j : Int)) = (p : Int) := wrapAi q j p hp2 (by omega)
       have i0 : (0 : Int) ≤ (p : Int) := by omega
       have i1 : (p : Int) < (nn : Int) := by omega
       have KD : Hid (∀ m, Kp w13 (wr.drewN m)) := fun m => unhide KJ
       have j6 : j ≤ 6 := by omega
       have B1 : Hid (j + 1 ≤ k + 1 ∧ j ≤ k) := ⟨by omega, hjk⟩
       clear hz hp rf ro hq hp2 hj KJ
       go_wp2_with fail
       go_quiet (fail)
       go_wp2
       go_roundw
       case rel => exact ⟨j + 1, (unhide B1).1, by go_num, unhide KD nq⟩
       case measure => have := (unhide B1).2; simp [intOf]; omega
      ·obtain rfl : j = k + 1 := by omega
       have B1 : Hid (k + 1 ≤ n) := hkn
       clear hjk
       go_wp2
       go_roundw
       case rel => exact ⟨k + 1, unhide B1, by go_num, KJ⟩
       case measure => have := unhide B1; simp [intOf]; omega
    ·obtain rfl : k = n := by omega
     have lk : ¬ ((k : Int) < m.N) := by rw [unhide NN]; omega
     have KE := hide (unhide CW _ (unhide KR)).2.2.2
     go_wp2
     go_ret
     exact ⟨rfl, unhide KE⟩
end Go.Proofs.YtjobgjcfkomhpaaGreat
