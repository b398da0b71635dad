/- MoT, as far as MotionTells wants it. -/
import Derived.Test.YtjobgjcfkomhpaaGreatMoT0V
import Derived.Test.YtjobgjcfkomhpaaGreatMotionTellsT6
set_option linter.unusedVariables false
set_option linter.unusedSimpArgs false
namespace Go.Proofs.YtjobgjcfkomhpaaGreat
open Go.RowKit Go.Shelf Go.Proofs.Wd
set_option maxRecDepth 10000
attribute [local go_sem ↓] Go.wp_at_zero Go.wp_at_succ
set_option maxRecDepth 50000 in
set_option maxHeartbeats 16000000 in
theorem lawMotionTells (m : DV) (ticks : Int) (hI : I64 ticks) (w : World) (hm : m.okIn w) :
  Calls Tryz.prog 3 #[.agg m.cells, .int .i64 ticks] w fun e w' => e = .returned (.bool true) ∧ Kp w w' := by
 have HM := hide hm
 have HI := hide hI
 have S0 := hide (((ST.nil w).dvOld (okIn_rows hm)).box m.cells 25)
 clear hm hI
 have S0 : Hid (ST w [] [fBlk w.heap.size m.cells 25, fDV m] (w.alloc (.cells #[.int .i64 m.N, .slice m.A.ao m.A.len m.A.cap, .slice m.Q.ao m.Q.len m.Q.cap, .int .i64 m.tick, .int .i64 m.gate, .int .i64 m.rmin, .slice m.ro m.rl m.rc] 25))) := unhide S0
 unfold DV.cells
 go_enter Tryz.func3, Tryz.ntmps3
 go_wp2_with fail
 generalize (w.alloc (.cells #[.int .i64 m.N, .slice m.A.ao m.A.len m.A.cap, .slice m.Q.ao m.Q.len m.Q.cap, .int .i64 m.tick, .int .i64 m.gate, .int .i64 m.rmin, .slice m.ro m.rl m.rc] 25)) = w0 at *
 generalize w.heap.size = Ax at *
 refine (unitNew w0).mono ?_
 rintro e w1 ⟨rfl, u1, g1⟩
 have S1 : Hid (ST w [([w0.heap.size], UE w0.heap.size false 0)] [fBlk Ax m.cells 25, fDV m] w1) := (unhide S0).push (Kp.of g1) ⟨0, by omega, by omega, u1⟩ (ue_dep _ _ _) (by simp) (fun q hq => by simp at hq; subst hq; exact ⟨Nat.le_refl _, Blk.lt u1⟩)
 clear u1 g1 S0
 go_wp2_with fail
 refine (refUNew w1).mono ?_
 rintro e w2 ⟨rfl, u2, g2⟩
 have S2 : Hid (ST w [([w1.heap.size], RE w1.heap.size false 0), ([w0.heap.size], UE w0.heap.size false 0)] [fBlk Ax m.cells 25, fDV m] w2) := (unhide S1).push (Kp.of g2) ⟨0, by omega, by omega, u2⟩ (re_dep _ _ _) (by simp) (fun q hq => by simp at hq; subst hq; exact ⟨Nat.le_refl _, Blk.lt u2⟩)
 clear u2 g2 S1
 generalize w0.heap.size = U at *
 generalize w1.heap.size = R at *
 obtain ⟨y0, y1, y2, y3, y4, y5, y6⟩ : _ ∧ _ ∧ _ ∧ _ ∧ _ ∧ _ ∧ _ := ((unhide S2).get (f := fBlk Ax m.cells 25) (by simp)).cellsM
 go_wp2_with fail
 refine (kitLongM m w2 ((unhide HM).rvs.kp (unhide S2).keep)).mono ?_
 rintro e w3 ⟨r, rfl, g3, hs⟩
 have S3 := hide ((unhide S2).kp (Kp.of g3))
 have HS := hide hs
 clear g3 S2 y0 y1 y2 y3 y4 y5 y6 hs
 have S3 : Hid (ST w [([R], RE R false 0), ([U], UE U false 0)] [fBlk Ax m.cells 25, fDV m] w3) := unhide S3
 cases r with
 | true =>
  go_wp2_with fail
  refine (lawAwake11 _).mono ?_
  rintro e w4 ⟨rfl, k4⟩
  have S4 := hide ((unhide S3).kp k4)
  clear k4 S3
  go_wp2
  go_ret
  exact ⟨rfl, (unhide S4).keep⟩
 | false =>
 have GM : Hid (m.good w) := okIn_good (unhide HM) (by first | exact unhide HS rfl | exact unhide HS trivial)
 clear HM HS
 obtain ⟨y0, y1, y2, y3, y4, y5, y6⟩ : _ ∧ _ ∧ _ ∧ _ ∧ _ ∧ _ ∧ _ := ((unhide S3).get (f := fBlk Ax m.cells 25) (by simp)).cellsM
 go_wp2_with fail
 refine (kitCopyD m w3 (DV.good_of (unhide GM) ((unhide S3).dv (by simp)))).mono ?_
 rintro e w4 ⟨n, rfl, gn, sn, on, k4⟩
 have GN := hide gn
 have SN := hide sn
 have S4 := hide (((unhide S3).dvNew k4 gn.rows on).box n.cells 25)
 have S4 : Hid (ST w [([R], RE R false 0), ([U], UE U false 0)] [fBlk w4.heap.size n.cells 25, fDV n, fBlk Ax m.cells 25, fDV m] (w4.alloc (.cells #[.int .i64 n.N, .slice n.A.ao n.A.len n.A.cap, .slice n.Q.ao n.Q.len n.Q.cap, .int .i64 n.tick, .int .i64 n.gate, .int .i64 n.rmin, .slice n.ro n.rl n.rc] 25))) := unhide S4
 clear k4 on gn sn S3 y0 y1 y2 y3 y4 y5 y6
 unfold DV.cells
 have T5 : Hid (Calls Tryz.prog 13 #[.pointer (some ⟨U, 0, none⟩), .agg #[.int .i64 n.N, .slice n.A.ao n.A.len n.A.cap, .slice n.Q.ao n.Q.len n.Q.cap, .int .i64 n.tick, .int .i64 n.gate, .int .i64 n.rmin, .slice n.ro n.rl n.rc], .int .i64 ticks] (w4.alloc (.cells #[.int .i64 n.N, .slice n.A.ao n.A.len n.A.cap, .slice n.Q.ao n.Q.len n.Q.cap, .int .i64 n.tick, .int .i64 n.gate, .int .i64 n.rmin, .slice n.ro n.rl n.rc] 25)) fun e w' => e = .returned (.tuple #[.int .i64 (sV m ticks), .int .i64 (rfD m ticks)]) ∧ ST w ([([R], RE R false 0)] ++ ([U], UE U (false || sC m ticks) 300000) :: []) [fBlk w4.heap.size n.cells 25, fDV n, fBlk Ax m.cells 25, fDV m] w') := by
  refine ST.callS (cut := false || sC m ticks) [([R], RE R false 0)] 300000 (post := []) (unhide S4) (by omega) (by omega) (fun n0 hn hu => ?_)
  have := moSpanAny U false n0 hn n ticks (unhide HI) _ ((unhide S4).dvMk (m := n) (by simp) (unhide GN) (o := ([U], UE U false 0)) (by simp) (U := U) (by simp)) hu
  rw [(sV_sim (unhide SN) ticks).1, (sV_sim (unhide SN) ticks).2, rfD_sim (unhide SN)] at this
  exact this
 obtain ⟨k1, hk1⟩ : ∃ k1, (false || sC m ticks) = k1 := ⟨_, rfl⟩
 obtain ⟨q2, hq2⟩ : ∃ q, moFlowO m ticks k1 = q := ⟨_, rfl⟩
 obtain ⟨q3, hq3⟩ : ∃ q, moNoiseO m ticks q2.cut = q := ⟨_, rfl⟩
 have HQ : Hid (moFlowO m ticks k1 = q2 ∧ moNoiseO m ticks q2.cut = q3 ∧ q2.len ≤ 40 ∧ q3.len ≤ 40 ∧ (false || sC m ticks) = k1) := ⟨hq2, hq3, by rw [← hq2]; exact moFlowO_len (unhide GM).2.2.2.2.2.2.1, by rw [← hq3]; exact moNoiseO_len (unhide GM).2.2.2.2.2.2.1, hk1⟩
 rw [hk1] at T5
 clear hq2 hq3 hk1
 go_wp2_with fail
 clear S4
 generalize (w4.alloc (.cells #[.int .i64 n.N, .slice n.A.ao n.A.len n.A.cap, .slice n.Q.ao n.Q.len n.Q.cap, .int .i64 n.tick, .int .i64 n.gate, .int .i64 n.rmin, .slice n.ro n.rl n.rc] 25)) = w5 at *
 obtain ⟨Ix, hIx⟩ : ∃ Ix, w4.heap.size = Ix := ⟨_, rfl⟩
 rw [hIx] at T5
 rw [hIx]
 clear hIx
 refine (unhide T5).mono ?_
 rintro e w6 ⟨rfl, s6⟩
 have S6 : Hid (ST w [([R], RE R false 0), ([U], UE U k1 300000)] [fBlk Ix n.cells 25, fDV n, fBlk Ax m.cells 25, fDV m] w6) := s6
 clear s6 T5
 obtain ⟨y0, y1, y2, y3, y4, y5, y6⟩ : _ ∧ _ ∧ _ ∧ _ ∧ _ ∧ _ ∧ _ := ((unhide S6).get (f := fBlk Ax m.cells 25) (by simp)).cellsM
 have T6 : Hid (Calls Tryz.prog 14 #[.pointer (some ⟨R, 0, none⟩), .agg #[.int .i64 m.N, .slice m.A.ao m.A.len m.A.cap, .slice m.Q.ao m.Q.len m.Q.cap, .int .i64 m.tick, .int .i64 m.gate, .int .i64 m.rmin, .slice m.ro m.rl m.rc], .int .i64 ticks] w6 fun e w' => e = .returned (.tuple #[.int .i64 (sV m ticks), .int .i64 (rfD m ticks)]) ∧ ST w ([] ++ ([R], RE R k1 300000) :: [([U], UE U k1 300000)]) [fBlk Ix n.cells 25, fDV n, fBlk Ax m.cells 25, fDV m] w') := by
  refine ST.callSR (cut := k1) [] 300000 (unhide S6) (by omega) (by omega) (fun n0 hn hu => ?_)
  have := refSpanAny R false n0 hn m ticks (unhide HI) _ ((unhide S6).dvMk (m := m) (by simp) (unhide GM) (o := ([R], RE R false 0)) (by simp) (U := R) (by simp)) hu
  rw [(unhide HQ).2.2.2.2] at this
  exact this
 go_wp2_with fail
 refine (unhide T6).mono ?_
 rintro e w7 ⟨rfl, s7⟩
 have S7 : Hid (ST w [([R], RE R k1 300000), ([U], UE U k1 300000)] [fBlk Ix n.cells 25, fDV n, fBlk Ax m.cells 25, fDV m] w7) := s7
 clear s7 T6 S6 y0 y1 y2 y3 y4 y5 y6
 obtain ⟨y0, y1, y2, y3, y4, y5, y6⟩ : _ ∧ _ ∧ _ ∧ _ ∧ _ ∧ _ ∧ _ := ((unhide S7).get (f := fBlk Ix n.cells 25) (by simp)).cellsM
 have T7 := hide (ST.callV3 (q := q2) [([R], RE R k1 300000)] 600000 (post := []) (unhide S7) (by omega) (by omega) (fun n0 hn hu => moFlowAny U k1 n0 hn n ticks (unhide HI) w7 ((unhide S7).dvMk (m := n) (by simp) (unhide GN) (o := ([U], UE U k1 300000)) (by simp) (U := U) (by simp)) hu q2 (by rw [moFlowO_sim (unhide SN)]; exact (unhide HQ).1)))
 go_wp2_with fail
 refine (unhide T7).mono ?_
 rintro e w8 ⟨ap, pp, Bp, rfl, _, s8⟩
 have S8 := hide (ST.box s8 #[.int .i64 q2.r, .int .i64 q2.c, .slice ap q2.len pp] 38)
 have S8 : Hid (ST w [(ovD Bp q2.len, OvP ap Bp q2.len q2.Z), ([R], RE R k1 300000), ([U], UE U q2.cut 600000)] [fBlk w8.heap.size #[.int .i64 q2.r, .int .i64 q2.c, .slice ap q2.len pp] 38, fBlk Ix n.cells 25, fDV n, fBlk Ax m.cells 25, fDV m] (w8.alloc (.cells #[.int .i64 q2.r, .int .i64 q2.c, .slice ap q2.len pp] 38))) := unhide S8
 clear s8 T7 S7 y0 y1 y2 y3 y4 y5 y6
 obtain ⟨y0, y1, y2, y3, y4, y5, y6⟩ : _ ∧ _ ∧ _ ∧ _ ∧ _ ∧ _ ∧ _ := ((unhide S8).get (f := fBlk Ax m.cells 25) (by simp)).cellsM
 have T8 := hide (ST.callD3 (q := q2) [(ovD Bp q2.len, OvP ap Bp q2.len q2.Z)] 600000 (unhide S8) (by omega) (by omega) (fun n0 hn hu => refFlowAnyM R k1 n0 hn m ticks (unhide HI) _ ((unhide S8).dvMk (m := m) (by simp) (unhide GM) (o := ([R], RE R k1 300000)) (by simp) (U := R) (by simp)) hu q2 (unhide HQ).1))
 go_wp2_with fail
 clear y0 y1 y2 y3 y4 y5 y6 S8
 generalize (w8.alloc (.cells #[.int .i64 q2.r, .int .i64 q2.c, .slice ap q2.len pp] 38)) = w9 at *
 generalize w8.heap.size = Px at *
 refine (unhide T8).mono ?_
 rintro e w10 ⟨aq, pq, rfl, _, s10⟩
 have S10 := hide (ST.box s10 #[.int .i64 q2.r, .int .i64 q2.c, .slice aq q2.len pq] 38)
 have S10 : Hid (ST w [(ovD Bp q2.len, OvP ap Bp q2.len q2.Z), ([R], RE R q2.cut 600000), ([U], UE U q2.cut 600000)] [fBlk w10.heap.size #[.int .i64 q2.r, .int .i64 q2.c, .slice aq q2.len pq] 38, fRow aq q2.len q2.Z, fBlk Px #[.int .i64 q2.r, .int .i64 q2.c, .slice ap q2.len pp] 38, fBlk Ix n.cells 25, fDV n, fBlk Ax m.cells 25, fDV m] (w10.alloc (.cells #[.int .i64 q2.r, .int .i64 q2.c, .slice aq q2.len pq] 38))) := unhide S10
 clear s10 T8
 obtain ⟨y0, y1, y2, y3, y4, y5, y6⟩ : _ ∧ _ ∧ _ ∧ _ ∧ _ ∧ _ ∧ _ := ((unhide S10).get (f := fBlk Ix n.cells 25) (by simp)).cellsM
 have T10 := hide (ST.callV3 (q := q3) [(ovD Bp q2.len, OvP ap Bp q2.len q2.Z), ([R], RE R q2.cut 600000)] 900000 (post := []) (unhide S10) (by omega) (by omega) (fun n0 hn hu => moNoiseAny U q2.cut n0 hn n ticks (unhide HI) _ ((unhide S10).dvMk (m := n) (by simp) (unhide GN) (o := ([U], UE U q2.cut 600000)) (by simp) (U := U) (by simp)) hu q3 (by rw [moNoiseO_sim (unhide SN)]; exact (unhide HQ).2.1)))
 go_wp2_with fail
 clear y0 y1 y2 y3 y4 y5 y6 S10
 generalize (w10.alloc (.cells #[.int .i64 q2.r, .int .i64 q2.c, .slice aq q2.len pq] 38)) = w11 at *
 generalize w10.heap.size = Qx at *
 refine (unhide T10).mono ?_
 rintro e w12 ⟨ac, pc, Bc, rfl, _, s12⟩
 have S12 := hide (ST.box s12 #[.int .i64 q3.r, .int .i64 q3.c, .slice ac q3.len pc] 38)
 have S12 : Hid (ST w [(ovD Bc q3.len, OvP ac Bc q3.len q3.Z), (ovD Bp q2.len, OvP ap Bp q2.len q2.Z), ([R], RE R q2.cut 600000), ([U], UE U q3.cut 900000)] [fBlk w12.heap.size #[.int .i64 q3.r, .int .i64 q3.c, .slice ac q3.len pc] 38, fBlk Qx #[.int .i64 q2.r, .int .i64 q2.c, .slice aq q2.len pq] 38, fRow aq q2.len q2.Z, fBlk Px #[.int .i64 q2.r, .int .i64 q2.c, .slice ap q2.len pp] 38, fBlk Ix n.cells 25, fDV n, fBlk Ax m.cells 25, fDV m] (w12.alloc (.cells #[.int .i64 q3.r, .int .i64 q3.c, .slice ac q3.len pc] 38))) := unhide S12
 clear s12 T10
 obtain ⟨y0, y1, y2, y3, y4, y5, y6⟩ : _ ∧ _ ∧ _ ∧ _ ∧ _ ∧ _ ∧ _ := ((unhide S12).get (f := fBlk Ax m.cells 25) (by simp)).cellsM
 have T12 := hide (ST.callD3 (q := q3) [(ovD Bc q3.len, OvP ac Bc q3.len q3.Z), (ovD Bp q2.len, OvP ap Bp q2.len q2.Z)] 900000 (unhide S12) (by omega) (by omega) (fun n0 hn hu => refNoiseAny R q2.cut n0 hn m ticks (unhide HI) _ ((unhide S12).dvMk (m := m) (by simp) (unhide GM) (o := ([R], RE R q2.cut 600000)) (by simp) (U := R) (by simp)) hu q3 (unhide HQ).2.1))
 go_wp2_with fail
 clear y0 y1 y2 y3 y4 y5 y6 S12
 generalize (w12.alloc (.cells #[.int .i64 q3.r, .int .i64 q3.c, .slice ac q3.len pc] 38)) = w13 at *
 generalize w12.heap.size = Cx at *
 refine (unhide T12).mono ?_
 rintro e w14 ⟨ad, pd, rfl, _, s14⟩
 have S14 := hide (ST.box s14 #[.int .i64 q3.r, .int .i64 q3.c, .slice ad q3.len pd] 38)
 have S14 : Hid (ST w [(ovD Bc q3.len, OvP ac Bc q3.len q3.Z), (ovD Bp q2.len, OvP ap Bp q2.len q2.Z), ([R], RE R q3.cut 900000), ([U], UE U q3.cut 900000)] [fBlk w14.heap.size #[.int .i64 q3.r, .int .i64 q3.c, .slice ad q3.len pd] 38, fRow ad q3.len q3.Z, fBlk Cx #[.int .i64 q3.r, .int .i64 q3.c, .slice ac q3.len pc] 38, fBlk Qx #[.int .i64 q2.r, .int .i64 q2.c, .slice aq q2.len pq] 38, fRow aq q2.len q2.Z, fBlk Px #[.int .i64 q2.r, .int .i64 q2.c, .slice ap q2.len pp] 38, fBlk Ix n.cells 25, fDV n, fBlk Ax m.cells 25, fDV m] (w14.alloc (.cells #[.int .i64 q3.r, .int .i64 q3.c, .slice ad q3.len pd] 38))) := unhide S14
 clear s14 T12
 generalize sV m ticks = sv at *
 generalize rfD m ticks = se at *

 obtain ⟨x0, x1, x2⟩ := (unhide S14).cells (b := Px) (x := .int .i64 q2.r) (y := .int .i64 q2.c) (z := .slice ap q2.len pp) (T := 38) (by simp)
 obtain ⟨z0, z1, z2⟩ := (unhide S14).cells (b := Qx) (x := .int .i64 q2.r) (y := .int .i64 q2.c) (z := .slice aq q2.len pq) (T := 38) (by simp)
 obtain ⟨v0, v1, v2⟩ := (unhide S14).cells (b := Cx) (x := .int .i64 q3.r) (y := .int .i64 q3.c) (z := .slice ac q3.len pc) (T := 38) (by simp)
 obtain ⟨t0, t1, t2⟩ := (unhide S14).cells (b := w14.heap.size) (x := .int .i64 q3.r) (y := .int .i64 q3.c) (z := .slice ad q3.len pd) (T := 38) (by simp)
 have T14 : Hid (Calls Tryz.prog 19 #[.agg #[.int .i64 q2.r, .int .i64 q2.c, .slice ap q2.len pp], .agg #[.int .i64 q2.r, .int .i64 q2.c, .slice aq q2.len pq]] (w14.alloc (.cells #[.int .i64 q3.r, .int .i64 q3.c, .slice ad q3.len pd] 38)) fun e w' => e = .returned (.bool true) ∧ Kp (w14.alloc (.cells #[.int .i64 q3.r, .int .i64 q3.c, .slice ad q3.len pd] 38)) w') := by
  have h1 : OvP ap Bp q2.len q2.Z _ := (unhide S14).ob (c := (ovD Bp q2.len, OvP ap Bp q2.len q2.Z)) (by simp)
  exact kitSameM _ _ _ _ _ _ _ _ (by have := (unhide HQ).2.2.1; omega) _ h1.row ((unhide S14).row (ao := aq) (len := q2.len) (Z := q2.Z) (by simp))
 go_wp2_with fail
 generalize (w14.alloc (.cells #[.int .i64 q3.r, .int .i64 q3.c, .slice ad q3.len pd] 38)) = w15 at *
 generalize w14.heap.size = Dx at *
 refine (unhide T14).mono ?_
 rintro e w16 ⟨rfl, k16⟩
 have S16 := hide ((unhide S14).kp k16)
 clear k16 T14 S14 x0 x1 x2 z0 z1 z2 v0 v1 v2 t0 t1 t2
 obtain ⟨x0, x1, x2⟩ := (unhide S16).cells (b := Px) (x := .int .i64 q2.r) (y := .int .i64 q2.c) (z := .slice ap q2.len pp) (T := 38) (by simp)
 obtain ⟨z0, z1, z2⟩ := (unhide S16).cells (b := Qx) (x := .int .i64 q2.r) (y := .int .i64 q2.c) (z := .slice aq q2.len pq) (T := 38) (by simp)
 obtain ⟨v0, v1, v2⟩ := (unhide S16).cells (b := Cx) (x := .int .i64 q3.r) (y := .int .i64 q3.c) (z := .slice ac q3.len pc) (T := 38) (by simp)
 obtain ⟨t0, t1, t2⟩ := (unhide S16).cells (b := Dx) (x := .int .i64 q3.r) (y := .int .i64 q3.c) (z := .slice ad q3.len pd) (T := 38) (by simp)
 have T16 : Hid (Calls Tryz.prog 19 #[.agg #[.int .i64 q3.r, .int .i64 q3.c, .slice ac q3.len pc], .agg #[.int .i64 q3.r, .int .i64 q3.c, .slice ad q3.len pd]] w16 fun e w' => e = .returned (.bool true) ∧ Kp w16 w') := by
  have h1 : OvP ac Bc q3.len q3.Z _ := (unhide S16).ob (c := (ovD Bc q3.len, OvP ac Bc q3.len q3.Z)) (by simp)
  exact kitSameM _ _ _ _ _ _ _ _ (by have := (unhide HQ).2.2.2.1; omega) _ h1.row ((unhide S16).row (ao := ad) (len := q3.len) (Z := q3.Z) (by simp))
 go_wp2_with fail
 refine (unhide T16).mono ?_
 rintro e w17 ⟨rfl, k17⟩
 have S17 := hide ((unhide S16).kp k17)
 clear k17 T16 S16 x0 x1 x2 z0 z1 z2 v0 v1 v2 t0 t1 t2
 have T17 : Hid (Calls Tryz.prog 20 #[.pointer (some ⟨U, 0, none⟩)] w17 fun e w' => e = .returned (.bool q3.cut) ∧ w' = w17) := by
  obtain ⟨c, _, _, hu⟩ := (unhide S17).unitE [(ovD Bc q3.len, OvP ac Bc q3.len q3.Z), (ovD Bp q2.len, OvP ap Bp q2.len q2.Z), ([R], RE R q3.cut 900000)]
  exact unitCut U q3.cut c w17 hu
 have T18 : Hid (Calls Tryz.prog 21 #[.pointer (some ⟨R, 0, none⟩)] w17 fun e w' => e = .returned (.bool q3.cut) ∧ w' = w17) := by
  obtain ⟨c, _, _, hu⟩ := (unhide S17).unitR [(ovD Bc q3.len, OvP ac Bc q3.len q3.Z), (ovD Bp q2.len, OvP ap Bp q2.len q2.Z)]
  exact refUCutD R q3.cut c w17 hu
 go_wp2_with fail
 refine (unhide T17).mono ?_
 rintro e w18 ⟨rfl, rfl⟩
 clear T17
 go_wp2_with fail
 refine (unhide T18).mono ?_
 rintro e w18 ⟨rfl, rfl⟩
 clear T18
 generalize hcc : q3.cut = cc
 obtain ⟨x0, x1, x2⟩ := (unhide S17).cells (b := Px) (x := .int .i64 q2.r) (y := .int .i64 q2.c) (z := .slice ap q2.len pp) (T := 38) (by simp)
 have T19 := hide (ST.overV (cap := pp) [(ovD Bc q3.len, OvP ac Bc q3.len q3.Z)] (by have := (unhide HQ).2.2.1; omega) (unhide S17))
 go_wp2_with fail
 refine (unhide T19).mono ?_
 rintro e w19 ⟨rfl, s19⟩
 have S19 : Hid (ST w [(ovD Bc q3.len, OvP ac Bc q3.len q3.Z), (ovD Bp q2.len, fun _ => True), ([R], RE R q3.cut 900000), ([U], UE U q3.cut 900000)] [fBlk Dx #[.int .i64 q3.r, .int .i64 q3.c, .slice ad q3.len pd] 38, fRow ad q3.len q3.Z, fBlk Cx #[.int .i64 q3.r, .int .i64 q3.c, .slice ac q3.len pc] 38, fBlk Qx #[.int .i64 q2.r, .int .i64 q2.c, .slice aq q2.len pq] 38, fRow aq q2.len q2.Z, fBlk Px #[.int .i64 q2.r, .int .i64 q2.c, .slice ap q2.len pp] 38, fBlk Ix n.cells 25, fDV n, fBlk Ax m.cells 25, fDV m] w19) := s19
 clear s19 T19 S17 x0 x1 x2
 obtain ⟨v0, v1, v2⟩ := (unhide S19).cells (b := Cx) (x := .int .i64 q3.r) (y := .int .i64 q3.c) (z := .slice ac q3.len pc) (T := 38) (by simp)
 have T20 := hide (ST.overV (cap := pc) [] (by have := (unhide HQ).2.2.2.1; omega) (unhide S19))
 go_wp2_with fail
 refine (unhide T20).mono ?_
 rintro e w20 ⟨rfl, s20⟩
 have S20 : Hid (ST w [(ovD Bc q3.len, fun _ => True), (ovD Bp q2.len, fun _ => True), ([R], RE R q3.cut 900000), ([U], UE U q3.cut 900000)] [fBlk Dx #[.int .i64 q3.r, .int .i64 q3.c, .slice ad q3.len pd] 38, fRow ad q3.len q3.Z, fBlk Cx #[.int .i64 q3.r, .int .i64 q3.c, .slice ac q3.len pc] 38, fBlk Qx #[.int .i64 q2.r, .int .i64 q2.c, .slice aq q2.len pq] 38, fRow aq q2.len q2.Z, fBlk Px #[.int .i64 q2.r, .int .i64 q2.c, .slice ap q2.len pp] 38, fBlk Ix n.cells 25, fDV n, fBlk Ax m.cells 25, fDV m] w20) := s20
 clear s20 T20 S19 v0 v1 v2
 have T21 : Hid (Calls Tryz.prog 23 #[.agg #[.int .i64 n.N, .slice n.A.ao n.A.len n.A.cap, .slice n.Q.ao n.Q.len n.Q.cap, .int .i64 n.tick, .int .i64 n.gate, .int .i64 n.rmin, .slice n.ro n.rl n.rc], .agg #[.int .i64 m.N, .slice m.A.ao m.A.len m.A.cap, .slice m.Q.ao m.Q.len m.Q.cap, .int .i64 m.tick, .int .i64 m.gate, .int .i64 m.rmin, .slice m.ro m.rl m.rc]] w20 fun e w' => e = .returned (.bool true) ∧ Kp w20 w') := kitSameD m n w20 (DV.good_of (unhide GM) ((unhide S20).dv (by simp))) (DV.good_of (unhide GN) ((unhide S20).dv (by simp))) (unhide SN)
 obtain ⟨y0, y1, y2, y3, y4, y5, y6⟩ : _ ∧ _ ∧ _ ∧ _ ∧ _ ∧ _ ∧ _ := ((unhide S20).get (f := fBlk Ix n.cells 25) (by simp)).cellsM
 obtain ⟨z0, z1, z2, z3, z4, z5, z6⟩ : _ ∧ _ ∧ _ ∧ _ ∧ _ ∧ _ ∧ _ := ((unhide S20).get (f := fBlk Ax m.cells 25) (by simp)).cellsM
 go_wp2_with fail
 refine (unhide T21).mono ?_
 rintro e w21 ⟨rfl, k21⟩
 have K21 : Hid (Kp w w21) := (unhide S20).keep.trans k21
 clear k21 S20 T21 y0 y1 y2 y3 y4 y5 y6 z0 z1 z2 z3 z4 z5 z6
 go_wp2_with fail
 refine (lawAwake11 _).mono ?_
 rintro e w22 ⟨rfl, k22⟩
 have K22 : Hid (Kp w w22) := (unhide K21).trans k22
 clear k22 K21
 go_wp2
 go_ret
 exact ⟨rfl, unhide K22⟩
end Go.Proofs.YtjobgjcfkomhpaaGreat
