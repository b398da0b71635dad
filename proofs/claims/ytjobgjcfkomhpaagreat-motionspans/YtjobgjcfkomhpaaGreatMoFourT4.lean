/- MoK1 MoKn MatNo PolyM2 PickA, one after another, as far as MoFour wants them. -/
import Derived.Test.YtjobgjcfkomhpaaGreatProg
import Derived.Test.YtjobgjcfkomhpaaGreatRows
import Derived.Test.YtjobgjcfkomhpaaGreatMoFourT3
set_option linter.unusedVariables false
set_option linter.unusedSimpArgs false
namespace Go.Proofs.YtjobgjcfkomhpaaGreat
open Go.RowKit Go.Shelf Go.Proofs.Wd
set_option maxRecDepth 10000
attribute [local go_sem ↓] Go.wp_at_zero Go.wp_at_succ
theorem sp_two : spanZ 2 4294967296 = 8589934592 := by decide +kernel
theorem tw_flow : ∀ i, i < 4 → flowZ (WZ (moA 1)) 2 8589934592 i = oneL [1, 2, 0, 1] i := by decide +kernel
theorem tw_noise : ∀ i, i < 4 → noiseZ (WZ (moA 1)) (twoQ 0 3) 2 8589934592 i = oneL [8, 6, 6, 6] i := by decide +kernel
theorem small103 : smallT 1 0 3 := ⟨⟨by omega, by omega⟩, ⟨by omega, by omega⟩, by omega, by omega⟩
set_option maxRecDepth 50000 in
set_option maxHeartbeats 8000000 in
theorem lawAwake11 (w : World) : Calls Tryz.prog 11 #[] w fun e w' => e = .returned (.bool true) ∧ Kp w w' := by
 have N1 := hide (unitNew w)
 go_enter Tryz.func11, Tryz.ntmps11
 go_wp2_with fail
 refine (unhide N1).mono ?_
 rintro e w1 ⟨rfl, u1, g1⟩
 have S1 : Hid (ST w [([w.heap.size], UO w.heap.size (fun _ => True) 0)] [] w1) := (ST.nil w).push (Kp.of g1) ⟨false, 0, trivial, by omega, by omega, u1⟩ (uo_dep _ _ _) (by simp) (fun q hq => by simp at hq; subst hq; exact ⟨Nat.le_refl _, Blk.lt u1⟩)
 obtain ⟨U, hU⟩ : ∃ U, w.heap.size = U := ⟨_, rfl⟩
 rw [hU] at S1
 rw [hU]
 clear u1 g1 N1 hU
 go_wp2_with fail
 refine (lawTwo11 1 0 3 small103 w1).mono ?_
 intro e w2 hv
 obtain ⟨ba, bq, rfl, S2⟩ := (unhide S1).two hv
 have S2 := hide S2
 obtain ⟨c0, n0, _, q1, q2, hu⟩ := (unhide S2).unit []
 have F2 := hide (twFlow U c0 n0 ⟨q1, by omega⟩ 1 0 3 ba bq small103 2 8589934592 (by omega) sp_two w2 hu ((unhide S2).get (f := fTwo 1 0 3 ba bq) (by simp)))
 have HQ := hide (And.intro q1 q2)
 clear hv S1 hu q1 q2
 unfold DV.cells mV at F2
 unfold DV.cells mV
 go_wp2_with fail
 refine (unhide F2).mono ?_
 intro e w3 hv
 obtain ⟨af, cf, rfl, _, S3⟩ := (unhide S2).value [] (unhide HQ) trivial hv
 have S3 := hide (S3.box #[.int .i64 2, .int .i64 2, .slice af 4 cf] 38)
 clear hv S2 F2 HQ
 go_wp2_with fail
 generalize w3.alloc (.cells #[.int .i64 2, .int .i64 2, .slice af 4 cf] 38) = w4 at *
 generalize w3.heap.size = Fx at *
 refine (lawTwo11 1 0 3 small103 w4).mono ?_
 intro e w5 hv
 obtain ⟨b2, q2', rfl, S5⟩ := (unhide S3).two hv
 have S5 := hide S5
 obtain ⟨c1, n1, _, q1, q2, hu⟩ := (unhide S5).unit []
 have F5 := hide (twNoise U c1 n1 ⟨q1, by omega⟩ 1 0 3 b2 q2' small103 2 8589934592 (by omega) sp_two w5 hu ((unhide S5).get (f := fTwo 1 0 3 b2 q2') (by simp)))
 have HQ := hide (And.intro q1 q2)
 clear hv S3 hu q1 q2
 unfold DV.cells mV at F5
 unfold DV.cells mV
 go_wp2_with fail
 refine (unhide F5).mono ?_
 intro e w6 hv
 obtain ⟨an, cn, rfl, _, S6⟩ := (unhide S5).value [] (unhide HQ) trivial hv
 have S6 := hide (S6.box #[.int .i64 2, .int .i64 2, .slice an 4 cn] 38)
 clear hv S5 F5 HQ
 go_wp2_with fail
 generalize w6.alloc (.cells #[.int .i64 2, .int .i64 2, .slice an 4 cn] 38) = w7 at *
 generalize w6.heap.size = Nx at *
 have CW : Hid (∀ wx, Kp w7 wx → wx.cell? ⟨Fx, 0, none⟩ = some (.int .i64 2) ∧ wx.cell? ⟨Fx, 1, none⟩ = some (.int .i64 2) ∧ wx.cell? ⟨Fx, 2, none⟩ = some (.slice af 4 cf) ∧ wx.cell? ⟨Nx, 0, none⟩ = some (.int .i64 2) ∧ wx.cell? ⟨Nx, 1, none⟩ = some (.int .i64 2) ∧ wx.cell? ⟨Nx, 2, none⟩ = some (.slice an 4 cn)) := fun wx k => by
  have S := (unhide S6).kp k
  obtain ⟨e0, e1, e2⟩ := S.cells (b := Fx) (x := .int .i64 2) (y := .int .i64 2) (z := .slice af 4 cf) (T := 38) (by simp)
  obtain ⟨h0, h1, h2⟩ := S.cells (b := Nx) (x := .int .i64 2) (y := .int .i64 2) (z := .slice an 4 cn) (T := 38) (by simp)
  exact ⟨e0, e1, e2, h0, h1, h2⟩
 have RW : Hid (∀ wx, Kp w7 wx → Row wx af 4 (oneL [1, 2, 0, 1]) ∧ Row wx an 4 (oneL [8, 6, 6, 6])) := fun wx k => by
  have S := (unhide S6).kp k
  exact ⟨rowCongr (S.get (f := fRow af 4 (flowZ (WZ (moA 1)) 2 8589934592)) (by simp)) tw_flow, rowCongr (S.get (f := fRow an 4 (noiseZ (WZ (moA 1)) (twoQ 0 3) 2 8589934592)) (by simp)) tw_noise⟩
 have KW : Hid (Kp w w7) := (unhide S6).keep
 clear S6
 obtain ⟨x0, x1, x2, x3, x4, x5⟩ := unhide CW w7 (Kp.refl _)
 have hxa := heap_gt x0
 have hxb := heap_gt x3
 have KD : Hid (Kp w7 (w7.alloc (.cells #[.int .i64 1, .int .i64 2, .int .i64 0, .int .i64 1] 3)).drew) := (show Kp w7 (w7.alloc (.cells #[.int .i64 1, .int .i64 2, .int .i64 0, .int .i64 1] 3)) from (Kp.refl _).alloc _ _)
 have T1 : Hid (Calls Tryz.prog 25 #[.slice (some ⟨w7.heap.size, 0, none⟩) 4 4] (w7.alloc (.cells #[.int .i64 1, .int .i64 2, .int .i64 0, .int .i64 1] 3)).drew fun e w' => OwnM 2 4 (oneL [1, 2, 0, 1]) (w7.alloc (.cells #[.int .i64 1, .int .i64 2, .int .i64 0, .int .i64 1] 3)).drew e w') := lawSquareL [1, 2, 0, 1] 4 rfl (by omega) (by omega) (by decide) w7.heap.size 4 _ (show Blk w7.heap.size #[.int .i64 1, .int .i64 2, .int .i64 0, .int .i64 1] 3 (w7.alloc (.cells #[.int .i64 1, .int .i64 2, .int .i64 0, .int .i64 1] 3)).drew from Blk.new w7 _ _)
 go_region_held3 (fun w' => w'.cell? ⟨Fx, 0, none⟩ = some (.int .i64 2) ∧ w'.cell? ⟨Fx, 1, none⟩ = some (.int .i64 2) ∧ w'.cell? ⟨Fx, 2, none⟩ = some (.slice af 4 cf) ∧ w'.cell? ⟨Nx, 0, none⟩ = some (.int .i64 2) ∧ w'.cell? ⟨Nx, 1, none⟩ = some (.int .i64 2) ∧ w'.cell? ⟨Nx, 2, none⟩ = some (.slice an 4 cn))
   (simp [go_sem, *])
   (first
    | (go_at_call 25; refine (unhide T1).mono ?_; clear T1; rintro e w8 ⟨B8, c8, rfl, _, _, own8, k8⟩; have K8 : Hid (Kp w7 w8) := ((unhide KD).trans k8); have R8 := hide own8.row; obtain ⟨y0, y1, y2, y3, y4, y5⟩ := unhide CW w8 (unhide K8); have hya := heap_gt y0; have hyb := heap_gt y3; clear own8 k8 KD)
    | (go_at_call_of 19 cf; refine (kitSameM 2 2 af (some ⟨B8, 0, none⟩) 4 cf c8 (oneL [1, 2, 0, 1]) (by omega) _ (unhide RW _ (unhide K8)).1 (unhide R8)).mono ?_; clear R8; rintro e w9 ⟨rfl, k9⟩; have K9 : Hid (Kp w7 w9) := ((unhide K8).trans k9); obtain ⟨z0, z1, z2, z3, z4, z5⟩ := unhide CW w9 (unhide K9); have hza := heap_gt z0; have hzb := heap_gt z3; have KE : Hid (Kp w7 (w9.alloc (.cells #[.int .i64 8, .int .i64 6, .int .i64 6, .int .i64 6] 3))) := ((unhide K9).alloc _ _); have O9 := hide (lawSquareL [8, 6, 6, 6] 4 rfl (by omega) (by omega) (by decide) w9.heap.size 4 _ (show Blk w9.heap.size #[.int .i64 8, .int .i64 6, .int .i64 6, .int .i64 6] 3 (w9.alloc (.cells #[.int .i64 8, .int .i64 6, .int .i64 6, .int .i64 6] 3)) from Blk.new w9 _ _)); clear k9)
    | (go_at_call 25; refine (unhide O9).mono ?_; clear O9; rintro e w10 ⟨B10, c10, rfl, _, _, own10, k10⟩; have K10 : Hid (Kp w7 w10) := ((unhide KE).trans k10); have R10 := hide own10.row; obtain ⟨t0, t1, t2, t3, t4, t5⟩ := unhide CW w10 (unhide K10); have hta := heap_gt t0; have htb := heap_gt t3; clear own10 k10 KE)
    | (go_at_call 19; refine (kitSameM 2 2 an (some ⟨B10, 0, none⟩) 4 cn c10 (oneL [8, 6, 6, 6]) (by omega) _ (unhide RW _ (unhide K10)).2 (unhide R10)).mono ?_; clear R10; rintro e w11 ⟨rfl, k11⟩; have K11 : Hid (Kp w7 w11) := ((unhide K10).trans k11); obtain ⟨s0, s1, s2, s3, s4, s5⟩ := unhide CW w11 (unhide K11); have hsa := heap_gt s0; have hsb := heap_gt s3; clear k11))
 go_wp2
 go_ret
 exact ⟨rfl, (unhide KW).trans (unhide K11)⟩
end Go.Proofs.YtjobgjcfkomhpaaGreat
namespace Go.Proofs.YtjobgjcfkomhpaaGreat
open Go.RowKit Go.Shelf Go.Proofs.Wd
set_option maxRecDepth 10000
attribute [local go_sem ↓] Go.wp_at_zero Go.wp_at_succ
theorem sp_neg : spanZ (-2) 4294967296 = -8589934592 := by decide +kernel
theorem sp_nul : spanZ 0 4294967296 = 0 := by decide +kernel
theorem tw_flow2 : ∀ i, i < 4 → flowZ (WZ (moA 1)) 2 (-8589934592) i = oneL [1, -2, 0, 1] i := by decide +kernel
theorem tw_noise0 : ∀ i, i < 4 → noiseZ (WZ (moA 1)) (twoQ 0 3) 2 0 i = oneL [0, 0, 0, 0] i := by decide +kernel
theorem cells_two {A ba bq : Nat} {a q g : Int} {W : World} (h : Blk A (mV a q g ba bq).cells 25 W) : W.cell? ⟨A, 0, none⟩ = some (.int .i64 2) ∧ W.cell? ⟨A, 1, none⟩ = some (.slice (some ⟨ba, 0, none⟩) 4 4) ∧ W.cell? ⟨A, 2, none⟩ = some (.slice (some ⟨bq, 0, none⟩) 2 2) ∧ W.cell? ⟨A, 3, none⟩ = some (.int .i64 4294967296) ∧ W.cell? ⟨A, 4, none⟩ = some (.int .i64 1) ∧ W.cell? ⟨A, 5, none⟩ = some (.int .i64 1) ∧ W.cell? ⟨A, 6, none⟩ = some (.slice none 0 0) :=
 ⟨Blk.cell h 0, Blk.cell h 1, Blk.cell h 2, Blk.cell h 3, Blk.cell h 4, Blk.cell h 5, Blk.cell h 6⟩
def zV : DV := ⟨0, ⟨none, 0, 0, fun _ => 0⟩, ⟨none, 0, 0, fun _ => 0⟩, 0, 0, 0, none, 0, 0, fun _ => ⟨0, ⟨none, 0, 0, fun _ => 0⟩, 0⟩⟩
theorem zV_good (W : World) : zV.good W := by
 have z : I64 0 := by unfold I64; omega
 refine ⟨⟨Or.inl rfl, ⟨Nat.le_refl _, fun _ => ⟨rfl, rfl⟩⟩, fun _ h => absurd h (Nat.not_lt_zero _)⟩, ⟨Or.inl rfl, ⟨Nat.le_refl _, fun _ => ⟨rfl, rfl⟩⟩, fun _ h => absurd h (Nat.not_lt_zero _)⟩, Or.inl rfl, fun _ h => absurd h (Nat.not_lt_zero _), ⟨Nat.le_refl _, fun _ => ⟨rfl, rfl⟩⟩, ⟨z, z, z, z⟩, by show 0 ≤ 40; omega, by show 0 ≤ 12; omega, by show 0 ≤ 30; omega, fun _ h => absurd h (Nat.not_lt_zero _)⟩
theorem zV_rf (ticks : Int) : rfD zV ticks = 2 := rfD_no (fun h => by have := h.1.1; have : (1 : Int) ≤ 0 := this; omega)
section
variable {w wx w' : World} {es pre post fs : List Ob} {U : Nat} {P : Bool → Prop} {d : Int}
theorem ST.moved {c : Bool} {n d' : Int} (pre : List Ob) (h : ST w (pre ++ ([U], UO U P d) :: post) fs wx) (hn : 0 ≤ n ∧ n ≤ d') (hP : P c) (hv : UC U c n w' ∧ Mk U wx w') : ST w (pre ++ ([U], UO U P d') :: post) fs w' :=
 h.upd pre (MkL.one hv.2) ⟨_, n, hP, hn.1, hn.2, hv.1⟩ (uo_dep _ _ _) (by simp)
theorem ST.twoB (h : ST w es fs wx) {a q g : Int} {ba bq : Nat} (hf : fTwo a q g ba bq ∈ fs) : Blk ba (twoAC a) 3 wx ∧ Blk bq (twoQC q g) 3 wx := h.get hf
end
set_option maxRecDepth 50000 in
set_option maxHeartbeats 16000000 in
theorem lawMotionKnown (w : World) : Calls Tryz.prog 4 #[] w fun e w' => e = .returned (.bool true) ∧ Kp w w' := by
 have N1 := hide (unitNew w)
 go_enter Tryz.func4, Tryz.ntmps4
 go_wp2_with fail
 refine (unhide N1).mono ?_
 rintro e w1 ⟨rfl, u1, g1⟩
 have S1 : Hid (ST w [([w.heap.size], UO w.heap.size (fun _ => True) 0)] [] w1) := (ST.nil w).push (Kp.of g1) ⟨false, 0, trivial, by omega, by omega, u1⟩ (uo_dep _ _ _) (by simp) (fun q hq => by simp at hq; subst hq; exact ⟨Nat.le_refl _, Blk.lt u1⟩)
 obtain ⟨U, hU⟩ : ∃ U, w.heap.size = U := ⟨_, rfl⟩
 rw [hU] at S1
 rw [hU]
 clear u1 g1 N1 hU
 go_wp2_with fail
 refine (lawTwo11 1 0 3 small103 w1).mono ?_
 intro e w2 hv
 obtain ⟨ba, bq, rfl, S2⟩ := (unhide S1).two hv
 have S2 := hide (S2.box (mV 1 0 3 ba bq).cells 25)
 clear hv S1
 have eMC : (mV 1 0 3 ba bq).cells = #[.int .i64 2, .slice (some ⟨ba, 0, none⟩) 4 4, .slice (some ⟨bq, 0, none⟩) 2 2, .int .i64 4294967296, .int .i64 1, .int .i64 1, .slice none 0 0] := rfl
 have S2' : Hid (ST w [([U], UO U (fun _ => True) 0)] [fBlk w2.heap.size (mV 1 0 3 ba bq).cells 25, fTwo 1 0 3 ba bq] (w2.alloc (.cells #[.int .i64 2, .slice (some ⟨ba, 0, none⟩) 4 4, .slice (some ⟨bq, 0, none⟩) 2 2, .int .i64 4294967296, .int .i64 1, .int .i64 1, .slice none 0 0] 25))) := S2
 rw [eMC]
 obtain ⟨c0, n0, _, q1, q2, hu⟩ := (unhide S2').unit []
 have hb := ((unhide S2').twoB (a := 1) (q := 0) (g := 3) (ba := ba) (bq := bq) (by simp))
 have n1 : ba ≠ U := blk_ne hb.1 hu (by decide +kernel)
 have n2 : bq ≠ U := blk_ne hb.2 hu (by decide +kernel)
 have HQ := hide (And.intro q1 q2)
 have F2 := hide (moSpan_ok U c0 n0 ⟨q1, by omega⟩ (mV 1 0 3 ba bq) 2 (by unfold I64; omega) (by show I64 4294967296; unfold I64; omega) (w2.alloc (.cells #[.int .i64 2, .slice (some ⟨ba, 0, none⟩) 4 4, .slice (some ⟨bq, 0, none⟩) 2 2, .int .i64 4294967296, .int .i64 1, .int .i64 1, .slice none 0 0] 25)) (fun W k => mV_good small103 (Blk.mk hb.1 k n1) (Blk.mk hb.2 k n2)) (rfD_time (mV_okD small103) (show inTime 2 by unfold inTime; omega)) hu)
 clear hu q1 q2 hb n1 n2 eMC S2
 rw [show spanZ 2 (mV 1 0 3 ba bq).tick = 8589934592 from sp_two] at F2
 unfold DV.cells mV at F2
 go_wp2_with fail
 generalize (w2.alloc (.cells #[.int .i64 2, .slice (some ⟨ba, 0, none⟩) 4 4, .slice (some ⟨bq, 0, none⟩) 2 2, .int .i64 4294967296, .int .i64 1, .int .i64 1, .slice none 0 0] 25)) = w3 at *
 generalize w2.heap.size = Mb at *
 refine (unhide F2).mono ?_
 rintro e w4 ⟨rfl, hv⟩
 have S4 := hide ((unhide S2').moved [] (n := n0 + 3) (d' := 3) (by have := unhide HQ; omega) trivial hv)
 clear hv F2 HQ S2'
 obtain ⟨y0, y1, y2, y3, y4, y5, y6⟩ := cells_two (A := Mb) (a := 1) (q := 0) (g := 3) ((unhide S4).get (f := fBlk Mb (mV 1 0 3 ba bq).cells 25) (by simp))
 obtain ⟨c0, n0, _, q1, q2, hu⟩ := (unhide S4).unit []
 have hb := ((unhide S4).twoB (a := 1) (q := 0) (g := 3) (ba := ba) (bq := bq) (by simp))
 have n1 : ba ≠ U := blk_ne hb.1 hu (by decide +kernel)
 have n2 : bq ≠ U := blk_ne hb.2 hu (by decide +kernel)
 have HQ := hide (And.intro q1 q2)
 have F4 := hide (twFlow U c0 n0 ⟨q1, by omega⟩ 1 0 3 ba bq small103 (-2) (-8589934592) (by omega) sp_neg w4 hu hb)
 clear hu q1 q2 hb n1 n2
 unfold DV.cells mV at F4
 go_wp2_with fail
 refine (unhide F4).mono ?_
 intro e w5 hv
 obtain ⟨af, cf, rfl, _, S5⟩ := (unhide S4).value [] (unhide HQ) trivial hv
 have S5 := hide (S5.box #[.int .i64 2, .int .i64 2, .slice af 4 cf] 38)
 clear hv S4 F4 HQ y0 y1 y2 y3 y4 y5 y6
 obtain ⟨y0, y1, y2, y3, y4, y5, y6⟩ := cells_two (A := Mb) (a := 1) (q := 0) (g := 3) ((unhide S5).get (f := fBlk Mb (mV 1 0 3 ba bq).cells 25) (by simp))
 obtain ⟨c0, n0, _, q1, q2, hu⟩ := (unhide S5).unit []
 have hb := ((unhide S5).twoB (a := 1) (q := 0) (g := 3) (ba := ba) (bq := bq) (by simp))
 have n1 : ba ≠ U := blk_ne hb.1 hu (by decide +kernel)
 have n2 : bq ≠ U := blk_ne hb.2 hu (by decide +kernel)
 have HQ := hide (And.intro q1 q2)
 have F6 := hide (twNoise U c0 n0 ⟨q1, by omega⟩ 1 0 3 ba bq small103 0 0 (by omega) sp_nul (w5.alloc (.cells #[.int .i64 2, .int .i64 2, .slice af 4 cf] 38)) hu hb)
 clear hu q1 q2 hb n1 n2
 unfold DV.cells mV at F6
 go_wp2_with fail
 generalize (w5.alloc (.cells #[.int .i64 2, .int .i64 2, .slice af 4 cf] 38)) = w6 at *
 generalize w5.heap.size = Fx at *
 refine (unhide F6).mono ?_
 intro e w7 hv
 obtain ⟨an, cn, rfl, _, S7⟩ := (unhide S5).value [] (unhide HQ) trivial hv
 have S7 := hide (S7.box #[.int .i64 2, .int .i64 2, .slice an 4 cn] 38)
 clear hv S5 F6 HQ y0 y1 y2 y3 y4 y5 y6
 obtain ⟨y0, y1, y2, y3, y4, y5, y6⟩ := cells_two (A := Mb) (a := 1) (q := 0) (g := 3) ((unhide S7).get (f := fBlk Mb (mV 1 0 3 ba bq).cells 25) (by simp))
 obtain ⟨c0, n0, _, q1, q2, hu⟩ := (unhide S7).unit []
 have hb := ((unhide S7).twoB (a := 1) (q := 0) (g := 3) (ba := ba) (bq := bq) (by simp))
 have n1 : ba ≠ U := blk_ne hb.1 hu (by decide +kernel)
 have n2 : bq ≠ U := blk_ne hb.2 hu (by decide +kernel)
 have HQ := hide (And.intro q1 q2)
 have F8 := hide (moNoise_bad U c0 n0 ⟨q1, by omega⟩ (mV 1 0 3 ba bq) (-1) (fun _ => 0) (w7.alloc (.cells #[.int .i64 2, .int .i64 2, .slice an 4 cn] 38)) (fun W k => mV_good small103 (Blk.mk hb.1 k n1) (Blk.mk hb.2 k n2)) (by rw [rfL_late (mV_okD small103) (by omega)]; omega) hu)
 rw [rfL_late (mV_okD small103) (by omega)] at F8
 clear hu q1 q2 hb n1 n2
 unfold DV.cells mV at F8
 go_wp2_with fail
 generalize (w7.alloc (.cells #[.int .i64 2, .int .i64 2, .slice an 4 cn] 38)) = w8 at *
 generalize w7.heap.size = Nx at *
 refine (unhide F8).mono ?_
 rintro e w9 ⟨a9, c9, _, rfl, _, _, _, hv⟩
 have S9 := hide ((unhide S7).still [] (unhide HQ) trivial hv)
 have S9 := hide ((unhide S9).box #[.int .i64 0, .int .i64 0, .slice a9 0 c9] 38)
 clear hv S7 F8 HQ y0 y1 y2 y3 y4 y5 y6
 obtain ⟨y0, y1, y2, y3, y4, y5, y6⟩ := cells_two (A := Mb) (a := 1) (q := 0) (g := 3) ((unhide S9).get (f := fBlk Mb (mV 1 0 3 ba bq).cells 25) (by simp))
 have F10 := hide (moFlow_none none (mV 1 0 3 ba bq) 1 (fun _ => 0) (w9.alloc (.cells #[.int .i64 0, .int .i64 0, .slice a9 0 c9] 38)) (Or.inl rfl))
 unfold DV.cells mV at F10
 go_wp2_with fail
 generalize (w9.alloc (.cells #[.int .i64 0, .int .i64 0, .slice a9 0 c9] 38)) = w10 at *
 generalize w9.heap.size = N9 at *
 refine (unhide F10).mono ?_
 rintro e w11 ⟨a11, c11, _, rfl, _, _, _, k11⟩
 have S11 := hide ((unhide S9).kp k11)
 have S11 := hide ((unhide S11).box #[.int .i64 0, .int .i64 0, .slice a11 0 c11] 38)
 clear k11 S9 F10 y0 y1 y2 y3 y4 y5 y6
 obtain ⟨y0, y1, y2, y3, y4, y5, y6⟩ := cells_two (A := Mb) (a := 1) (q := 0) (g := 3) ((unhide S11).get (f := fBlk Mb (mV 1 0 3 ba bq).cells 25) (by simp))
 obtain ⟨c0, n0, _, q1, q2, hu⟩ := (unhide S11).unit []
 have hb := ((unhide S11).twoB (a := 1) (q := 0) (g := 3) (ba := ba) (bq := bq) (by simp))
 have n1 : ba ≠ U := blk_ne hb.1 hu (by decide +kernel)
 have n2 : bq ≠ U := blk_ne hb.2 hu (by decide +kernel)
 have HQ := hide (And.intro q1 q2)
 have F12 := hide (moSpan_bad U c0 n0 ⟨q1, by omega⟩ zV 1 (w11.alloc (.cells #[.int .i64 0, .int .i64 0, .slice a11 0 c11] 38)) (fun W _ => zV_good W) (by rw [zV_rf]; omega) hu)
 rw [zV_rf] at F12
 clear hu q1 q2 hb n1 n2
 unfold DV.cells zV at F12
 go_wp2_with fail
 generalize (w11.alloc (.cells #[.int .i64 0, .int .i64 0, .slice a11 0 c11] 38)) = w12 at *
 generalize w11.heap.size = N11 at *
 refine (unhide F12).mono ?_
 rintro e w13 ⟨rfl, hv⟩
 have S13 := hide ((unhide S11).still [] (unhide HQ) trivial hv)
 clear hv S11 F12 HQ y0 y1 y2 y3 y4 y5 y6
 obtain ⟨y0, y1, y2, y3, y4, y5, y6⟩ := cells_two (A := Mb) (a := 1) (q := 0) (g := 3) ((unhide S13).get (f := fBlk Mb (mV 1 0 3 ba bq).cells 25) (by simp))
 obtain ⟨c0, n0, _, q1, q2, hu⟩ := (unhide S13).unit []
 have hb := ((unhide S13).twoB (a := 1) (q := 0) (g := 3) (ba := ba) (bq := bq) (by simp))
 have n1 : ba ≠ U := blk_ne hb.1 hu (by decide +kernel)
 have n2 : bq ≠ U := blk_ne hb.2 hu (by decide +kernel)
 have HQ := hide (And.intro q1 q2)
 have F14 := hide (moFlow_bad U c0 n0 ⟨q1, by omega⟩ (mV 1 0 3 ba bq) 1099511627777 (fun _ => 0) w13 (fun W k => mV_good small103 (Blk.mk hb.1 k n1) (Blk.mk hb.2 k n2)) (by rw [rfL_late (mV_okD small103) (by omega)]; omega) hu)
 rw [rfL_late (mV_okD small103) (by omega)] at F14
 clear hu q1 q2 hb n1 n2
 unfold DV.cells mV at F14
 go_wp2_with fail
 refine (unhide F14).mono ?_
 rintro e w14 ⟨a14, c14, _, rfl, _, _, _, hv⟩
 have S14 := hide ((unhide S13).still [] (unhide HQ) trivial hv)
 have S14 := hide ((unhide S14).box #[.int .i64 0, .int .i64 0, .slice a14 0 c14] 38)
 clear hv S13 F14 HQ y0 y1 y2 y3 y4 y5 y6
 go_wp2_with fail
 generalize (w14.alloc (.cells #[.int .i64 0, .int .i64 0, .slice a14 0 c14] 38)) = w15 at *
 generalize w14.heap.size = N14 at *
 have CW : Hid (∀ wx, Kp w15 wx → wx.cell? ⟨Fx, 0, none⟩ = some (.int .i64 2) ∧ wx.cell? ⟨Fx, 1, none⟩ = some (.int .i64 2) ∧ wx.cell? ⟨Fx, 2, none⟩ = some (.slice af 4 cf) ∧ wx.cell? ⟨Nx, 0, none⟩ = some (.int .i64 2) ∧ wx.cell? ⟨Nx, 1, none⟩ = some (.int .i64 2) ∧ wx.cell? ⟨Nx, 2, none⟩ = some (.slice an 4 cn)) := fun wx k => by
  have S := (unhide S14).kp k
  obtain ⟨e0, e1, e2⟩ := S.cells (b := Fx) (x := .int .i64 2) (y := .int .i64 2) (z := .slice af 4 cf) (T := 38) (by simp)
  obtain ⟨h0, h1, h2⟩ := S.cells (b := Nx) (x := .int .i64 2) (y := .int .i64 2) (z := .slice an 4 cn) (T := 38) (by simp)
  exact ⟨e0, e1, e2, h0, h1, h2⟩
 have RW : Hid (∀ wx, Kp w15 wx → Row wx af 4 (oneL [1, -2, 0, 1]) ∧ Row wx an 4 (oneL [0, 0, 0, 0])) := fun wx k => by
  have S := (unhide S14).kp k
  exact ⟨rowCongr (S.get (f := fRow af 4 (flowZ (WZ (moA 1)) 2 (-8589934592))) (by simp)) tw_flow2, rowCongr (S.get (f := fRow an 4 (noiseZ (WZ (moA 1)) (twoQ 0 3) 2 0)) (by simp)) tw_noise0⟩
 have KW : Hid (Kp w w15) := (unhide S14).keep
 clear S14
 obtain ⟨x0, x1, x2, x3, x4, x5⟩ := unhide CW w15 (Kp.refl _)
 have hxa := heap_gt x0
 have hxb := heap_gt x3
 have KD : Hid (Kp w15 (w15.alloc (.cells #[.int .i64 1, .int .i64 (-2), .int .i64 0, .int .i64 1] 3)).drew) := (show Kp w15 (w15.alloc (.cells #[.int .i64 1, .int .i64 (-2), .int .i64 0, .int .i64 1] 3)) from (Kp.refl _).alloc _ _)
 have T1 : Hid (Calls Tryz.prog 25 #[.slice (some ⟨w15.heap.size, 0, none⟩) 4 4] (w15.alloc (.cells #[.int .i64 1, .int .i64 (-2), .int .i64 0, .int .i64 1] 3)).drew fun e w' => OwnM 2 4 (oneL [1, -2, 0, 1]) (w15.alloc (.cells #[.int .i64 1, .int .i64 (-2), .int .i64 0, .int .i64 1] 3)).drew e w') := lawSquareL [1, -2, 0, 1] 4 rfl (by omega) (by omega) (by decide) w15.heap.size 4 _ (show Blk w15.heap.size #[.int .i64 1, .int .i64 (-2), .int .i64 0, .int .i64 1] 3 (w15.alloc (.cells #[.int .i64 1, .int .i64 (-2), .int .i64 0, .int .i64 1] 3)).drew from Blk.new w15 _ _)
 go_cut [17] (fun c wx => c = .bool true ∧ Hid (Kp w15 wx))
 case first =>
  go_region_held3 (fun w' => w'.cell? ⟨Fx, 0, none⟩ = some (.int .i64 2) ∧ w'.cell? ⟨Fx, 1, none⟩ = some (.int .i64 2) ∧ w'.cell? ⟨Fx, 2, none⟩ = some (.slice af 4 cf) ∧ w'.cell? ⟨Nx, 0, none⟩ = some (.int .i64 2) ∧ w'.cell? ⟨Nx, 1, none⟩ = some (.int .i64 2) ∧ w'.cell? ⟨Nx, 2, none⟩ = some (.slice an 4 cn))
   (simp [go_sem, *])
   (first
    | (go_at_call 25; refine (unhide T1).mono ?_; clear T1; rintro e w16 ⟨B8, c8, rfl, _, _, own8, k8⟩; have K8 : Hid (Kp w15 w16) := ((unhide KD).trans k8); have R8 := hide own8.row; obtain ⟨y0, y1, y2, y3, y4, y5⟩ := unhide CW w16 (unhide K8); have hya := heap_gt y0; have hyb := heap_gt y3; clear own8 k8 KD)
    | (go_at_call_of 19 cf; refine (kitSameM 2 2 af (some ⟨B8, 0, none⟩) 4 cf c8 (oneL [1, -2, 0, 1]) (by omega) _ (unhide RW _ (unhide K8)).1 (unhide R8)).mono ?_; clear R8; rintro e w17 ⟨rfl, k9⟩; have K9 : Hid (Kp w15 w17) := ((unhide K8).trans k9); obtain ⟨z0, z1, z2, z3, z4, z5⟩ := unhide CW w17 (unhide K9); have hza := heap_gt z0; have hzb := heap_gt z3; have KE : Hid (Kp w15 (w17.alloc (.cells #[.int .i64 0, .int .i64 0, .int .i64 0, .int .i64 0] 3))) := ((unhide K9).alloc _ _); have O9 := hide (lawSquareL [0, 0, 0, 0] 4 rfl (by omega) (by omega) (by decide) w17.heap.size 4 _ (show Blk w17.heap.size #[.int .i64 0, .int .i64 0, .int .i64 0, .int .i64 0] 3 (w17.alloc (.cells #[.int .i64 0, .int .i64 0, .int .i64 0, .int .i64 0] 3)) from Blk.new w17 _ _)); clear k9)
    | (go_at_call 25; refine (unhide O9).mono ?_; clear O9; rintro e w18 ⟨B10, c10, rfl, _, _, own10, k10⟩; have K10 : Hid (Kp w15 w18) := ((unhide KE).trans k10); have R10 := hide own10.row; obtain ⟨t0, t1, t2, t3, t4, t5⟩ := unhide CW w18 (unhide K10); have hta := heap_gt t0; have htb := heap_gt t3; clear own10 k10 KE)
    | (go_at_call 19; refine (kitSameM 2 2 an (some ⟨B10, 0, none⟩) 4 cn c10 (oneL [0, 0, 0, 0]) (by omega) _ (unhide RW _ (unhide K10)).2 (unhide R10)).mono ?_; clear R10; rintro e w19 ⟨rfl, k11⟩; have K11 : Hid (Kp w15 w19) := ((unhide K10).trans k11); obtain ⟨s0, s1, s2, s3, s4, s5⟩ := unhide CW w19 (unhide K11); have hsa := heap_gt s0; have hsb := heap_gt s3; clear k11))
  all_goals go_wp2_with fail
  all_goals go_meet
  all_goals exact ⟨rfl, unhide K11⟩
 case rest =>
  obtain ⟨rfl, K20⟩ := hcut
  clear T1 KD CW RW
  go_wp2_with fail
  refine (lawAwake11 _).mono ?_
  rintro e w21 ⟨rfl, k21⟩
  have K21 : Hid (Kp w w21) := ((unhide KW).trans (unhide K20)).trans k21
  clear k21 K20 KW
  go_wp2
  go_ret
  exact ⟨rfl, unhide K21⟩
end Go.Proofs.YtjobgjcfkomhpaaGreat
namespace Go.Proofs.YtjobgjcfkomhpaaGreat
open Go.RowKit Go.Shelf Go.Proofs.Wd
set_option maxRecDepth 10000
theorem NU.kp {p : Option Addr} {w w' : World} (h : NU p w) (g : Kp w w') : NU p w' := by
 rcases h with h | ⟨U, c, h, k⟩
 ·exact Or.inl h
 ·exact Or.inr ⟨U, c, h, Blk.kp k g⟩
end Go.Proofs.YtjobgjcfkomhpaaGreat
namespace Go.Proofs.Wd
open Go.Proofs.YtjobgjcfkomhpaaGreat
set_option maxRecDepth 10000
theorem mul_quart (x y : Int) (hx : -100000000 ≤ x ∧ x ≤ 100000000) (hy : -100000000 ≤ y ∧ y ≤ 100000000) (h : -100000000 ≤ x * y ∧ x * y ≤ 100000000) : mulN (x * 2147483648) (y * 2147483648) = x * y * 1073741824 ∧ mulC (x * 2147483648) (y * 2147483648) = false := by
 have e1 := fx_all _ (half_Fx x (by omega))
 have e2 := fx_all _ (half_Fx y (by omega))
 have e3 := fx_all (x * y * 1073741824) (by unfold Fx; omega)
 have e4 : rdiv (x * 2147483648 * (y * 2147483648)) 4294967296 = x * y * 1073741824 := by
  have := rdiv_mul (x * y * 1073741824) 4294967296 (by omega)
  rwa [show x * y * 1073741824 * 4294967296 = x * 2147483648 * (y * 2147483648) by grind] at this
 unfold mulN mulC cutB
 rw [e1.1, e2.1, e4, e3.2.1, e3.2.2.1, e1.2.2.2, e2.2.2.2]
 exact ⟨rfl, rfl⟩
theorem add_quart (x y : Int) (hx : -400000000 ≤ x ∧ x ≤ 400000000) (hy : -400000000 ≤ y ∧ y ≤ 400000000) : addN (x * 1073741824) (y * 1073741824) = (x + y) * 1073741824 ∧ addC (x * 1073741824) (y * 1073741824) = false := by
 have e1 := fx_all (x * 1073741824) (by unfold Fx; omega)
 have e2 := fx_all (y * 1073741824) (by unfold Fx; omega)
 have e3 := fx_all ((x + y) * 1073741824) (by unfold Fx; omega)
 unfold addN addC cutB
 rw [e1.1, e2.1, ← Int.add_mul, e3.2.1, e3.2.2.1, e1.2.2.2, e2.2.2.2]
 exact ⟨rfl, rfl⟩
theorem dot_quart (X Y x y : Nat → Int) : ∀ k, k ≤ 3 → (∀ i, i < k → X i = x i * 2147483648 ∧ Y i = y i * 2147483648) → (∀ i, i < k → (-100000000 ≤ x i ∧ x i ≤ 100000000) ∧ (-100000000 ≤ y i ∧ y i ≤ 100000000) ∧ -100000000 ≤ x i * y i ∧ x i * y i ≤ 100000000) →
  dotN X Y k = sI (fun i => x i * y i) k * 1073741824 ∧ dotC X Y k = false ∧ -((k : Int) * 100000000) ≤ sI (fun i => x i * y i) k ∧ sI (fun i => x i * y i) k ≤ (k : Int) * 100000000
 | 0, _, _, _ => ⟨rfl, rfl, by show -(0 : Int) ≤ 0; omega, by show (0 : Int) ≤ 0; omega⟩
 | k + 1, hk, hX, hB => by
  obtain ⟨h1, h2, h3, h4⟩ := dot_quart X Y x y k (by omega) (fun i hi => hX i (by omega)) (fun i hi => hB i (by omega))
  have b := hB k (by omega)
  have m := mul_quart (x k) (y k) b.1 b.2.1 b.2.2
  obtain ⟨s, hs⟩ : ∃ s, sI (fun i => x i * y i) k = s := ⟨_, rfl⟩
  obtain ⟨p, hp⟩ : ∃ p, x k * y k = p := ⟨_, rfl⟩
  rw [hs] at h1 h3 h4
  rw [hp] at m b
  have a := add_quart s p (by omega) (by omega)
  have e : sI (fun i => x i * y i) (k + 1) = s + p := by
   show sI (fun i => x i * y i) k + x k * y k = s + p
   rw [hs, hp]
  rw [e]
  refine ⟨?_, ?_, by omega, by omega⟩
  ·show addN (dotN X Y k) (mulN (X k) (Y k)) = _
   rw [h1, (hX k (by omega)).1, (hX k (by omega)).2, m.1, a.1]
  ·show (dotC X Y k || mulC (X k) (Y k) || addC (dotN X Y k) (mulN (X k) (Y k))) = false
   rw [h1, h2, (hX k (by omega)).1, (hX k (by omega)).2, m.1, m.2, a.2]
   rfl
def uni (n : Nat) (b c d : Int) : Nat → Int := fun p => if p / n = p % n then 2 else if n = 3 ∧ p = 2 then c else if p = 1 then b else if n = 3 ∧ p = 5 then d else 0
theorem uni_mul (n : Nat) (hn : 1 ≤ n ∧ n ≤ 3) (X Y : Nat → Int) (b c d b' c' d' m : Int) (hX : ∀ p, p < n * n → X p = uni n b c d p * 2147483648) (hY : ∀ p, p < n * n → Y p = uni n b' c' d' p * 2147483648)
  (hb : -10000 ≤ b ∧ b ≤ 10000) (hc : -10000000 ≤ c ∧ c ≤ 10000000) (hd : -10000 ≤ d ∧ d ≤ 10000) (hb' : -10000 ≤ b' ∧ b' ≤ 10000) (hc' : -10000000 ≤ c' ∧ c' ≤ 10000000) (hd' : -10000 ≤ d' ∧ d' ≤ 10000) (hm : b * d' = 2 * m) :
  (∀ p, p < n * n → mulZ X Y n n p = uni n (b + b') (c + c' + m) (d + d') p * 2147483648) ∧ ∀ p, p < n * n → mulG X Y n n p = false := by
 have bd := mul_bound b d' 10000 10000 hb hd'
 have key : ∀ p, p < n * n → (∀ i, i < n → (-100000000 ≤ uni n b c d (p / n * n + i) ∧ uni n b c d (p / n * n + i) ≤ 100000000) ∧ (-100000000 ≤ uni n b' c' d' (i * n + p % n) ∧ uni n b' c' d' (i * n + p % n) ≤ 100000000) ∧ -100000000 ≤ uni n b c d (p / n * n + i) * uni n b' c' d' (i * n + p % n) ∧ uni n b c d (p / n * n + i) * uni n b' c' d' (i * n + p % n) ≤ 100000000) ∧
   sI (fun i => uni n b c d (p / n * n + i) * uni n b' c' d' (i * n + p % n)) n = 2 * uni n (b + b') (c + c' + m) (d + d') p := by
  intro p hp
  have hc3 : n = 1 ∨ n = 2 ∨ n = 3 := by omega
  rcases hc3 with rfl | rfl | rfl
  ·obtain rfl : p = 0 := by omega
   refine ⟨fun i hi => ?_, by simp [sI, uni]⟩
   obtain rfl : i = 0 := by omega
   simp [uni]
  ·have h4 : p = 0 ∨ p = 1 ∨ p = 2 ∨ p = 3 := by omega
   rcases h4 with rfl | rfl | rfl | rfl
   all_goals
    refine ⟨fun i hi => ?_, by simp [sI, uni]; try omega⟩
    have hi2 : i = 0 ∨ i = 1 := by omega
    rcases hi2 with rfl | rfl <;> simp [uni] <;> omega
  ·have h9 : p = 0 ∨ p = 1 ∨ p = 2 ∨ p = 3 ∨ p = 4 ∨ p = 5 ∨ p = 6 ∨ p = 7 ∨ p = 8 := by omega
   rcases h9 with rfl | rfl | rfl | rfl | rfl | rfl | rfl | rfl | rfl
   all_goals
    refine ⟨fun i hi => ?_, by simp [sI, uni]; try omega⟩
    have hi2 : i = 0 ∨ i = 1 ∨ i = 2 := by omega
    rcases hi2 with rfl | rfl | rfl <;> simp [uni] <;> omega
 have D : ∀ p, p < n * n → dotN (rowZ X n (p / n)) (colZ Y n (p % n)) n = 2 * uni n (b + b') (c + c' + m) (d + d') p * 1073741824 ∧ dotC (rowZ X n (p / n)) (colZ Y n (p % n)) n = false := fun p hp => by
  have hl := place_lt p n n hp
  obtain ⟨k1, k2⟩ := key p hp
  have q := dot_quart (rowZ X n (p / n)) (colZ Y n (p % n)) (fun i => uni n b c d (p / n * n + i)) (fun i => uni n b' c' d' (i * n + p % n)) n (by omega) (fun i hi => ⟨hX _ (place_in _ _ _ _ hl.1 hi), hY _ (place_in _ _ _ _ hi hl.2)⟩) k1
  rw [k2] at q
  exact ⟨q.1, q.2.1⟩
 exact ⟨fun p hp => by
  show dotN (rowZ X n (p / n)) (colZ Y n (p % n)) n = _
  rw [(D p hp).1]
  omega, fun p hp => (D p hp).2⟩
def xH (a : Nat → Int) (n : Nat) : Nat → Nat → Int
 | 0 => fun p => if p / n = p % n then 2 else 0
 | 1 => fun p => 2 * a p
 | _ => fun p => if p = 2 then a 1 * a 5 else 0
theorem term_half (a : Nat → Int) (n : Nat) (hn : 1 ≤ n ∧ n ≤ 3) (h : UpW 9 n a) : (∀ i, i ≤ n - 1 → ∀ p, p < n * n → termZ (WZ a) n i p = xH a n i p * 2147483648) ∧ termC (WZ a) n (n - 1) = false := by
 have t0 : ∀ p, termZ (WZ a) n 0 p = xH a n 0 p * 2147483648 := fun p => by
  show (if p / n = p % n then (4294967296 : Int) else 0) = (if p / n = p % n then 2 else 0) * 2147483648
  split <;> rfl
 have t1 := term_one a n ⟨hn.1, by omega⟩ h
 have e1 : ∀ p, p < n * n → termZ (WZ a) n 1 p = xH a n 1 p * 2147483648 := fun p hp => by
  rw [t1.1 p hp]
  show a p * 4294967296 = 2 * a p * 2147483648
  omega
 have hc3 : n = 1 ∨ n = 2 ∨ n = 3 := by omega
 rcases hc3 with rfl | rfl | rfl
 ·exact ⟨fun i hi p hp => by
   obtain rfl : i = 0 := by omega
   exact t0 p, rfl⟩
 ·exact ⟨fun i hi p hp => by
   rcases (show i = 0 ∨ i = 1 by omega) with rfl | rfl
   ·exact t0 p
   ·exact e1 p hp, t1.2⟩
 ·have t2 := term_two a h
  exact ⟨fun i hi p hp => by
   rcases (show i = 0 ∨ i = 1 ∨ i = 2 by omega) with rfl | rfl | rfl
   ·exact t0 p
   ·exact e1 p hp
   ·exact t2.1 p hp, t2.2⟩
theorem flow_uni (a : Nat → Int) (n : Nat) (hn : 1 ≤ n ∧ n ≤ 3) (h : UpW 9 n a) (y : Int) (hy : -200 ≤ y ∧ y ≤ 200) :
  (∀ p, p < n * n → flowZ (WZ a) n (y * 4294967296) p = uni n (2 * (a 1 * y)) (2 * (a 2 * y) + a 1 * a 5 * (y * y)) (2 * (a 5 * y)) p * 2147483648) ∧ flowC (WZ a) n (y * 4294967296) = false := by
 obtain ⟨T, TC⟩ := term_half a n hn h
 have B : ∀ p, p < n * n → -9 ≤ a p ∧ a p ≤ 9 := h.1
 have Z : ∀ i k, i < n → k < n → k ≤ i → a (i * n + k) = 0 := h.2
 have key : (∀ i, i ≤ n - 1 → ∀ p, p < n * n → -1000000000 ≤ xH a n i p ∧ xH a n i p ≤ 1000000000) ∧ (∀ k, k ≤ n - 1 → ∀ p, p < n * n → (-1000000000 ≤ hH (xH a n) (n - 1) y k p ∧ hH (xH a n) (n - 1) y k p ≤ 1000000000) ∧ -1000000000 ≤ hH (xH a n) (n - 1) y k p * y ∧ hH (xH a n) (n - 1) y k p * y ≤ 1000000000) ∧
   ∀ p, p < n * n → hH (xH a n) (n - 1) y (n - 1) p = uni n (2 * (a 1 * y)) (2 * (a 2 * y) + a 1 * a 5 * (y * y)) (2 * (a 5 * y)) p := by
  have hc3 : n = 1 ∨ n = 2 ∨ n = 3 := by omega
  rcases hc3 with rfl | rfl | rfl
  ·refine ⟨fun i hi p hp => ?_, fun k hk p hp => ?_, fun p hp => ?_⟩
   ·obtain rfl : i = 0 := by omega
    obtain rfl : p = 0 := by omega
    simp [xH]
   ·obtain rfl : k = 0 := by omega
    obtain rfl : p = 0 := by omega
    simp [hH, xH]
    omega
   ·obtain rfl : p = 0 := by omega
    simp [hH, xH, uni]
  ·have b1 := B 1 (by omega)
   have z0 := Z 0 0 (by omega) (by omega) (by omega)
   have z2 := Z 1 0 (by omega) (by omega) (by omega)
   have z3 := Z 1 1 (by omega) (by omega) (by omega)
   simp at z0 z2 z3
   have m1 := mul_bound (a 1) y 9 200 b1 hy
   have m2 := mul_bound (a 1 * y) y 1800 200 m1 hy
   have e1 : 2 * a 1 * y = 2 * (a 1 * y) := Int.mul_assoc _ _ _
   have e2 : 2 * (a 1 * y) * y = 2 * (a 1 * y * y) := Int.mul_assoc _ _ _
   refine ⟨fun i hi p hp => ?_, fun k hk p hp => ?_, fun p hp => ?_⟩
   ·rcases (show p = 0 ∨ p = 1 ∨ p = 2 ∨ p = 3 by omega) with rfl | rfl | rfl | rfl <;> rcases (show i = 0 ∨ i = 1 by omega) with rfl | rfl <;> simp [xH, z0, z2, z3] <;> omega
   ·rcases (show p = 0 ∨ p = 1 ∨ p = 2 ∨ p = 3 by omega) with rfl | rfl | rfl | rfl <;> rcases (show k = 0 ∨ k = 1 by omega) with rfl | rfl <;> simp [hH, xH, z0, z2, z3, e1, e2] <;> omega
   ·rcases (show p = 0 ∨ p = 1 ∨ p = 2 ∨ p = 3 by omega) with rfl | rfl | rfl | rfl <;> simp [hH, xH, uni, z0, z2, z3, e1]
  ·have b1 := B 1 (by omega)
   have b2 := B 2 (by omega)
   have b5 := B 5 (by omega)
   have z0 := Z 0 0 (by omega) (by omega) (by omega)
   have z3 := Z 1 0 (by omega) (by omega) (by omega)
   have z4 := Z 1 1 (by omega) (by omega) (by omega)
   have z6 := Z 2 0 (by omega) (by omega) (by omega)
   have z7 := Z 2 1 (by omega) (by omega) (by omega)
   have z8 := Z 2 2 (by omega) (by omega) (by omega)
   simp at z0 z3 z4 z6 z7 z8
   have m15 := mul_bound (a 1) (a 5) 9 9 b1 b5
   obtain ⟨q, hq⟩ : ∃ q, a 1 * a 5 = q := ⟨_, rfl⟩
   rw [hq] at m15
   have qy := mul_bound q y 81 200 m15 hy
   have w1 := mul_bound (a 1) y 9 200 b1 hy
   have w2 := mul_bound (a 2) y 9 200 b2 hy
   have w5 := mul_bound (a 5) y 9 200 b5 hy
   have v1 := mul_bound (a 1 * y) y 1800 200 w1 hy
   have v2 := mul_bound (a 2 * y) y 1800 200 w2 hy
   have v5 := mul_bound (a 5 * y) y 1800 200 w5 hy
   have vq := mul_bound (q * y) y 16200 200 qy hy
   have vq2 := mul_bound (q * y * y) y 3240000 200 vq hy
   have e1 : 2 * a 1 * y = 2 * (a 1 * y) := Int.mul_assoc _ _ _
   have e2 : 2 * a 2 * y = 2 * (a 2 * y) := Int.mul_assoc _ _ _
   have e5 : 2 * a 5 * y = 2 * (a 5 * y) := Int.mul_assoc _ _ _
   have f1 : 2 * (a 1 * y) * y = 2 * (a 1 * y * y) := Int.mul_assoc _ _ _
   have f2 : (q * y + 2 * a 2) * y = q * y * y + 2 * (a 2 * y) := by grind
   have f3 : (q * y * y + 2 * (a 2 * y)) * y = q * y * y * y + 2 * (a 2 * y * y) := by grind
   have f5 : 2 * (a 5 * y) * y = 2 * (a 5 * y * y) := Int.mul_assoc _ _ _
   have g2 : q * (y * y) = q * y * y := (Int.mul_assoc _ _ _).symm
   refine ⟨fun i hi p hp => ?_, fun k hk p hp => ?_, fun p hp => ?_⟩
   ·rcases (show p = 0 ∨ p = 1 ∨ p = 2 ∨ p = 3 ∨ p = 4 ∨ p = 5 ∨ p = 6 ∨ p = 7 ∨ p = 8 by omega) with rfl | rfl | rfl | rfl | rfl | rfl | rfl | rfl | rfl <;> rcases (show i = 0 ∨ i = 1 ∨ i = 2 by omega) with rfl | rfl | rfl <;> simp [xH, z0, z3, z4, z6, z7, z8, hq] <;> omega
   ·rcases (show p = 0 ∨ p = 1 ∨ p = 2 ∨ p = 3 ∨ p = 4 ∨ p = 5 ∨ p = 6 ∨ p = 7 ∨ p = 8 by omega) with rfl | rfl | rfl | rfl | rfl | rfl | rfl | rfl | rfl <;> rcases (show k = 0 ∨ k = 1 ∨ k = 2 by omega) with rfl | rfl | rfl <;> simp [hH, xH, z0, z3, z4, z6, z7, z8, hq, e1, e2, e5, f1, f2, f3, f5] <;> omega
   ·rcases (show p = 0 ∨ p = 1 ∨ p = 2 ∨ p = 3 ∨ p = 4 ∨ p = 5 ∨ p = 6 ∨ p = 7 ∨ p = 8 by omega) with rfl | rfl | rfl | rfl | rfl | rfl | rfl | rfl | rfl <;> simp [hH, xH, uni, z0, z3, z4, z6, z7, z8, hq, e1, e2, e5, f2, g2] <;> omega
 obtain ⟨k1, k2, k3⟩ := key
 obtain ⟨r1, r2⟩ := hor_half (termZ (WZ a) n) (xH a n) (n - 1) (n * n) y (by omega) T k1 k2 (n - 1) (Nat.le_refl _)
 refine ⟨fun p hp => ?_, ?_⟩
 ·show horZ (termZ (WZ a) n) (n - 1) (y * 4294967296) (n - 1) p = _
  rw [r1 p hp, k3 p hp]
 ·show (termC (WZ a) n (n - 1) || horC (termZ (WZ a) n) (n - 1) (y * 4294967296) (n * n) (n - 1)) = false
  rw [TC, r2]
  rfl
theorem flow_mul (a : Nat → Int) (n : Nat) (hn : 1 ≤ n ∧ n ≤ 3) (h : UpW 9 n a) (s t : Int) (hs : -100 ≤ s ∧ s ≤ 100) (ht : -100 ≤ t ∧ t ≤ 100) :
  (∀ p, p < n * n → mulZ (flowZ (WZ a) n (s * 4294967296)) (flowZ (WZ a) n (t * 4294967296)) n n p = flowZ (WZ a) n ((s + t) * 4294967296) p) ∧ ∀ p, p < n * n → mulG (flowZ (WZ a) n (s * 4294967296)) (flowZ (WZ a) n (t * 4294967296)) n n p = false := by
 by_cases h3 : n = 3
 ·subst h3
  have b1 := h.1 1 (by omega)
  have b2 := h.1 2 (by omega)
  have b5 := h.1 5 (by omega)
  have m15 := mul_bound (a 1) (a 5) 9 9 b1 b5
  have ss := mul_bound s s 100 100 hs hs
  have tt := mul_bound t t 100 100 ht ht
  have w1 := mul_bound (a 1) s 9 100 b1 hs
  have w2 := mul_bound (a 2) s 9 100 b2 hs
  have w5 := mul_bound (a 5) s 9 100 b5 hs
  have v1 := mul_bound (a 1) t 9 100 b1 ht
  have v2 := mul_bound (a 2) t 9 100 b2 ht
  have v5 := mul_bound (a 5) t 9 100 b5 ht
  have q1 := mul_bound (a 1 * a 5) (s * s) 81 10000 m15 ss
  have q2 := mul_bound (a 1 * a 5) (t * t) 81 10000 m15 tt
  obtain ⟨r1, r2⟩ := uni_mul 3 hn (flowZ (WZ a) 3 (s * 4294967296)) (flowZ (WZ a) 3 (t * 4294967296)) _ _ _ _ _ _ (2 * (a 1 * s * (a 5 * t))) (flow_uni a 3 hn h s (by omega)).1 (flow_uni a 3 hn h t (by omega)).1 (by omega) (by omega) (by omega) (by omega) (by omega) (by omega) (by grind)
  refine ⟨fun p hp => ?_, r2⟩
  rw [r1 p hp, (flow_uni a 3 hn h (s + t) (by omega)).1 p hp]
  have e1 : 2 * (a 1 * s) + 2 * (a 1 * t) = 2 * (a 1 * (s + t)) := by grind
  have e2 : 2 * (a 2 * s) + a 1 * a 5 * (s * s) + (2 * (a 2 * t) + a 1 * a 5 * (t * t)) + 2 * (a 1 * s * (a 5 * t)) = 2 * (a 2 * (s + t)) + a 1 * a 5 * ((s + t) * (s + t)) := by grind
  have e5 : 2 * (a 5 * s) + 2 * (a 5 * t) = 2 * (a 5 * (s + t)) := by grind
  rw [e1, e2, e5]
 ·have uc : ∀ b c d p, uni n b c d p = uni n b 0 0 p := fun b c d p => by
   unfold uni
   simp [h3]
  have fs : ∀ y, -200 ≤ y ∧ y ≤ 200 → ∀ p, p < n * n → flowZ (WZ a) n (y * 4294967296) p = uni n (2 * ((if n = 2 then a 1 else 0) * y)) 0 0 p * 2147483648 := fun y hy p hp => by
   rw [(flow_uni a n hn h y hy).1 p hp, uc]
   by_cases h2 : n = 2
   ·rw [if_pos h2]
   ·rw [if_neg h2]
    obtain rfl : n = 1 := by omega
    obtain rfl : p = 0 := by omega
    simp [uni]
  have bb : -9 ≤ (if n = 2 then a 1 else 0) ∧ (if n = 2 then a 1 else 0) ≤ 9 := by
   split
   ·rename_i h2
    subst h2
    exact h.1 1 (by omega)
   ·omega
  generalize (if n = 2 then a 1 else 0) = b at *
  have w1 := mul_bound b s 9 100 bb hs
  have v1 := mul_bound b t 9 100 bb ht
  obtain ⟨r1, r2⟩ := uni_mul n hn (flowZ (WZ a) n (s * 4294967296)) (flowZ (WZ a) n (t * 4294967296)) _ _ _ _ _ _ 0 (fs s (by omega)) (fs t (by omega)) (by omega) (by omega) (by omega) (by omega) (by omega) (by omega) (by omega)
  refine ⟨fun p hp => ?_, r2⟩
  rw [r1 p hp, fs (s + t) (by omega) p hp, Int.mul_add b, Int.mul_add]
  rfl
end Go.Proofs.Wd
namespace Go.Proofs.YtjobgjcfkomhpaaGreat
open Go.RowKit Go.Proofs.Wd
set_option maxRecDepth 10000
theorem tmod_of (x n : Int) (hn : 0 < n) : (0 ≤ x.tmod n → x.tmod n = x % n) ∧ (x.tmod n < 0 → x.tmod n + n = x % n) ∧ -n < x.tmod n ∧ x.tmod n < n := by
 have e := @Int.tmod_eq_emod x n
 have h1 := Int.emod_nonneg x (show n ≠ 0 by omega)
 have h2 := Int.emod_lt_of_pos x hn
 have h3 : (n.natAbs : Int) = n := by omega
 rw [e]
 split <;> omega
theorem wrap_id (y : Int) (h : -9223372036854775808 ≤ y ∧ y ≤ 9223372036854775807) : wrap64 y = y := by
 unfold wrap64
 omega
set_option maxHeartbeats 1000000 in
theorem kitPick (x n : Int) (hx : I64 x) (hn : 0 < n ∧ n ≤ 4611686018427387904) (w : World) : Calls Tryz.prog 27 #[.int .i64 x, .int .i64 n] w fun e w' => e = .returned (.int .i64 (x % n)) ∧ Kp w w' := by
 obtain ⟨h0, h1⟩ := hn
 have c0 : ¬ n ≤ 0 := by omega
 have T := hide (tmod_of x n h0)
 unfold I64 at hx
 go_enter Tryz.func27, Tryz.ntmps27
 go_wp2
 ·rename_i hh
  go_ret
  exact ⟨congrArg (fun v => Ending.returned (Value.int .i64 v)) ((wrap_id _ (by have := unhide T; omega)).trans ((unhide T).2.1 hh)), Kp.refl _⟩
 ·rename_i hh
  go_ret
  exact ⟨congrArg (fun v => Ending.returned (Value.int .i64 v)) ((unhide T).1 hh), Kp.refl _⟩
end Go.Proofs.YtjobgjcfkomhpaaGreat
