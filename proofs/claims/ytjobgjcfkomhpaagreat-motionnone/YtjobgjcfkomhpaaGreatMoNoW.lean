/- MoNo, as far as MoFour wants it. -/
import Derived.Test.YtjobgjcfkomhpaaGreatMoFourT4
import Derived.Test.YtjobgjcfkomhpaaGreatMdlLW
set_option linter.unusedVariables false
set_option linter.unusedSimpArgs false
namespace Go.Proofs.YtjobgjcfkomhpaaGreat
open Go.RowKit Go.Shelf Go.Proofs.Wd
set_option maxRecDepth 10000
def NMo (w : World) (U Mb : Nat) (m : DV) (wx : World) : Prop := NB U false wx ∧ Blk (U + 1) #[.pointer none, .pointer (some ⟨U, 0, none⟩)] 26 wx ∧ Blk Mb m.cells 25 wx ∧ Kp w wx
theorem NMo.kp {w : World} {U Mb : Nat} {m : DV} {wx w' : World} (h : NMo w U Mb m wx) (g : Kp wx w') : NMo w U Mb m w' := ⟨Blk.kp h.1 g, Blk.kp h.2.1 g, Blk.kp h.2.2.1 g, h.2.2.2.trans g⟩
theorem NMo.at {w : World} {U Mb : Nat} {m : DV} {wx : World} (h : NMo w U Mb m wx) (k : Nat) (hk : k < 2) : ∃ p, wx.cell? ⟨U + 1, k, none⟩ = some (.pointer p) ∧ NU p wx := by
 rcases (show k = 0 ∨ k = 1 by omega) with rfl | rfl
 ·exact ⟨none, Blk.cell h.2.1 0, Or.inl rfl⟩
 ·exact ⟨_, Blk.cell h.2.1 1, Or.inr ⟨U, false, rfl, h.1⟩⟩
set_option maxRecDepth 50000 in
set_option maxHeartbeats 16000000 in
theorem lawMotionNone (m : DV) (ticks : Int) (hI : I64 ticks) (w : World) (hm : m.okIn w) :
  Calls Tryz.prog 5 #[.agg m.cells, .int .i64 ticks] w fun e w' => e = .returned (.bool true) ∧ Kp w w' := by
 unfold DV.cells
 have S0 : Hid (Kp w (w.alloc (.cells #[.int .i64 m.N, .slice m.A.ao m.A.len m.A.cap, .slice m.Q.ao m.Q.len m.Q.cap, .int .i64 m.tick, .int .i64 m.gate, .int .i64 m.rmin, .slice m.ro m.rl m.rc] 25)) ∧ Blk w.heap.size m.cells 25 (w.alloc (.cells #[.int .i64 m.N, .slice m.A.ao m.A.len m.A.cap, .slice m.Q.ao m.Q.len m.Q.cap, .int .i64 m.tick, .int .i64 m.gate, .int .i64 m.rmin, .slice m.ro m.rl m.rc] 25))) := ⟨(Kp.refl _).alloc _ _, Blk.new w _ _⟩
 obtain ⟨y0, y1, y2, y3, y4, y5, y6⟩ := ((unhide S0).2).cellsM
 have HM := hide hm
 clear hm
 go_enter Tryz.func5, Tryz.ntmps5
 go_wp2_with fail
 generalize (w.alloc (.cells #[.int .i64 m.N, .slice m.A.ao m.A.len m.A.cap, .slice m.Q.ao m.Q.len m.Q.cap, .int .i64 m.tick, .int .i64 m.gate, .int .i64 m.rmin, .slice m.ro m.rl m.rc] 25)) = w1 at *
 refine (kitLongM m w1 ((unhide HM).rvs.kp (unhide S0).1)).mono ?_
 rintro e w2 ⟨r, rfl, g1, hs⟩
 have S2 : Hid (Kp w w2 ∧ Blk w.heap.size m.cells 25 w2) := ⟨(unhide S0).1.grown g1, Blk.grown (unhide S0).2 g1⟩
 clear g1 hs S0 y0 y1 y2 y3 y4 y5 y6 HM
 cases r with
 | true =>
  go_wp2_with fail
  refine (lawAwake11 _).mono ?_
  rintro e wz ⟨rfl, kz⟩
  have KZ := hide ((unhide S2).1.trans kz)
  clear kz S2
  go_wp2
  go_ret
  exact ⟨rfl, unhide KZ⟩
 | false =>
  have S3 : Hid (NMo w w2.heap.size w.heap.size m ((w2.alloc (.cells #[.bool false, .bool false, .int .i64 0] 46)).alloc (.cells #[.pointer none, .pointer (some ⟨w2.heap.size, 0, none⟩)] 26))) := by
   have g3 : Grown w2 ((w2.alloc (.cells #[.bool false, .bool false, .int .i64 0] 46)).alloc (.cells #[.pointer none, .pointer (some ⟨w2.heap.size, 0, none⟩)] 26)) := ((Grown.refl _).alloc _ _).alloc _ _
   exact ⟨Blk.grown (Blk.new w2 _ _) ((Grown.refl _).alloc _ _), blk_new2 _ _ _ _, Blk.grown (unhide S2).2 g3, (unhide S2).1.grown g3⟩
  clear S2
  go_wp2_with fail
  generalize ((w2.alloc (.cells #[.bool false, .bool false, .int .i64 0] 46)).alloc (.cells #[.pointer none, .pointer (some ⟨w2.heap.size, 0, none⟩)] 26)) = w3 at *
  generalize w2.heap.size = U at *
  obtain ⟨Mb, hMb⟩ : ∃ Mb, w.heap.size = Mb := ⟨_, rfl⟩
  rw [hMb] at S3
  rw [hMb]
  clear hMb
  go_loopw [6] (fun i wr => ∃ k : Nat, k ≤ 2 ∧ i = .int .i64 k ∧ Hid (NMo w U Mb m wr)) (fun i _ => 2 - (intOf i).toNat)
  case atStart => exact ⟨0, by omega, rfl, unhide S3⟩
  case round =>
   obtain ⟨k, hk, rfl, HI⟩ := hrel
   by_cases hlt : k < 2
   ·obtain ⟨p, cp, np⟩ := (unhide HI).at k hlt
    have SB : Hid (NMo w U Mb m wr ∧ wr.cell? ⟨U + 1, k, none⟩ = some (.pointer p) ∧ NU p wr) := ⟨unhide HI, cp, np⟩
    have i0 : (0 : Int) ≤ (k : Int) := by omega
    have i1 : (k : Int) < 2 := by omega
    clear np cp HI S3
    have KC : Hid (∀ wx, Kp wr wx → wx.cell? ⟨U + 1, k, none⟩ = some (.pointer p)) := fun wx kk => kk.cell (unhide SB).2.1
    have CM : Hid (∀ wx, Kp wr wx → wx.cell? ⟨Mb, 0, none⟩ = some (.int .i64 m.N) ∧ wx.cell? ⟨Mb, 1, none⟩ = some (.slice m.A.ao m.A.len m.A.cap) ∧ wx.cell? ⟨Mb, 2, none⟩ = some (.slice m.Q.ao m.Q.len m.Q.cap) ∧ wx.cell? ⟨Mb, 3, none⟩ = some (.int .i64 m.tick) ∧ wx.cell? ⟨Mb, 4, none⟩ = some (.int .i64 m.gate) ∧ wx.cell? ⟨Mb, 5, none⟩ = some (.int .i64 m.rmin) ∧ wx.cell? ⟨Mb, 6, none⟩ = some (.slice m.ro m.rl m.rc)) := fun wx kk => (Blk.kp (unhide SB).1.2.2.1 kk).cellsM
    have KD : Hid (Kp wr wr.drew) := Kp.of ((Grown.refl _).drew)
    have hHeld0 : wr.drew.cell? ⟨U + 1, k, none⟩ = some (.pointer p) ∧ wr.drew.cell? ⟨Mb, 0, none⟩ = some (.int .i64 m.N) ∧ wr.drew.cell? ⟨Mb, 1, none⟩ = some (.slice m.A.ao m.A.len m.A.cap) ∧ wr.drew.cell? ⟨Mb, 2, none⟩ = some (.slice m.Q.ao m.Q.len m.Q.cap) ∧ wr.drew.cell? ⟨Mb, 3, none⟩ = some (.int .i64 m.tick) ∧ wr.drew.cell? ⟨Mb, 4, none⟩ = some (.int .i64 m.gate) ∧ wr.drew.cell? ⟨Mb, 5, none⟩ = some (.int .i64 m.rmin) ∧ wr.drew.cell? ⟨Mb, 6, none⟩ = some (.slice m.ro m.rl m.rc) := ⟨unhide KC _ (unhide KD), unhide CM _ (unhide KD)⟩
    go_wp2_with fail
    refine region_G (fun w' => w'.cell? ⟨U + 1, k, none⟩ = some (.pointer p) ∧ w'.cell? ⟨Mb, 0, none⟩ = some (.int .i64 m.N) ∧ w'.cell? ⟨Mb, 1, none⟩ = some (.slice m.A.ao m.A.len m.A.cap) ∧ w'.cell? ⟨Mb, 2, none⟩ = some (.slice m.Q.ao m.Q.len m.Q.cap) ∧ w'.cell? ⟨Mb, 3, none⟩ = some (.int .i64 m.tick) ∧ w'.cell? ⟨Mb, 4, none⟩ = some (.int .i64 m.gate) ∧ w'.cell? ⟨Mb, 5, none⟩ = some (.int .i64 m.rmin) ∧ w'.cell? ⟨Mb, 6, none⟩ = some (.slice m.ro m.rl m.rc)) 11 (by kernel_rfl) hHeld0 (fun hHeld => ?_)
    clear hHeld0
    refine take_G (i := 0) (d := 26) (v := .slice (some ⟨U + 1, 0, none⟩) 2 2) rfl rfl (by kernel_rfl) (by kernel_rfl) (by kernel_rfl) (by kernel_rfl) (by kernel_rfl) (Or.inl ⟨by rfl, ?_⟩) hHeld ?_
    ·intro wS hSw
     obtain ⟨z, z0, z1, z2, z3, z4, z5, z6⟩ := hSw
     clear hHeld
     go_simp
    (try simp only [Act.put, List.setIfInBounds_toArray, List.set_cons_zero, List.set_cons_succ])
    refine take_G (i := 1) (d := 27) (v := .int .i64 (k : Int)) rfl rfl (by kernel_rfl) (by kernel_rfl) (by kernel_rfl) (by kernel_rfl) (by kernel_rfl) (Or.inl ⟨by rfl, ?_⟩) hHeld ?_
    ·intro wS hSw
     obtain ⟨z, z0, z1, z2, z3, z4, z5, z6⟩ := hSw
     clear hHeld
     go_simp
    (try simp only [Act.put, List.setIfInBounds_toArray, List.set_cons_zero, List.set_cons_succ])
    refine take_G (i := 2) (d := 28) (v := .pointer (some ⟨U + 1, k, none⟩)) rfl rfl (by kernel_rfl) (by kernel_rfl) (by kernel_rfl) (by kernel_rfl) (by kernel_rfl) (Or.inl ⟨by rfl, ?_⟩) hHeld ?_
    ·intro wS hSw
     obtain ⟨z, z0, z1, z2, z3, z4, z5, z6⟩ := hSw
     clear hHeld
     go_simp
    (try simp only [Act.put, List.setIfInBounds_toArray, List.set_cons_zero, List.set_cons_succ])
    refine take_G (i := 3) (d := 29) (v := .pointer p) rfl rfl (by kernel_rfl) (by kernel_rfl) (by kernel_rfl) (by kernel_rfl) (by kernel_rfl) (Or.inl ⟨by rfl, ?_⟩) hHeld ?_
    ·intro wS hSw
     obtain ⟨z, z0, z1, z2, z3, z4, z5, z6⟩ := hSw
     clear hHeld
     go_simp
    (try simp only [Act.put, List.setIfInBounds_toArray, List.set_cons_zero, List.set_cons_succ])
    refine take_G (i := 4) (d := 30) (v := .agg #[.int .i64 m.N, .slice m.A.ao m.A.len m.A.cap, .slice m.Q.ao m.Q.len m.Q.cap, .int .i64 m.tick, .int .i64 m.gate, .int .i64 m.rmin, .slice m.ro m.rl m.rc]) rfl rfl (by kernel_rfl) (by kernel_rfl) (by kernel_rfl) (by kernel_rfl) (by kernel_rfl) (Or.inl ⟨by rfl, ?_⟩) hHeld ?_
    ·intro wS hSw
     obtain ⟨z, z0, z1, z2, z3, z4, z5, z6⟩ := hSw
     clear hHeld
     go_simp
    (try simp only [Act.put, List.setIfInBounds_toArray, List.set_cons_zero, List.set_cons_succ])
    refine take_G (i := 5) (d := 31) (v := .int .i64 ticks) rfl rfl (by kernel_rfl) (by kernel_rfl) (by kernel_rfl) (by kernel_rfl) (by kernel_rfl) (Or.inl ⟨by rfl, ?_⟩) hHeld ?_
    ·intro wS hSw
     obtain ⟨z, z0, z1, z2, z3, z4, z5, z6⟩ := hSw
     clear hHeld
     go_simp
    (try simp only [Act.put, List.setIfInBounds_toArray, List.set_cons_zero, List.set_cons_succ])
    refine step_G (i := 6) (by kernel_rfl) (fun K hK => ?_)
    refine wpOp_of rfl rfl ?_
    unfold Oper.wp
    go_simp
    refine (moSpan_none p m ticks wr.drew ((unhide SB).2.2.kp (unhide KD))).mono ?_
    rintro e w4 ⟨rfl, g4⟩
    have K4 : Hid (Kp wr w4) := (unhide KD).grown g4
    have hHeld4 : w4.cell? ⟨U + 1, k, none⟩ = some (.pointer p) ∧ w4.cell? ⟨Mb, 0, none⟩ = some (.int .i64 m.N) ∧ w4.cell? ⟨Mb, 1, none⟩ = some (.slice m.A.ao m.A.len m.A.cap) ∧ w4.cell? ⟨Mb, 2, none⟩ = some (.slice m.Q.ao m.Q.len m.Q.cap) ∧ w4.cell? ⟨Mb, 3, none⟩ = some (.int .i64 m.tick) ∧ w4.cell? ⟨Mb, 4, none⟩ = some (.int .i64 m.gate) ∧ w4.cell? ⟨Mb, 5, none⟩ = some (.int .i64 m.rmin) ∧ w4.cell? ⟨Mb, 6, none⟩ = some (.slice m.ro m.rl m.rc) := ⟨unhide KC _ (unhide K4), unhide CM _ (unhide K4)⟩
    refine hK _ _ (fun _ => hHeld4) ?_
    clear hK K g4 hHeld
    have hHeld := hHeld4
    clear hHeld4
    (try simp only [Act.put, List.setIfInBounds_toArray, List.set_cons_zero, List.set_cons_succ])
    refine take_G (i := 7) (d := 25) (v := .tuple #[.int .i64 0, .int .i64 1]) rfl rfl (by kernel_rfl) (by kernel_rfl) (by kernel_rfl) (by kernel_rfl) (by kernel_rfl) (Or.inl ⟨by rfl, ?_⟩) hHeld ?_
    ·intro wS hSw
     obtain ⟨z, z0, z1, z2, z3, z4, z5, z6⟩ := hSw
     clear hHeld
     go_simp
    (try simp only [Act.put, List.setIfInBounds_toArray, List.set_cons_zero, List.set_cons_succ])
    refine take_G (i := 8) (d := 33) (v := .int .i64 0) rfl rfl (by kernel_rfl) (by kernel_rfl) (by kernel_rfl) (by kernel_rfl) (by kernel_rfl) (Or.inl ⟨by rfl, ?_⟩) hHeld ?_
    ·intro wS hSw
     obtain ⟨z, z0, z1, z2, z3, z4, z5, z6⟩ := hSw
     clear hHeld
     go_simp
    (try simp only [Act.put, List.setIfInBounds_toArray, List.set_cons_zero, List.set_cons_succ])
    refine take_G (i := 9) (d := 34) (v := .int .i64 1) rfl rfl (by kernel_rfl) (by kernel_rfl) (by kernel_rfl) (by kernel_rfl) (by kernel_rfl) (Or.inl ⟨by rfl, ?_⟩) hHeld ?_
    ·intro wS hSw
     obtain ⟨z, z0, z1, z2, z3, z4, z5, z6⟩ := hSw
     clear hHeld
     go_simp
    (try simp only [Act.put, List.setIfInBounds_toArray, List.set_cons_zero, List.set_cons_succ])
    refine step_G (i := 10) (by kernel_rfl) (fun K hK => ?_)
    refine wpOp_of rfl rfl ?_
    unfold Oper.wp
    go_simp
    refine hK _ _ (fun _ => hHeld) ?_
    clear hK K
    (try simp only [Act.put, List.setIfInBounds_toArray, List.set_cons_zero, List.set_cons_succ])
    refine step_G (i := 11) (by kernel_rfl) (fun K hK => ?_)
    refine wpOp_of rfl rfl ?_
    unfold Oper.wp
    go_simp
    refine hK _ _ (fun h => absurd rfl h) ?_
    clear hK K hHeld
    (try simp only [Act.put, List.setIfInBounds_toArray, List.set_cons_zero, List.set_cons_succ])
    refine done_G (by kernel_rfl) ?_
    refine noPanic_normalE ?_
    have SB4 : Hid (NMo w U Mb m w4 ∧ w4.cell? ⟨U + 1, k, none⟩ = some (.pointer p) ∧ NU p w4) := ⟨(unhide SB).1.kp (unhide K4), (unhide K4).cell (unhide SB).2.1, (unhide SB).2.2.kp (unhide K4)⟩
    clear SB KC CM KD K4
    have SB := SB4
    clear SB4
    have KC : Hid (∀ wx, Kp w4 wx → wx.cell? ⟨U + 1, k, none⟩ = some (.pointer p)) := fun wx kk => kk.cell (unhide SB).2.1
    have CM : Hid (∀ wx, Kp w4 wx → wx.cell? ⟨Mb, 0, none⟩ = some (.int .i64 m.N) ∧ wx.cell? ⟨Mb, 1, none⟩ = some (.slice m.A.ao m.A.len m.A.cap) ∧ wx.cell? ⟨Mb, 2, none⟩ = some (.slice m.Q.ao m.Q.len m.Q.cap) ∧ wx.cell? ⟨Mb, 3, none⟩ = some (.int .i64 m.tick) ∧ wx.cell? ⟨Mb, 4, none⟩ = some (.int .i64 m.gate) ∧ wx.cell? ⟨Mb, 5, none⟩ = some (.int .i64 m.rmin) ∧ wx.cell? ⟨Mb, 6, none⟩ = some (.slice m.ro m.rl m.rc)) := fun wx kk => (Blk.kp (unhide SB).1.2.2.1 kk).cellsM
    have NK : Hid (∀ wx, Kp w4 wx → NU p wx) := fun wx kk => (unhide SB).2.2.kp kk
    have KD : Hid (Kp w4 w4.drew) := Kp.of ((Grown.refl _).drew)
    have hHeld0 : w4.drew.cell? ⟨U + 1, k, none⟩ = some (.pointer p) ∧ w4.drew.cell? ⟨Mb, 0, none⟩ = some (.int .i64 m.N) ∧ w4.drew.cell? ⟨Mb, 1, none⟩ = some (.slice m.A.ao m.A.len m.A.cap) ∧ w4.drew.cell? ⟨Mb, 2, none⟩ = some (.slice m.Q.ao m.Q.len m.Q.cap) ∧ w4.drew.cell? ⟨Mb, 3, none⟩ = some (.int .i64 m.tick) ∧ w4.drew.cell? ⟨Mb, 4, none⟩ = some (.int .i64 m.gate) ∧ w4.drew.cell? ⟨Mb, 5, none⟩ = some (.int .i64 m.rmin) ∧ w4.drew.cell? ⟨Mb, 6, none⟩ = some (.slice m.ro m.rl m.rc) := ⟨unhide KC _ (unhide KD), unhide CM _ (unhide KD)⟩
    go_wp2_with fail
    go_cut [9, 10] (fun x e wx => (∃ b, x = .pointer (some ⟨b, 0, none⟩)) ∧ e = .int .i64 1 ∧ Hid (Kp w4 wx))
    case first =>
     refine region_G (fun w' => w'.cell? ⟨U + 1, k, none⟩ = some (.pointer p) ∧ w'.cell? ⟨Mb, 0, none⟩ = some (.int .i64 m.N) ∧ w'.cell? ⟨Mb, 1, none⟩ = some (.slice m.A.ao m.A.len m.A.cap) ∧ w'.cell? ⟨Mb, 2, none⟩ = some (.slice m.Q.ao m.Q.len m.Q.cap) ∧ w'.cell? ⟨Mb, 3, none⟩ = some (.int .i64 m.tick) ∧ w'.cell? ⟨Mb, 4, none⟩ = some (.int .i64 m.gate) ∧ w'.cell? ⟨Mb, 5, none⟩ = some (.int .i64 m.rmin) ∧ w'.cell? ⟨Mb, 6, none⟩ = some (.slice m.ro m.rl m.rc)) 12 (by kernel_rfl) hHeld0 (fun hHeld => ?_)
     clear hHeld0
     refine take_G (i := 0) (d := 36) (v := .slice (some ⟨U + 1, 0, none⟩) 2 2) rfl rfl (by kernel_rfl) (by kernel_rfl) (by kernel_rfl) (by kernel_rfl) (by kernel_rfl) (Or.inl ⟨by rfl, ?_⟩) hHeld ?_
     ·intro wS hSw
      obtain ⟨z, z0, z1, z2, z3, z4, z5, z6⟩ := hSw
      clear hHeld
      go_simp
     (try simp only [Act.put, List.setIfInBounds_toArray, List.set_cons_zero, List.set_cons_succ])
     refine take_G (i := 1) (d := 37) (v := .int .i64 (k : Int)) rfl rfl (by kernel_rfl) (by kernel_rfl) (by kernel_rfl) (by kernel_rfl) (by kernel_rfl) (Or.inl ⟨by rfl, ?_⟩) hHeld ?_
     ·intro wS hSw
      obtain ⟨z, z0, z1, z2, z3, z4, z5, z6⟩ := hSw
      clear hHeld
      go_simp
     (try simp only [Act.put, List.setIfInBounds_toArray, List.set_cons_zero, List.set_cons_succ])
     refine take_G (i := 2) (d := 38) (v := .pointer (some ⟨U + 1, k, none⟩)) rfl rfl (by kernel_rfl) (by kernel_rfl) (by kernel_rfl) (by kernel_rfl) (by kernel_rfl) (Or.inl ⟨by rfl, ?_⟩) hHeld ?_
     ·intro wS hSw
      obtain ⟨z, z0, z1, z2, z3, z4, z5, z6⟩ := hSw
      clear hHeld
      go_simp
     (try simp only [Act.put, List.setIfInBounds_toArray, List.set_cons_zero, List.set_cons_succ])
     refine take_G (i := 3) (d := 39) (v := .pointer p) rfl rfl (by kernel_rfl) (by kernel_rfl) (by kernel_rfl) (by kernel_rfl) (by kernel_rfl) (Or.inl ⟨by rfl, ?_⟩) hHeld ?_
     ·intro wS hSw
      obtain ⟨z, z0, z1, z2, z3, z4, z5, z6⟩ := hSw
      clear hHeld
      go_simp
     (try simp only [Act.put, List.setIfInBounds_toArray, List.set_cons_zero, List.set_cons_succ])
     refine take_G (i := 4) (d := 40) (v := .agg #[.int .i64 m.N, .slice m.A.ao m.A.len m.A.cap, .slice m.Q.ao m.Q.len m.Q.cap, .int .i64 m.tick, .int .i64 m.gate, .int .i64 m.rmin, .slice m.ro m.rl m.rc]) rfl rfl (by kernel_rfl) (by kernel_rfl) (by kernel_rfl) (by kernel_rfl) (by kernel_rfl) (Or.inl ⟨by rfl, ?_⟩) hHeld ?_
     ·intro wS hSw
      obtain ⟨z, z0, z1, z2, z3, z4, z5, z6⟩ := hSw
      clear hHeld
      go_simp
     (try simp only [Act.put, List.setIfInBounds_toArray, List.set_cons_zero, List.set_cons_succ])
     refine take_G (i := 5) (d := 41) (v := .int .i64 ticks) rfl rfl (by kernel_rfl) (by kernel_rfl) (by kernel_rfl) (by kernel_rfl) (by kernel_rfl) (Or.inl ⟨by rfl, ?_⟩) hHeld ?_
     ·intro wS hSw
      obtain ⟨z, z0, z1, z2, z3, z4, z5, z6⟩ := hSw
      clear hHeld
      go_simp
     (try simp only [Act.put, List.setIfInBounds_toArray, List.set_cons_zero, List.set_cons_succ])
     refine two_G (i := 6) (j := 10) (by kernel_rfl) (fun K hK => ?_) (fun K hK => ?_)
     ·refine wpOp_of rfl rfl ?_
      unfold Oper.wp
      go_simp
      refine (moFlow_none p m ticks (fun _ => 0) w4.drew (unhide NK _ (unhide KD))).mono ?_
      rintro e w6 ⟨a6, c6, _, rfl, _, _, _, k6⟩
      have K6 : Hid (Kp w4 w6) := (unhide KD).trans k6
      have hHeld6 : w6.cell? ⟨U + 1, k, none⟩ = some (.pointer p) ∧ w6.cell? ⟨Mb, 0, none⟩ = some (.int .i64 m.N) ∧ w6.cell? ⟨Mb, 1, none⟩ = some (.slice m.A.ao m.A.len m.A.cap) ∧ w6.cell? ⟨Mb, 2, none⟩ = some (.slice m.Q.ao m.Q.len m.Q.cap) ∧ w6.cell? ⟨Mb, 3, none⟩ = some (.int .i64 m.tick) ∧ w6.cell? ⟨Mb, 4, none⟩ = some (.int .i64 m.gate) ∧ w6.cell? ⟨Mb, 5, none⟩ = some (.int .i64 m.rmin) ∧ w6.cell? ⟨Mb, 6, none⟩ = some (.slice m.ro m.rl m.rc) := ⟨unhide KC _ (unhide K6), unhide CM _ (unhide K6)⟩
      refine hK _ _ (fun _ => hHeld6) ?_
      clear hK K k6 hHeld
      have hHeld := hHeld6
      clear hHeld6
      (try simp only [Act.put, List.setIfInBounds_toArray, List.set_cons_zero, List.set_cons_succ])
      refine take_G (i := 7) (d := 35) (v := .tuple #[.agg #[.int .i64 0, .int .i64 0, .slice a6 0 c6], .int .i64 1]) rfl rfl (by kernel_rfl) (by kernel_rfl) (by kernel_rfl) (by kernel_rfl) (by kernel_rfl) (Or.inl ⟨by rfl, ?_⟩) hHeld ?_
      ·intro wS hSw
       obtain ⟨z, z0, z1, z2, z3, z4, z5, z6⟩ := hSw
       clear hHeld
       go_simp
      (try simp only [Act.put, List.setIfInBounds_toArray, List.set_cons_zero, List.set_cons_succ])
      refine take_G (i := 8) (d := 43) (v := .agg #[.int .i64 0, .int .i64 0, .slice a6 0 c6]) rfl rfl (by kernel_rfl) (by kernel_rfl) (by kernel_rfl) (by kernel_rfl) (by kernel_rfl) (Or.inl ⟨by rfl, ?_⟩) hHeld ?_
      ·intro wS hSw
       obtain ⟨z, z0, z1, z2, z3, z4, z5, z6⟩ := hSw
       clear hHeld
       go_simp
      (try simp only [Act.put, List.setIfInBounds_toArray, List.set_cons_zero, List.set_cons_succ])
      refine take_G (i := 9) (d := 44) (v := .int .i64 1) rfl rfl (by kernel_rfl) (by kernel_rfl) (by kernel_rfl) (by kernel_rfl) (by kernel_rfl) (Or.inl ⟨by rfl, ?_⟩) hHeld ?_
      ·intro wS hSw
       obtain ⟨z, z0, z1, z2, z3, z4, z5, z6⟩ := hSw
       clear hHeld
       go_simp
      (try simp only [Act.put, List.setIfInBounds_toArray, List.set_cons_zero, List.set_cons_succ])
      refine step_G (i := 10) (by kernel_rfl) (fun K hK => ?_)
      refine wpOp_of rfl rfl ?_
      unfold Oper.wp
      go_simp
      have BZ : Hid (Blk w6.heap.size #[.int .i64 0, .int .i64 0, .slice none 0 0] 38 (w6.alloc (.cells #[.int .i64 0, .int .i64 0, .slice none 0 0] 38))) := Blk.new _ _ _
      have KX : Hid (Kp w4 (w6.alloc (.cells #[.int .i64 0, .int .i64 0, .slice none 0 0] 38)) ∧ w4.heap.size ≤ w6.heap.size) := ⟨(unhide K6).alloc _ _, (unhide K6).2.2.2⟩
      generalize (w6.alloc (.cells #[.int .i64 0, .int .i64 0, .slice none 0 0] 38)) = w7 at *
      generalize w6.heap.size = L6 at *
      have hHeld7 : w7.cell? ⟨U + 1, k, none⟩ = some (.pointer p) ∧ w7.cell? ⟨Mb, 0, none⟩ = some (.int .i64 m.N) ∧ w7.cell? ⟨Mb, 1, none⟩ = some (.slice m.A.ao m.A.len m.A.cap) ∧ w7.cell? ⟨Mb, 2, none⟩ = some (.slice m.Q.ao m.Q.len m.Q.cap) ∧ w7.cell? ⟨Mb, 3, none⟩ = some (.int .i64 m.tick) ∧ w7.cell? ⟨Mb, 4, none⟩ = some (.int .i64 m.gate) ∧ w7.cell? ⟨Mb, 5, none⟩ = some (.int .i64 m.rmin) ∧ w7.cell? ⟨Mb, 6, none⟩ = some (.slice m.ro m.rl m.rc) := ⟨unhide KC _ (unhide KX).1, unhide CM _ (unhide KX).1⟩
      refine hK _ _ (fun _ => hHeld7) ?_
      clear hK K hHeld hHeld7 K6
      (try simp only [Act.put, List.setIfInBounds_toArray, List.set_cons_zero, List.set_cons_succ])
      have r0 : w7.cell? ⟨L6, 0, none⟩ = some (.int .i64 0) := Blk.cell (unhide BZ) 0
      have r1 : w7.cell? ⟨L6, 1, none⟩ = some (.int .i64 0) := Blk.cell (unhide BZ) 1
      have r2 : w7.cell? ⟨L6, 2, none⟩ = some (.slice none 0 0) := Blk.cell (unhide BZ) 2
      have f := Blk.free (unhide BZ)
      refine step_G (i := 11) (by kernel_rfl) (fun K hK => ?_)
      refine wpOp_of rfl rfl ?_
      unfold Oper.wp
      go_simp
      have PM := putM (unhide BZ) (.int .i64 0) (.int .i64 0) (.slice a6 0 c6)
      have NE : Hid (Kp w4 ((((w7).setCell ⟨L6, 0, none⟩ (.int .i64 0)).setCell ⟨L6, 1, none⟩ (.int .i64 0)).setCell ⟨L6, 2, none⟩ (.slice a6 0 c6))) := (unhide KX).1.mod PM.2 (unhide KX).2
      have hHeld : ((((w7).setCell ⟨L6, 0, none⟩ (.int .i64 0)).setCell ⟨L6, 1, none⟩ (.int .i64 0)).setCell ⟨L6, 2, none⟩ (.slice a6 0 c6)).cell? ⟨U + 1, k, none⟩ = some (.pointer p) ∧ ((((w7).setCell ⟨L6, 0, none⟩ (.int .i64 0)).setCell ⟨L6, 1, none⟩ (.int .i64 0)).setCell ⟨L6, 2, none⟩ (.slice a6 0 c6)).cell? ⟨Mb, 0, none⟩ = some (.int .i64 m.N) ∧ ((((w7).setCell ⟨L6, 0, none⟩ (.int .i64 0)).setCell ⟨L6, 1, none⟩ (.int .i64 0)).setCell ⟨L6, 2, none⟩ (.slice a6 0 c6)).cell? ⟨Mb, 1, none⟩ = some (.slice m.A.ao m.A.len m.A.cap) ∧ ((((w7).setCell ⟨L6, 0, none⟩ (.int .i64 0)).setCell ⟨L6, 1, none⟩ (.int .i64 0)).setCell ⟨L6, 2, none⟩ (.slice a6 0 c6)).cell? ⟨Mb, 2, none⟩ = some (.slice m.Q.ao m.Q.len m.Q.cap) ∧ ((((w7).setCell ⟨L6, 0, none⟩ (.int .i64 0)).setCell ⟨L6, 1, none⟩ (.int .i64 0)).setCell ⟨L6, 2, none⟩ (.slice a6 0 c6)).cell? ⟨Mb, 3, none⟩ = some (.int .i64 m.tick) ∧ ((((w7).setCell ⟨L6, 0, none⟩ (.int .i64 0)).setCell ⟨L6, 1, none⟩ (.int .i64 0)).setCell ⟨L6, 2, none⟩ (.slice a6 0 c6)).cell? ⟨Mb, 4, none⟩ = some (.int .i64 m.gate) ∧ ((((w7).setCell ⟨L6, 0, none⟩ (.int .i64 0)).setCell ⟨L6, 1, none⟩ (.int .i64 0)).setCell ⟨L6, 2, none⟩ (.slice a6 0 c6)).cell? ⟨Mb, 5, none⟩ = some (.int .i64 m.rmin) ∧ ((((w7).setCell ⟨L6, 0, none⟩ (.int .i64 0)).setCell ⟨L6, 1, none⟩ (.int .i64 0)).setCell ⟨L6, 2, none⟩ (.slice a6 0 c6)).cell? ⟨Mb, 6, none⟩ = some (.slice m.ro m.rl m.rc) := ⟨unhide KC _ (unhide NE), (unhide CM _ (unhide NE))⟩
      generalize ((((w7).setCell ⟨L6, 0, none⟩ (.int .i64 0)).setCell ⟨L6, 1, none⟩ (.int .i64 0)).setCell ⟨L6, 2, none⟩ (.slice a6 0 c6)) = wE at *
      refine hK _ _ (fun _ => hHeld) ?_
      clear hK K hHeld PM r0 r1 r2 f BZ KX
      (try simp only [Act.put, List.setIfInBounds_toArray, List.set_cons_zero, List.set_cons_succ])
      refine step_G (i := 12) (by kernel_rfl) (fun K hK => ?_)
      refine wpOp_of rfl rfl ?_
      unfold Oper.wp
      go_simp
      refine hK _ _ (fun h => absurd rfl h) ?_
      clear hK K
      (try simp only [Act.put, List.setIfInBounds_toArray, List.set_cons_zero, List.set_cons_succ])
      refine done_G (by kernel_rfl) ?_
      refine noPanic_normalE ?_
      go_wp2_with fail
      go_meet
      exact ⟨⟨_, rfl⟩, rfl, unhide NE⟩
     ·refine wpOp_of rfl rfl ?_
      unfold Oper.wp
      go_simp
      have BZ0 : Hid (Blk w4.heap.size #[.int .i64 0, .int .i64 0, .slice none 0 0] 38 (w4.alloc (.cells #[.int .i64 0, .int .i64 0, .slice none 0 0] 38)).drew) := (show Blk w4.heap.size #[.int .i64 0, .int .i64 0, .slice none 0 0] 38 (w4.alloc (.cells #[.int .i64 0, .int .i64 0, .slice none 0 0] 38)) from Blk.new _ _ _)
      have KX0 : Hid (Kp w4 (w4.alloc (.cells #[.int .i64 0, .int .i64 0, .slice none 0 0] 38)).drew ∧ w4.heap.size < (w4.alloc (.cells #[.int .i64 0, .int .i64 0, .slice none 0 0] 38)).drew.heap.size) := ⟨(show Kp w4 (w4.alloc (.cells #[.int .i64 0, .int .i64 0, .slice none 0 0] 38)) from (Kp.refl _).alloc _ _), Blk.lt (unhide BZ0)⟩
      generalize (w4.alloc (.cells #[.int .i64 0, .int .i64 0, .slice none 0 0] 38)).drew = w6 at *
      have hHeld6 : w6.cell? ⟨U + 1, k, none⟩ = some (.pointer p) ∧ w6.cell? ⟨Mb, 0, none⟩ = some (.int .i64 m.N) ∧ w6.cell? ⟨Mb, 1, none⟩ = some (.slice m.A.ao m.A.len m.A.cap) ∧ w6.cell? ⟨Mb, 2, none⟩ = some (.slice m.Q.ao m.Q.len m.Q.cap) ∧ w6.cell? ⟨Mb, 3, none⟩ = some (.int .i64 m.tick) ∧ w6.cell? ⟨Mb, 4, none⟩ = some (.int .i64 m.gate) ∧ w6.cell? ⟨Mb, 5, none⟩ = some (.int .i64 m.rmin) ∧ w6.cell? ⟨Mb, 6, none⟩ = some (.slice m.ro m.rl m.rc) := ⟨unhide KC _ (unhide KX0).1, unhide CM _ (unhide KX0).1⟩
      refine hK _ _ (fun _ => hHeld6) ?_
      clear hK K hHeld hHeld6
      (try simp only [Act.put, List.setIfInBounds_toArray, List.set_cons_zero, List.set_cons_succ])
      refine step_G (i := 6) (by kernel_rfl) (fun K hK => ?_)
      refine wpOp_of rfl rfl ?_
      unfold Oper.wp
      go_simp
      refine (moFlow_none p m ticks (fun _ => 0) w6 (unhide NK _ (unhide KX0).1)).mono ?_
      rintro e w7 ⟨a6, c6, _, rfl, _, _, _, k6⟩
      have BZ : Hid (Blk w4.heap.size #[.int .i64 0, .int .i64 0, .slice none 0 0] 38 w7) := Blk.kp (unhide BZ0) k6
      have KX : Hid (Kp w4 w7 ∧ w4.heap.size ≤ w4.heap.size) := ⟨(unhide KX0).1.trans k6, Nat.le_refl _⟩
      have hHeld : w7.cell? ⟨U + 1, k, none⟩ = some (.pointer p) ∧ w7.cell? ⟨Mb, 0, none⟩ = some (.int .i64 m.N) ∧ w7.cell? ⟨Mb, 1, none⟩ = some (.slice m.A.ao m.A.len m.A.cap) ∧ w7.cell? ⟨Mb, 2, none⟩ = some (.slice m.Q.ao m.Q.len m.Q.cap) ∧ w7.cell? ⟨Mb, 3, none⟩ = some (.int .i64 m.tick) ∧ w7.cell? ⟨Mb, 4, none⟩ = some (.int .i64 m.gate) ∧ w7.cell? ⟨Mb, 5, none⟩ = some (.int .i64 m.rmin) ∧ w7.cell? ⟨Mb, 6, none⟩ = some (.slice m.ro m.rl m.rc) := ⟨unhide KC _ (unhide KX).1, unhide CM _ (unhide KX).1⟩
      refine hK _ _ (fun _ => hHeld) ?_
      clear hK K k6 BZ0 KX0
      (try simp only [Act.put, List.setIfInBounds_toArray, List.set_cons_zero, List.set_cons_succ])
      refine take_G (i := 7) (d := 35) (v := .tuple #[.agg #[.int .i64 0, .int .i64 0, .slice a6 0 c6], .int .i64 1]) rfl rfl (by kernel_rfl) (by kernel_rfl) (by kernel_rfl) (by kernel_rfl) (by kernel_rfl) (Or.inl ⟨by rfl, ?_⟩) hHeld ?_
      ·intro wS hSw
       obtain ⟨z, z0, z1, z2, z3, z4, z5, z6⟩ := hSw
       clear hHeld
       go_simp
      (try simp only [Act.put, List.setIfInBounds_toArray, List.set_cons_zero, List.set_cons_succ])
      refine take_G (i := 8) (d := 43) (v := .agg #[.int .i64 0, .int .i64 0, .slice a6 0 c6]) rfl rfl (by kernel_rfl) (by kernel_rfl) (by kernel_rfl) (by kernel_rfl) (by kernel_rfl) (Or.inl ⟨by rfl, ?_⟩) hHeld ?_
      ·intro wS hSw
       obtain ⟨z, z0, z1, z2, z3, z4, z5, z6⟩ := hSw
       clear hHeld
       go_simp
      (try simp only [Act.put, List.setIfInBounds_toArray, List.set_cons_zero, List.set_cons_succ])
      refine take_G (i := 9) (d := 44) (v := .int .i64 1) rfl rfl (by kernel_rfl) (by kernel_rfl) (by kernel_rfl) (by kernel_rfl) (by kernel_rfl) (Or.inl ⟨by rfl, ?_⟩) hHeld ?_
      ·intro wS hSw
       obtain ⟨z, z0, z1, z2, z3, z4, z5, z6⟩ := hSw
       clear hHeld
       go_simp
      (try simp only [Act.put, List.setIfInBounds_toArray, List.set_cons_zero, List.set_cons_succ])
      clear hHeld
      have r0 : w7.cell? ⟨w4.heap.size, 0, none⟩ = some (.int .i64 0) := Blk.cell (unhide BZ) 0
      have r1 : w7.cell? ⟨w4.heap.size, 1, none⟩ = some (.int .i64 0) := Blk.cell (unhide BZ) 1
      have r2 : w7.cell? ⟨w4.heap.size, 2, none⟩ = some (.slice none 0 0) := Blk.cell (unhide BZ) 2
      have f := Blk.free (unhide BZ)
      refine step_G (i := 11) (by kernel_rfl) (fun K hK => ?_)
      refine wpOp_of rfl rfl ?_
      unfold Oper.wp
      go_simp
      have PM := putM (unhide BZ) (.int .i64 0) (.int .i64 0) (.slice a6 0 c6)
      have NE : Hid (Kp w4 ((((w7).setCell ⟨w4.heap.size, 0, none⟩ (.int .i64 0)).setCell ⟨w4.heap.size, 1, none⟩ (.int .i64 0)).setCell ⟨w4.heap.size, 2, none⟩ (.slice a6 0 c6))) := (unhide KX).1.mod PM.2 (unhide KX).2
      have hHeld : ((((w7).setCell ⟨w4.heap.size, 0, none⟩ (.int .i64 0)).setCell ⟨w4.heap.size, 1, none⟩ (.int .i64 0)).setCell ⟨w4.heap.size, 2, none⟩ (.slice a6 0 c6)).cell? ⟨U + 1, k, none⟩ = some (.pointer p) ∧ ((((w7).setCell ⟨w4.heap.size, 0, none⟩ (.int .i64 0)).setCell ⟨w4.heap.size, 1, none⟩ (.int .i64 0)).setCell ⟨w4.heap.size, 2, none⟩ (.slice a6 0 c6)).cell? ⟨Mb, 0, none⟩ = some (.int .i64 m.N) ∧ ((((w7).setCell ⟨w4.heap.size, 0, none⟩ (.int .i64 0)).setCell ⟨w4.heap.size, 1, none⟩ (.int .i64 0)).setCell ⟨w4.heap.size, 2, none⟩ (.slice a6 0 c6)).cell? ⟨Mb, 1, none⟩ = some (.slice m.A.ao m.A.len m.A.cap) ∧ ((((w7).setCell ⟨w4.heap.size, 0, none⟩ (.int .i64 0)).setCell ⟨w4.heap.size, 1, none⟩ (.int .i64 0)).setCell ⟨w4.heap.size, 2, none⟩ (.slice a6 0 c6)).cell? ⟨Mb, 2, none⟩ = some (.slice m.Q.ao m.Q.len m.Q.cap) ∧ ((((w7).setCell ⟨w4.heap.size, 0, none⟩ (.int .i64 0)).setCell ⟨w4.heap.size, 1, none⟩ (.int .i64 0)).setCell ⟨w4.heap.size, 2, none⟩ (.slice a6 0 c6)).cell? ⟨Mb, 3, none⟩ = some (.int .i64 m.tick) ∧ ((((w7).setCell ⟨w4.heap.size, 0, none⟩ (.int .i64 0)).setCell ⟨w4.heap.size, 1, none⟩ (.int .i64 0)).setCell ⟨w4.heap.size, 2, none⟩ (.slice a6 0 c6)).cell? ⟨Mb, 4, none⟩ = some (.int .i64 m.gate) ∧ ((((w7).setCell ⟨w4.heap.size, 0, none⟩ (.int .i64 0)).setCell ⟨w4.heap.size, 1, none⟩ (.int .i64 0)).setCell ⟨w4.heap.size, 2, none⟩ (.slice a6 0 c6)).cell? ⟨Mb, 5, none⟩ = some (.int .i64 m.rmin) ∧ ((((w7).setCell ⟨w4.heap.size, 0, none⟩ (.int .i64 0)).setCell ⟨w4.heap.size, 1, none⟩ (.int .i64 0)).setCell ⟨w4.heap.size, 2, none⟩ (.slice a6 0 c6)).cell? ⟨Mb, 6, none⟩ = some (.slice m.ro m.rl m.rc) := ⟨unhide KC _ (unhide NE), (unhide CM _ (unhide NE))⟩
      generalize ((((w7).setCell ⟨w4.heap.size, 0, none⟩ (.int .i64 0)).setCell ⟨w4.heap.size, 1, none⟩ (.int .i64 0)).setCell ⟨w4.heap.size, 2, none⟩ (.slice a6 0 c6)) = wE at *
      refine hK _ _ (fun _ => hHeld) ?_
      clear hK K hHeld PM r0 r1 r2 f BZ KX
      (try simp only [Act.put, List.setIfInBounds_toArray, List.set_cons_zero, List.set_cons_succ])
      refine step_G (i := 12) (by kernel_rfl) (fun K hK => ?_)
      refine wpOp_of rfl rfl ?_
      unfold Oper.wp
      go_simp
      refine hK _ _ (fun h => absurd rfl h) ?_
      clear hK K
      (try simp only [Act.put, List.setIfInBounds_toArray, List.set_cons_zero, List.set_cons_succ])
      refine done_G (by kernel_rfl) ?_
      refine noPanic_normalE ?_
      go_wp2_with fail
      go_meet
      exact ⟨⟨_, rfl⟩, rfl, unhide NE⟩
    case rest =>
     obtain ⟨⟨b9, rfl⟩, rfl, K5⟩ := hcut
     have SB5 : Hid (NMo w U Mb m wc ∧ wc.cell? ⟨U + 1, k, none⟩ = some (.pointer p) ∧ NU p wc) := ⟨(unhide SB).1.kp (unhide K5), (unhide K5).cell (unhide SB).2.1, (unhide SB).2.2.kp (unhide K5)⟩
     clear SB KC CM KD NK K5 hHeld0
     have SB := SB5
     clear SB5
     generalize wc = w5 at *
     have KC : Hid (∀ wx, Kp w5 wx → wx.cell? ⟨U + 1, k, none⟩ = some (.pointer p)) := fun wx kk => kk.cell (unhide SB).2.1
     have CM : Hid (∀ wx, Kp w5 wx → wx.cell? ⟨Mb, 0, none⟩ = some (.int .i64 m.N) ∧ wx.cell? ⟨Mb, 1, none⟩ = some (.slice m.A.ao m.A.len m.A.cap) ∧ wx.cell? ⟨Mb, 2, none⟩ = some (.slice m.Q.ao m.Q.len m.Q.cap) ∧ wx.cell? ⟨Mb, 3, none⟩ = some (.int .i64 m.tick) ∧ wx.cell? ⟨Mb, 4, none⟩ = some (.int .i64 m.gate) ∧ wx.cell? ⟨Mb, 5, none⟩ = some (.int .i64 m.rmin) ∧ wx.cell? ⟨Mb, 6, none⟩ = some (.slice m.ro m.rl m.rc)) := fun wx kk => (Blk.kp (unhide SB).1.2.2.1 kk).cellsM
     have NK : Hid (∀ wx, Kp w5 wx → NU p wx) := fun wx kk => (unhide SB).2.2.kp kk
     have KD : Hid (Kp w5 w5.drew) := Kp.of ((Grown.refl _).drew)
     have hHeld0 : w5.drew.cell? ⟨U + 1, k, none⟩ = some (.pointer p) ∧ w5.drew.cell? ⟨Mb, 0, none⟩ = some (.int .i64 m.N) ∧ w5.drew.cell? ⟨Mb, 1, none⟩ = some (.slice m.A.ao m.A.len m.A.cap) ∧ w5.drew.cell? ⟨Mb, 2, none⟩ = some (.slice m.Q.ao m.Q.len m.Q.cap) ∧ w5.drew.cell? ⟨Mb, 3, none⟩ = some (.int .i64 m.tick) ∧ w5.drew.cell? ⟨Mb, 4, none⟩ = some (.int .i64 m.gate) ∧ w5.drew.cell? ⟨Mb, 5, none⟩ = some (.int .i64 m.rmin) ∧ w5.drew.cell? ⟨Mb, 6, none⟩ = some (.slice m.ro m.rl m.rc) := ⟨unhide KC _ (unhide KD), unhide CM _ (unhide KD)⟩
     go_wp2_with fail
     go_cut [11, 12] (fun x e wx => (∃ b, x = .pointer (some ⟨b, 0, none⟩)) ∧ e = .int .i64 1 ∧ Hid (Kp w5 wx))
     case first =>
      refine region_G (fun w' => w'.cell? ⟨U + 1, k, none⟩ = some (.pointer p) ∧ w'.cell? ⟨Mb, 0, none⟩ = some (.int .i64 m.N) ∧ w'.cell? ⟨Mb, 1, none⟩ = some (.slice m.A.ao m.A.len m.A.cap) ∧ w'.cell? ⟨Mb, 2, none⟩ = some (.slice m.Q.ao m.Q.len m.Q.cap) ∧ w'.cell? ⟨Mb, 3, none⟩ = some (.int .i64 m.tick) ∧ w'.cell? ⟨Mb, 4, none⟩ = some (.int .i64 m.gate) ∧ w'.cell? ⟨Mb, 5, none⟩ = some (.int .i64 m.rmin) ∧ w'.cell? ⟨Mb, 6, none⟩ = some (.slice m.ro m.rl m.rc)) 12 (by kernel_rfl) hHeld0 (fun hHeld => ?_)
      clear hHeld0
      refine take_G (i := 0) (d := 46) (v := .slice (some ⟨U + 1, 0, none⟩) 2 2) rfl rfl (by kernel_rfl) (by kernel_rfl) (by kernel_rfl) (by kernel_rfl) (by kernel_rfl) (Or.inl ⟨by rfl, ?_⟩) hHeld ?_
      ·intro wS hSw
       obtain ⟨z, z0, z1, z2, z3, z4, z5, z6⟩ := hSw
       clear hHeld
       go_simp
      (try simp only [Act.put, List.setIfInBounds_toArray, List.set_cons_zero, List.set_cons_succ])
      refine take_G (i := 1) (d := 47) (v := .int .i64 (k : Int)) rfl rfl (by kernel_rfl) (by kernel_rfl) (by kernel_rfl) (by kernel_rfl) (by kernel_rfl) (Or.inl ⟨by rfl, ?_⟩) hHeld ?_
      ·intro wS hSw
       obtain ⟨z, z0, z1, z2, z3, z4, z5, z6⟩ := hSw
       clear hHeld
       go_simp
      (try simp only [Act.put, List.setIfInBounds_toArray, List.set_cons_zero, List.set_cons_succ])
      refine take_G (i := 2) (d := 48) (v := .pointer (some ⟨U + 1, k, none⟩)) rfl rfl (by kernel_rfl) (by kernel_rfl) (by kernel_rfl) (by kernel_rfl) (by kernel_rfl) (Or.inl ⟨by rfl, ?_⟩) hHeld ?_
      ·intro wS hSw
       obtain ⟨z, z0, z1, z2, z3, z4, z5, z6⟩ := hSw
       clear hHeld
       go_simp
      (try simp only [Act.put, List.setIfInBounds_toArray, List.set_cons_zero, List.set_cons_succ])
      refine take_G (i := 3) (d := 49) (v := .pointer p) rfl rfl (by kernel_rfl) (by kernel_rfl) (by kernel_rfl) (by kernel_rfl) (by kernel_rfl) (Or.inl ⟨by rfl, ?_⟩) hHeld ?_
      ·intro wS hSw
       obtain ⟨z, z0, z1, z2, z3, z4, z5, z6⟩ := hSw
       clear hHeld
       go_simp
      (try simp only [Act.put, List.setIfInBounds_toArray, List.set_cons_zero, List.set_cons_succ])
      refine take_G (i := 4) (d := 50) (v := .agg #[.int .i64 m.N, .slice m.A.ao m.A.len m.A.cap, .slice m.Q.ao m.Q.len m.Q.cap, .int .i64 m.tick, .int .i64 m.gate, .int .i64 m.rmin, .slice m.ro m.rl m.rc]) rfl rfl (by kernel_rfl) (by kernel_rfl) (by kernel_rfl) (by kernel_rfl) (by kernel_rfl) (Or.inl ⟨by rfl, ?_⟩) hHeld ?_
      ·intro wS hSw
       obtain ⟨z, z0, z1, z2, z3, z4, z5, z6⟩ := hSw
       clear hHeld
       go_simp
      (try simp only [Act.put, List.setIfInBounds_toArray, List.set_cons_zero, List.set_cons_succ])
      refine take_G (i := 5) (d := 51) (v := .int .i64 ticks) rfl rfl (by kernel_rfl) (by kernel_rfl) (by kernel_rfl) (by kernel_rfl) (by kernel_rfl) (Or.inl ⟨by rfl, ?_⟩) hHeld ?_
      ·intro wS hSw
       obtain ⟨z, z0, z1, z2, z3, z4, z5, z6⟩ := hSw
       clear hHeld
       go_simp
      (try simp only [Act.put, List.setIfInBounds_toArray, List.set_cons_zero, List.set_cons_succ])
      refine two_G (i := 6) (j := 10) (by kernel_rfl) (fun K hK => ?_) (fun K hK => ?_)
      ·refine wpOp_of rfl rfl ?_
       unfold Oper.wp
       go_simp
       refine (moNoise_none p m ticks (fun _ => 0) w5.drew (unhide NK _ (unhide KD))).mono ?_
       rintro e w6 ⟨a6, c6, _, rfl, _, _, _, k6⟩
       have K6 : Hid (Kp w5 w6) := (unhide KD).trans k6
       have hHeld6 : w6.cell? ⟨U + 1, k, none⟩ = some (.pointer p) ∧ w6.cell? ⟨Mb, 0, none⟩ = some (.int .i64 m.N) ∧ w6.cell? ⟨Mb, 1, none⟩ = some (.slice m.A.ao m.A.len m.A.cap) ∧ w6.cell? ⟨Mb, 2, none⟩ = some (.slice m.Q.ao m.Q.len m.Q.cap) ∧ w6.cell? ⟨Mb, 3, none⟩ = some (.int .i64 m.tick) ∧ w6.cell? ⟨Mb, 4, none⟩ = some (.int .i64 m.gate) ∧ w6.cell? ⟨Mb, 5, none⟩ = some (.int .i64 m.rmin) ∧ w6.cell? ⟨Mb, 6, none⟩ = some (.slice m.ro m.rl m.rc) := ⟨unhide KC _ (unhide K6), unhide CM _ (unhide K6)⟩
       refine hK _ _ (fun _ => hHeld6) ?_
       clear hK K k6 hHeld
       have hHeld := hHeld6
       clear hHeld6
       (try simp only [Act.put, List.setIfInBounds_toArray, List.set_cons_zero, List.set_cons_succ])
       refine take_G (i := 7) (d := 45) (v := .tuple #[.agg #[.int .i64 0, .int .i64 0, .slice a6 0 c6], .int .i64 1]) rfl rfl (by kernel_rfl) (by kernel_rfl) (by kernel_rfl) (by kernel_rfl) (by kernel_rfl) (Or.inl ⟨by rfl, ?_⟩) hHeld ?_
       ·intro wS hSw
        obtain ⟨z, z0, z1, z2, z3, z4, z5, z6⟩ := hSw
        clear hHeld
        go_simp
       (try simp only [Act.put, List.setIfInBounds_toArray, List.set_cons_zero, List.set_cons_succ])
       refine take_G (i := 8) (d := 53) (v := .agg #[.int .i64 0, .int .i64 0, .slice a6 0 c6]) rfl rfl (by kernel_rfl) (by kernel_rfl) (by kernel_rfl) (by kernel_rfl) (by kernel_rfl) (Or.inl ⟨by rfl, ?_⟩) hHeld ?_
       ·intro wS hSw
        obtain ⟨z, z0, z1, z2, z3, z4, z5, z6⟩ := hSw
        clear hHeld
        go_simp
       (try simp only [Act.put, List.setIfInBounds_toArray, List.set_cons_zero, List.set_cons_succ])
       refine take_G (i := 9) (d := 54) (v := .int .i64 1) rfl rfl (by kernel_rfl) (by kernel_rfl) (by kernel_rfl) (by kernel_rfl) (by kernel_rfl) (Or.inl ⟨by rfl, ?_⟩) hHeld ?_
       ·intro wS hSw
        obtain ⟨z, z0, z1, z2, z3, z4, z5, z6⟩ := hSw
        clear hHeld
        go_simp
       (try simp only [Act.put, List.setIfInBounds_toArray, List.set_cons_zero, List.set_cons_succ])
       refine step_G (i := 10) (by kernel_rfl) (fun K hK => ?_)
       refine wpOp_of rfl rfl ?_
       unfold Oper.wp
       go_simp
       have BZ : Hid (Blk w6.heap.size #[.int .i64 0, .int .i64 0, .slice none 0 0] 38 (w6.alloc (.cells #[.int .i64 0, .int .i64 0, .slice none 0 0] 38))) := Blk.new _ _ _
       have KX : Hid (Kp w5 (w6.alloc (.cells #[.int .i64 0, .int .i64 0, .slice none 0 0] 38)) ∧ w5.heap.size ≤ w6.heap.size) := ⟨(unhide K6).alloc _ _, (unhide K6).2.2.2⟩
       generalize (w6.alloc (.cells #[.int .i64 0, .int .i64 0, .slice none 0 0] 38)) = w7 at *
       generalize w6.heap.size = L6 at *
       have hHeld7 : w7.cell? ⟨U + 1, k, none⟩ = some (.pointer p) ∧ w7.cell? ⟨Mb, 0, none⟩ = some (.int .i64 m.N) ∧ w7.cell? ⟨Mb, 1, none⟩ = some (.slice m.A.ao m.A.len m.A.cap) ∧ w7.cell? ⟨Mb, 2, none⟩ = some (.slice m.Q.ao m.Q.len m.Q.cap) ∧ w7.cell? ⟨Mb, 3, none⟩ = some (.int .i64 m.tick) ∧ w7.cell? ⟨Mb, 4, none⟩ = some (.int .i64 m.gate) ∧ w7.cell? ⟨Mb, 5, none⟩ = some (.int .i64 m.rmin) ∧ w7.cell? ⟨Mb, 6, none⟩ = some (.slice m.ro m.rl m.rc) := ⟨unhide KC _ (unhide KX).1, unhide CM _ (unhide KX).1⟩
       refine hK _ _ (fun _ => hHeld7) ?_
       clear hK K hHeld hHeld7 K6
       (try simp only [Act.put, List.setIfInBounds_toArray, List.set_cons_zero, List.set_cons_succ])
       have r0 : w7.cell? ⟨L6, 0, none⟩ = some (.int .i64 0) := Blk.cell (unhide BZ) 0
       have r1 : w7.cell? ⟨L6, 1, none⟩ = some (.int .i64 0) := Blk.cell (unhide BZ) 1
       have r2 : w7.cell? ⟨L6, 2, none⟩ = some (.slice none 0 0) := Blk.cell (unhide BZ) 2
       have f := Blk.free (unhide BZ)
       refine step_G (i := 11) (by kernel_rfl) (fun K hK => ?_)
       refine wpOp_of rfl rfl ?_
       unfold Oper.wp
       go_simp
       have PM := putM (unhide BZ) (.int .i64 0) (.int .i64 0) (.slice a6 0 c6)
       have NE : Hid (Kp w5 ((((w7).setCell ⟨L6, 0, none⟩ (.int .i64 0)).setCell ⟨L6, 1, none⟩ (.int .i64 0)).setCell ⟨L6, 2, none⟩ (.slice a6 0 c6))) := (unhide KX).1.mod PM.2 (unhide KX).2
       have hHeld : ((((w7).setCell ⟨L6, 0, none⟩ (.int .i64 0)).setCell ⟨L6, 1, none⟩ (.int .i64 0)).setCell ⟨L6, 2, none⟩ (.slice a6 0 c6)).cell? ⟨U + 1, k, none⟩ = some (.pointer p) ∧ ((((w7).setCell ⟨L6, 0, none⟩ (.int .i64 0)).setCell ⟨L6, 1, none⟩ (.int .i64 0)).setCell ⟨L6, 2, none⟩ (.slice a6 0 c6)).cell? ⟨Mb, 0, none⟩ = some (.int .i64 m.N) ∧ ((((w7).setCell ⟨L6, 0, none⟩ (.int .i64 0)).setCell ⟨L6, 1, none⟩ (.int .i64 0)).setCell ⟨L6, 2, none⟩ (.slice a6 0 c6)).cell? ⟨Mb, 1, none⟩ = some (.slice m.A.ao m.A.len m.A.cap) ∧ ((((w7).setCell ⟨L6, 0, none⟩ (.int .i64 0)).setCell ⟨L6, 1, none⟩ (.int .i64 0)).setCell ⟨L6, 2, none⟩ (.slice a6 0 c6)).cell? ⟨Mb, 2, none⟩ = some (.slice m.Q.ao m.Q.len m.Q.cap) ∧ ((((w7).setCell ⟨L6, 0, none⟩ (.int .i64 0)).setCell ⟨L6, 1, none⟩ (.int .i64 0)).setCell ⟨L6, 2, none⟩ (.slice a6 0 c6)).cell? ⟨Mb, 3, none⟩ = some (.int .i64 m.tick) ∧ ((((w7).setCell ⟨L6, 0, none⟩ (.int .i64 0)).setCell ⟨L6, 1, none⟩ (.int .i64 0)).setCell ⟨L6, 2, none⟩ (.slice a6 0 c6)).cell? ⟨Mb, 4, none⟩ = some (.int .i64 m.gate) ∧ ((((w7).setCell ⟨L6, 0, none⟩ (.int .i64 0)).setCell ⟨L6, 1, none⟩ (.int .i64 0)).setCell ⟨L6, 2, none⟩ (.slice a6 0 c6)).cell? ⟨Mb, 5, none⟩ = some (.int .i64 m.rmin) ∧ ((((w7).setCell ⟨L6, 0, none⟩ (.int .i64 0)).setCell ⟨L6, 1, none⟩ (.int .i64 0)).setCell ⟨L6, 2, none⟩ (.slice a6 0 c6)).cell? ⟨Mb, 6, none⟩ = some (.slice m.ro m.rl m.rc) := ⟨unhide KC _ (unhide NE), (unhide CM _ (unhide NE))⟩
       generalize ((((w7).setCell ⟨L6, 0, none⟩ (.int .i64 0)).setCell ⟨L6, 1, none⟩ (.int .i64 0)).setCell ⟨L6, 2, none⟩ (.slice a6 0 c6)) = wE at *
       refine hK _ _ (fun _ => hHeld) ?_
       clear hK K hHeld PM r0 r1 r2 f BZ KX
       (try simp only [Act.put, List.setIfInBounds_toArray, List.set_cons_zero, List.set_cons_succ])
       refine step_G (i := 12) (by kernel_rfl) (fun K hK => ?_)
       refine wpOp_of rfl rfl ?_
       unfold Oper.wp
       go_simp
       refine hK _ _ (fun h => absurd rfl h) ?_
       clear hK K
       (try simp only [Act.put, List.setIfInBounds_toArray, List.set_cons_zero, List.set_cons_succ])
       refine done_G (by kernel_rfl) ?_
       refine noPanic_normalE ?_
       go_wp2_with fail
       go_meet
       exact ⟨⟨_, rfl⟩, rfl, unhide NE⟩
      ·refine wpOp_of rfl rfl ?_
       unfold Oper.wp
       go_simp
       have BZ0 : Hid (Blk w5.heap.size #[.int .i64 0, .int .i64 0, .slice none 0 0] 38 (w5.alloc (.cells #[.int .i64 0, .int .i64 0, .slice none 0 0] 38)).drew) := (show Blk w5.heap.size #[.int .i64 0, .int .i64 0, .slice none 0 0] 38 (w5.alloc (.cells #[.int .i64 0, .int .i64 0, .slice none 0 0] 38)) from Blk.new _ _ _)
       have KX0 : Hid (Kp w5 (w5.alloc (.cells #[.int .i64 0, .int .i64 0, .slice none 0 0] 38)).drew ∧ w5.heap.size < (w5.alloc (.cells #[.int .i64 0, .int .i64 0, .slice none 0 0] 38)).drew.heap.size) := ⟨(show Kp w5 (w5.alloc (.cells #[.int .i64 0, .int .i64 0, .slice none 0 0] 38)) from (Kp.refl _).alloc _ _), Blk.lt (unhide BZ0)⟩
       generalize (w5.alloc (.cells #[.int .i64 0, .int .i64 0, .slice none 0 0] 38)).drew = w6 at *
       have hHeld6 : w6.cell? ⟨U + 1, k, none⟩ = some (.pointer p) ∧ w6.cell? ⟨Mb, 0, none⟩ = some (.int .i64 m.N) ∧ w6.cell? ⟨Mb, 1, none⟩ = some (.slice m.A.ao m.A.len m.A.cap) ∧ w6.cell? ⟨Mb, 2, none⟩ = some (.slice m.Q.ao m.Q.len m.Q.cap) ∧ w6.cell? ⟨Mb, 3, none⟩ = some (.int .i64 m.tick) ∧ w6.cell? ⟨Mb, 4, none⟩ = some (.int .i64 m.gate) ∧ w6.cell? ⟨Mb, 5, none⟩ = some (.int .i64 m.rmin) ∧ w6.cell? ⟨Mb, 6, none⟩ = some (.slice m.ro m.rl m.rc) := ⟨unhide KC _ (unhide KX0).1, unhide CM _ (unhide KX0).1⟩
       refine hK _ _ (fun _ => hHeld6) ?_
       clear hK K hHeld hHeld6
       (try simp only [Act.put, List.setIfInBounds_toArray, List.set_cons_zero, List.set_cons_succ])
       refine step_G (i := 6) (by kernel_rfl) (fun K hK => ?_)
       refine wpOp_of rfl rfl ?_
       unfold Oper.wp
       go_simp
       refine (moNoise_none p m ticks (fun _ => 0) w6 (unhide NK _ (unhide KX0).1)).mono ?_
       rintro e w7 ⟨a6, c6, _, rfl, _, _, _, k6⟩
       have BZ : Hid (Blk w5.heap.size #[.int .i64 0, .int .i64 0, .slice none 0 0] 38 w7) := Blk.kp (unhide BZ0) k6
       have KX : Hid (Kp w5 w7 ∧ w5.heap.size ≤ w5.heap.size) := ⟨(unhide KX0).1.trans k6, Nat.le_refl _⟩
       have hHeld : w7.cell? ⟨U + 1, k, none⟩ = some (.pointer p) ∧ w7.cell? ⟨Mb, 0, none⟩ = some (.int .i64 m.N) ∧ w7.cell? ⟨Mb, 1, none⟩ = some (.slice m.A.ao m.A.len m.A.cap) ∧ w7.cell? ⟨Mb, 2, none⟩ = some (.slice m.Q.ao m.Q.len m.Q.cap) ∧ w7.cell? ⟨Mb, 3, none⟩ = some (.int .i64 m.tick) ∧ w7.cell? ⟨Mb, 4, none⟩ = some (.int .i64 m.gate) ∧ w7.cell? ⟨Mb, 5, none⟩ = some (.int .i64 m.rmin) ∧ w7.cell? ⟨Mb, 6, none⟩ = some (.slice m.ro m.rl m.rc) := ⟨unhide KC _ (unhide KX).1, unhide CM _ (unhide KX).1⟩
       refine hK _ _ (fun _ => hHeld) ?_
       clear hK K k6 BZ0 KX0
       (try simp only [Act.put, List.setIfInBounds_toArray, List.set_cons_zero, List.set_cons_succ])
       refine take_G (i := 7) (d := 45) (v := .tuple #[.agg #[.int .i64 0, .int .i64 0, .slice a6 0 c6], .int .i64 1]) rfl rfl (by kernel_rfl) (by kernel_rfl) (by kernel_rfl) (by kernel_rfl) (by kernel_rfl) (Or.inl ⟨by rfl, ?_⟩) hHeld ?_
       ·intro wS hSw
        obtain ⟨z, z0, z1, z2, z3, z4, z5, z6⟩ := hSw
        clear hHeld
        go_simp
       (try simp only [Act.put, List.setIfInBounds_toArray, List.set_cons_zero, List.set_cons_succ])
       refine take_G (i := 8) (d := 53) (v := .agg #[.int .i64 0, .int .i64 0, .slice a6 0 c6]) rfl rfl (by kernel_rfl) (by kernel_rfl) (by kernel_rfl) (by kernel_rfl) (by kernel_rfl) (Or.inl ⟨by rfl, ?_⟩) hHeld ?_
       ·intro wS hSw
        obtain ⟨z, z0, z1, z2, z3, z4, z5, z6⟩ := hSw
        clear hHeld
        go_simp
       (try simp only [Act.put, List.setIfInBounds_toArray, List.set_cons_zero, List.set_cons_succ])
       refine take_G (i := 9) (d := 54) (v := .int .i64 1) rfl rfl (by kernel_rfl) (by kernel_rfl) (by kernel_rfl) (by kernel_rfl) (by kernel_rfl) (Or.inl ⟨by rfl, ?_⟩) hHeld ?_
       ·intro wS hSw
        obtain ⟨z, z0, z1, z2, z3, z4, z5, z6⟩ := hSw
        clear hHeld
        go_simp
       (try simp only [Act.put, List.setIfInBounds_toArray, List.set_cons_zero, List.set_cons_succ])
       clear hHeld
       have r0 : w7.cell? ⟨w5.heap.size, 0, none⟩ = some (.int .i64 0) := Blk.cell (unhide BZ) 0
       have r1 : w7.cell? ⟨w5.heap.size, 1, none⟩ = some (.int .i64 0) := Blk.cell (unhide BZ) 1
       have r2 : w7.cell? ⟨w5.heap.size, 2, none⟩ = some (.slice none 0 0) := Blk.cell (unhide BZ) 2
       have f := Blk.free (unhide BZ)
       refine step_G (i := 11) (by kernel_rfl) (fun K hK => ?_)
       refine wpOp_of rfl rfl ?_
       unfold Oper.wp
       go_simp
       have PM := putM (unhide BZ) (.int .i64 0) (.int .i64 0) (.slice a6 0 c6)
       have NE : Hid (Kp w5 ((((w7).setCell ⟨w5.heap.size, 0, none⟩ (.int .i64 0)).setCell ⟨w5.heap.size, 1, none⟩ (.int .i64 0)).setCell ⟨w5.heap.size, 2, none⟩ (.slice a6 0 c6))) := (unhide KX).1.mod PM.2 (unhide KX).2
       have hHeld : ((((w7).setCell ⟨w5.heap.size, 0, none⟩ (.int .i64 0)).setCell ⟨w5.heap.size, 1, none⟩ (.int .i64 0)).setCell ⟨w5.heap.size, 2, none⟩ (.slice a6 0 c6)).cell? ⟨U + 1, k, none⟩ = some (.pointer p) ∧ ((((w7).setCell ⟨w5.heap.size, 0, none⟩ (.int .i64 0)).setCell ⟨w5.heap.size, 1, none⟩ (.int .i64 0)).setCell ⟨w5.heap.size, 2, none⟩ (.slice a6 0 c6)).cell? ⟨Mb, 0, none⟩ = some (.int .i64 m.N) ∧ ((((w7).setCell ⟨w5.heap.size, 0, none⟩ (.int .i64 0)).setCell ⟨w5.heap.size, 1, none⟩ (.int .i64 0)).setCell ⟨w5.heap.size, 2, none⟩ (.slice a6 0 c6)).cell? ⟨Mb, 1, none⟩ = some (.slice m.A.ao m.A.len m.A.cap) ∧ ((((w7).setCell ⟨w5.heap.size, 0, none⟩ (.int .i64 0)).setCell ⟨w5.heap.size, 1, none⟩ (.int .i64 0)).setCell ⟨w5.heap.size, 2, none⟩ (.slice a6 0 c6)).cell? ⟨Mb, 2, none⟩ = some (.slice m.Q.ao m.Q.len m.Q.cap) ∧ ((((w7).setCell ⟨w5.heap.size, 0, none⟩ (.int .i64 0)).setCell ⟨w5.heap.size, 1, none⟩ (.int .i64 0)).setCell ⟨w5.heap.size, 2, none⟩ (.slice a6 0 c6)).cell? ⟨Mb, 3, none⟩ = some (.int .i64 m.tick) ∧ ((((w7).setCell ⟨w5.heap.size, 0, none⟩ (.int .i64 0)).setCell ⟨w5.heap.size, 1, none⟩ (.int .i64 0)).setCell ⟨w5.heap.size, 2, none⟩ (.slice a6 0 c6)).cell? ⟨Mb, 4, none⟩ = some (.int .i64 m.gate) ∧ ((((w7).setCell ⟨w5.heap.size, 0, none⟩ (.int .i64 0)).setCell ⟨w5.heap.size, 1, none⟩ (.int .i64 0)).setCell ⟨w5.heap.size, 2, none⟩ (.slice a6 0 c6)).cell? ⟨Mb, 5, none⟩ = some (.int .i64 m.rmin) ∧ ((((w7).setCell ⟨w5.heap.size, 0, none⟩ (.int .i64 0)).setCell ⟨w5.heap.size, 1, none⟩ (.int .i64 0)).setCell ⟨w5.heap.size, 2, none⟩ (.slice a6 0 c6)).cell? ⟨Mb, 6, none⟩ = some (.slice m.ro m.rl m.rc) := ⟨unhide KC _ (unhide NE), (unhide CM _ (unhide NE))⟩
       generalize ((((w7).setCell ⟨w5.heap.size, 0, none⟩ (.int .i64 0)).setCell ⟨w5.heap.size, 1, none⟩ (.int .i64 0)).setCell ⟨w5.heap.size, 2, none⟩ (.slice a6 0 c6)) = wE at *
       refine hK _ _ (fun _ => hHeld) ?_
       clear hK K hHeld PM r0 r1 r2 f BZ KX
       (try simp only [Act.put, List.setIfInBounds_toArray, List.set_cons_zero, List.set_cons_succ])
       refine step_G (i := 12) (by kernel_rfl) (fun K hK => ?_)
       refine wpOp_of rfl rfl ?_
       unfold Oper.wp
       go_simp
       refine hK _ _ (fun h => absurd rfl h) ?_
       clear hK K
       (try simp only [Act.put, List.setIfInBounds_toArray, List.set_cons_zero, List.set_cons_succ])
       refine done_G (by kernel_rfl) ?_
       refine noPanic_normalE ?_
       go_wp2_with fail
       go_meet
       exact ⟨⟨_, rfl⟩, rfl, unhide NE⟩
     case rest =>
      obtain ⟨⟨b11, rfl⟩, rfl, K6⟩ := hcut
      have R : Hid (NMo w U Mb m wc) := (unhide SB).1.kp (unhide K6)
      clear SB KC CM KD NK K6 hHeld0
      go_wp2
      go_roundw
      case rel => exact ⟨k + 1, by omega, by go_num, R⟩
      case measure => simp [intOf]; omega
   ·obtain rfl : k = 2 := by omega
    have K5 := hide (unhide HI).2.2.2
    clear HI S3
    go_wp2_with fail
    refine (lawAwake11 _).mono ?_
    rintro e wz ⟨rfl, kz⟩
    have KZ := hide ((unhide K5).trans kz)
    clear kz K5
    go_wp2
    go_ret
    exact ⟨rfl, unhide KZ⟩
end Go.Proofs.YtjobgjcfkomhpaaGreat
