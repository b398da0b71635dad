/- Package mat: turned, Turn, Eye. -/
import Derived.Test.YtopaakjildmjcaaMatE
import Derived.Test.YtopaakjildmjcaaVecD
namespace Go.Proofs.Ytopaakjildmjcaa
open Go.RowKit Go.Shelf Go.Proofs.Wd
set_option linter.unusedVariables false
set_option linter.unusedSimpArgs false
set_option maxRecDepth 10000

set_option maxHeartbeats 400000 in
theorem turned1 (i k r c b o cap Bm : Nat) (Z : Nat → Int) (hr : 1 ≤ r ∧ r ≤ 12) (hc : 1 ≤ c ∧ c ≤ 12) (hi : i < c) (hk : k < r) (w : World) (hb : Blk Bm #[.int .i64 r, .int .i64 c, .slice (some ⟨b, o, none⟩) (r * c) cap] 26 w) (hz : ∀ j, j < r * c → w.cell? ⟨b, o + j, none⟩ = some (.int .i64 (Z j))) :
    Calls Try.prog 54 (#[.int .i64 (i : Int), .int .i64 (k : Int)] ++ #[.pointer (some ⟨Bm, 0, none⟩)]) w fun e b => e = .returned (.int .i64 (turnZ Z r c (i * r + k))) ∧ Kp w b := by
  have hd : turnZ Z r c (i * r + k) = Z (k * c + i) := by
    unfold turnZ
    rw [place_div _ _ _ hk, place_mod _ _ _ hk]
  rw [hd]
  show Calls Try.prog 54 #[.int .i64 (i : Int), .int .i64 (k : Int), .pointer (some ⟨Bm, 0, none⟩)] w _
  have A := hide (matAt r c k i b o cap Z hr hc hk hi w (hz _ (place_in _ _ _ _ hk hi)))
  have d0 : w.cell? ⟨Bm, 0, none⟩ = some (.int .i64 r) := Blk.cell hb 0
  have d1 : w.cell? ⟨Bm, 1, none⟩ = some (.int .i64 c) := Blk.cell hb 1
  have d2 : w.cell? ⟨Bm, 2, none⟩ = some (.slice (some ⟨b, o, none⟩) (r * c) cap) := Blk.cell hb 2
  obtain ⟨z, hzz⟩ : ∃ z, Z (k * c + i) = z := ⟨_, rfl⟩
  rw [hzz] at A
  rw [hzz]
  obtain ⟨len, hlen⟩ : ∃ len, r * c = len := ⟨_, rfl⟩
  rw [hlen] at A d2
  clear hd hz hr hc hi hk hb hzz hlen
  go_enter Try.func54, Try.ntmps54
  go_wp2_with fail
  refine (unhide A).mono ?_
  rintro e w1 ⟨rfl, rfl⟩
  clear A
  go_wp2
  go_ret
  exact ⟨rfl, (Kp.refl _).alloc _ _⟩

set_option maxHeartbeats 1000000 in
theorem matTurned (r c b o cap : Nat) (Z : Nat → Int) (hr : 1 ≤ r ∧ r ≤ 12) (hc : 1 ≤ c ∧ c ≤ 12) (w : World) (hz : ∀ j, j < r * c → w.cell? ⟨b, o + j, none⟩ = some (.int .i64 (Z j))) :
    Calls Try.prog 34 #[.agg #[.int .i64 r, .int .i64 c, .slice (some ⟨b, o, none⟩) (r * c) cap]] w fun e w' => MadeP c r (turnZ Z r c) (Kp w) w e w' := by
  have G : Grown w ((w.alloc (.cells #[.int .i64 r, .int .i64 c, .slice (some ⟨b, o, none⟩) (r * c) cap] 26)).alloc (.cells #[.int .i64 0, .int .i64 0, .slice none 0 0] 26)) := ((Grown.refl _).alloc _ _).alloc _ _
  have bl : Blk w.heap.size #[.int .i64 r, .int .i64 c, .slice (some ⟨b, o, none⟩) (r * c) cap] 26 ((w.alloc (.cells #[.int .i64 r, .int .i64 c, .slice (some ⟨b, o, none⟩) (r * c) cap] 26)).alloc (.cells #[.int .i64 0, .int .i64 0, .slice none 0 0] 26)) := Blk.grown (Blk.new w _ _) ((Grown.refl _).alloc _ _)
  have br := blk_new2 w (.cells #[.int .i64 r, .int .i64 c, .slice (some ⟨b, o, none⟩) (r * c) cap] 26) #[.int .i64 0, .int .i64 0, .slice none 0 0] 26
  have d0 := Blk.cell bl 0
  have d1 := Blk.cell bl 1
  have MD := hide (madeN 54 (enters_of Try.func54 (by kernel_rfl) rfl) #[.pointer (some ⟨w.heap.size, 0, none⟩)] c r hc hr (turnZ Z r c) ((w.alloc (.cells #[.int .i64 r, .int .i64 c, .slice (some ⟨b, o, none⟩) (r * c) cap] 26)).alloc (.cells #[.int .i64 0, .int .i64 0, .slice none 0 0] 26))
    (fun i k a hi hk ka => turned1 i k r c b o cap w.heap.size Z hr hc hi hk a (Blk.kp bl ka) (fun j hj => ka.cell (gat G (hz j hj)))))
  have HG := hide G
  have HB := hide br
  obtain ⟨len, hlen⟩ : ∃ len, r * c = len := ⟨_, rfl⟩
  rw [hlen] at MD HG HB
  rw [hlen]
  clear G bl br hz hr hc hlen d0 d1
  go_enter Try.func34, Try.ntmps34
  go_wp2_with fail
  generalize (w.alloc (.cells #[.int .i64 r, .int .i64 c, .slice (some ⟨b, o, none⟩) len cap] 26)).alloc (.cells #[.int .i64 0, .int .i64 0, .slice none 0 0] 26) = w1 at *
  refine (unhide MD).mono ?_
  rintro e w3 ⟨Lb, h1, rfl, h3, h4⟩
  have b3 := Blk.kp (unhide HB) h4
  have e0 : w3.cell? ⟨w.heap.size + 1, 0, none⟩ = some (.int .i64 0) := Blk.cell b3 0
  have e1 : w3.cell? ⟨w.heap.size + 1, 1, none⟩ = some (.int .i64 0) := Blk.cell b3 1
  have e2 : w3.cell? ⟨w.heap.size + 1, 2, none⟩ = some (.slice none 0 0) := Blk.cell b3 2
  have f := Blk.free b3
  have R := hide (And.intro b3 (And.intro h1 (And.intro h3 h4)))
  clear b3 h1 h3 h4 MD
  go_wp2
  obtain ⟨b3, h1, h3, h4⟩ := unhide R
  have P := putM b3 (.int .i64 c) (.int .i64 r) (.slice (some ⟨Lb, 0, none⟩) (c * r) (c * r))
  generalize (((w3.setCell ⟨w.heap.size + 1, 0, none⟩ (.int .i64 c)).setCell ⟨w.heap.size + 1, 1, none⟩ (.int .i64 r)).setCell ⟨w.heap.size + 1, 2, none⟩ (.slice (some ⟨Lb, 0, none⟩) (c * r) (c * r))) = wE at *
  have c0 : wE.cell? ⟨w.heap.size + 1, 0, none⟩ = some (.int .i64 c) := Blk.cell P.1 0
  have c1 : wE.cell? ⟨w.heap.size + 1, 1, none⟩ = some (.int .i64 r) := Blk.cell P.1 1
  have c2 : wE.cell? ⟨w.heap.size + 1, 2, none⟩ = some (.slice (some ⟨Lb, 0, none⟩) (c * r) (c * r)) := Blk.cell P.1 2
  refine bodyPost_ret (v := .agg #[.int .i64 c, .int .i64 r, .slice (some ⟨Lb, 0, none⟩) (c * r) (c * r)]) (by simp [results, Try.results34, go_sem, c0, c1, c2]) rfl ?_
  have hB := Blk.lt (unhide HB)
  have hs := (unhide HG).2.2
  exact ⟨Lb, by omega, rfl, Blk.keep h3 P.2 (by omega), ((Kp.of (unhide HG)).trans h4).mod P.2 (by omega)⟩

set_option maxHeartbeats 1000000 in
theorem matEye_ok (n : Nat) (hn : 1 ≤ n ∧ n ≤ 12) (w : World) :
    Calls Try.prog 8 #[.int .i64 (n : Int)] w fun e w' => MatP n n (n * n) (diagZ oneZ n) 0 (Kp w) w e w' := by
  have FT := hide (fun w => matFits (n : Int) w)
  rw [decide_eq_true (by omega)] at FT
  have G : Grown w (w.alloc (.cells #[.int .i64 0, .int .i64 0, .slice none 0 0] 26)) := (Grown.refl _).alloc _ _
  have br := Blk.new w #[.int .i64 0, .int .i64 0, .slice none 0 0] 26
  have RP := hide (fun xb cap w hx => slicesRepeat 4294967296 n xb cap (by omega) w hx)
  have DG := hide (fun cap ao w hr => matDiag_ok n cap ao oneZ hn w hr)
  have HG := hide G
  have HB := hide br
  clear G br hn
  go_enter Try.func8, Try.ntmps8
  go_wp2_with fail
  generalize w.alloc (.cells #[.int .i64 0, .int .i64 0, .slice none 0 0] 26) = w1 at *
  refine (unhide FT _).mono ?_
  rintro e w2 ⟨rfl, rfl⟩
  go_wp2_with fail
  have G2 : Hid (Grown w2 (w2.alloc (.cells #[.int .i64 4294967296] 3))) := (Grown.refl _).alloc _ _
  have R2 := hide (unhide RP w2.heap.size 1 (w2.alloc (.cells #[.int .i64 4294967296] 3)) (Blk.cell (Blk.new w2 _ _) 0))
  generalize w2.alloc (.cells #[.int .i64 4294967296] 3) = w4 at *
  refine (unhide R2).mono ?_
  rintro e w5 ⟨rfl, b5, m5⟩
  have D5 := hide (unhide DG n (some ⟨w4.heap.size, 0, none⟩) w5 (show Row _ _ n (fun _ => 4294967296) from b5.row))
  have K5 : Hid (Kp w2 w5) := (Kp.of (unhide G2)).mod m5 (unhide G2).2.2
  clear b5 m5 R2 RP DG FT
  go_wp2_with fail
  refine (unhide D5).mono ?_
  rintro e w3 ⟨ao, cap, Lb, rfl, h1, h3, hcap, h4⟩
  have k3 := (unhide K5).trans h4
  have b3 := Blk.kp (unhide HB) k3
  have e0 : w3.cell? ⟨w.heap.size, 0, none⟩ = some (.int .i64 0) := Blk.cell b3 0
  have e1 : w3.cell? ⟨w.heap.size, 1, none⟩ = some (.int .i64 0) := Blk.cell b3 1
  have e2 : w3.cell? ⟨w.heap.size, 2, none⟩ = some (.slice none 0 0) := Blk.cell b3 2
  have f := Blk.free b3
  have R := hide (And.intro b3 (And.intro h1 (And.intro h3 (And.intro hcap k3))))
  clear b3 h1 h3 h4 k3 D5 hcap
  go_wp2
  obtain ⟨b3, h1, h3, hcap, k3⟩ := unhide R
  have P := putM b3 (.int .i64 n) (.int .i64 n) (.slice ao (n * n) cap)
  generalize (((w3.setCell ⟨w.heap.size, 0, none⟩ (.int .i64 n)).setCell ⟨w.heap.size, 1, none⟩ (.int .i64 n)).setCell ⟨w.heap.size, 2, none⟩ (.slice ao (n * n) cap)) = wE at *
  have c0 : wE.cell? ⟨w.heap.size, 0, none⟩ = some (.int .i64 n) := Blk.cell P.1 0
  have c1 : wE.cell? ⟨w.heap.size, 1, none⟩ = some (.int .i64 n) := Blk.cell P.1 1
  have c2 : wE.cell? ⟨w.heap.size, 2, none⟩ = some (.slice ao (n * n) cap) := Blk.cell P.1 2
  refine bodyPost_ret (v := .tuple #[.agg #[.int .i64 n, .int .i64 n, .slice ao (n * n) cap], .int .i64 0]) (by simp [results, Try.results8, go_sem, c0, c1, c2]) rfl ?_
  have hB := Blk.lt (unhide HB)
  have hs := (unhide HG).2.2
  have hk := (unhide K5).2.2.2
  exact ⟨_, _, Lb, rfl, by omega, h3.imp id (fun h => ⟨h.1, Blk.keep h.2 P.2 (by omega)⟩), hcap, ((Kp.of (unhide HG)).trans k3).mod P.2 (by omega)⟩

set_option maxHeartbeats 1000000 in
theorem matEye_bad (n : Int) (hn : ¬ (1 ≤ n ∧ n ≤ 12)) (Z : Nat → Int) (w : World) :
    Calls Try.prog 8 #[.int .i64 n] w fun e w' => MatP 0 0 0 Z 3 (Kp w) w e w' := by
  have FT := hide (fun w => matFits n w)
  rw [decide_eq_false hn] at FT
  have G : Grown w (w.alloc (.cells #[.int .i64 0, .int .i64 0, .slice none 0 0] 26)) := (Grown.refl _).alloc _ _
  have br := Blk.new w #[.int .i64 0, .int .i64 0, .slice none 0 0] 26
  have HG := hide G
  have HB := hide br
  clear G br hn
  go_enter Try.func8, Try.ntmps8
  go_wp2_with fail
  generalize w.alloc (.cells #[.int .i64 0, .int .i64 0, .slice none 0 0] 26) = w1 at *
  refine (unhide FT _).mono ?_
  rintro e w2 ⟨rfl, rfl⟩
  have e0 : w2.cell? ⟨w.heap.size, 0, none⟩ = some (.int .i64 0) := Blk.cell (unhide HB) 0
  have e1 : w2.cell? ⟨w.heap.size, 1, none⟩ = some (.int .i64 0) := Blk.cell (unhide HB) 1
  have e2 : w2.cell? ⟨w.heap.size, 2, none⟩ = some (.slice none 0 0) := Blk.cell (unhide HB) 2
  have f := Blk.free (unhide HB)
  go_wp2
  have P := putM (unhide HB) (.int .i64 0) (.int .i64 0) (.slice none 0 0)
  generalize (((w2.setCell ⟨w.heap.size, 0, none⟩ (.int .i64 0)).setCell ⟨w.heap.size, 1, none⟩ (.int .i64 0)).setCell ⟨w.heap.size, 2, none⟩ (.slice none 0 0)) = wE at *
  have c0 : wE.cell? ⟨w.heap.size, 0, none⟩ = some (.int .i64 0) := Blk.cell P.1 0
  have c1 : wE.cell? ⟨w.heap.size, 1, none⟩ = some (.int .i64 0) := Blk.cell P.1 1
  have c2 : wE.cell? ⟨w.heap.size, 2, none⟩ = some (.slice none 0 0) := Blk.cell P.1 2
  refine bodyPost_ret (v := .tuple #[.agg #[.int .i64 0, .int .i64 0, .slice none 0 0], .int .i64 3]) (by simp [results, Try.results8, go_sem, c0, c1, c2]) rfl ?_
  exact ⟨none, 0, w.heap.size, rfl, Nat.le_refl _, Or.inl rfl, Nat.le_refl _, (Kp.of (unhide HG)).mod P.2 (by omega)⟩

end Go.Proofs.Ytopaakjildmjcaa
