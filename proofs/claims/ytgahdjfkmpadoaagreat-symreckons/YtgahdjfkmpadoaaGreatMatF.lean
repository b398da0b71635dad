/- Package mat: turned, Turn, Eye. -/
import Derived.Test.YtgahdjfkmpadoaaGreatMatE
import Derived.Test.YtgahdjfkmpadoaaGreatVecD
namespace Go.Proofs.YtgahdjfkmpadoaaGreat
open Go.RowKit Go.Shelf Go.Proofs.Wd
set_option linter.unusedVariables false
set_option linter.unusedSimpArgs false
set_option maxRecDepth 10000

set_option maxHeartbeats 400000 in
theorem turned1 (i k r c b o cap Bm : Nat) (Z : Nat → Int) (hr : 1 ≤ r ∧ r ≤ 12) (hc : 1 ≤ c ∧ c ≤ 12) (hi : i < c) (hk : k < r) (w : World) (hb : Blk Bm #[.int .i64 r, .int .i64 c, .slice (some ⟨b, o, none⟩) (r * c) cap] 24 w) (hz : ∀ j, j < r * c → w.cell? ⟨b, o + j, none⟩ = some (.int .i64 (Z j))) :
    Calls Tryz.prog 78 (#[.int .i64 (i : Int), .int .i64 (k : Int)] ++ #[.pointer (some ⟨Bm, 0, none⟩)]) w fun e b => e = .returned (.int .i64 (turnZ Z r c (i * r + k))) ∧ Kp w b := by
  have hd : turnZ Z r c (i * r + k) = Z (k * c + i) := by
    unfold turnZ
    rw [place_div _ _ _ hk, place_mod _ _ _ hk]
  rw [hd]
  show Calls Tryz.prog 78 #[.int .i64 (i : Int), .int .i64 (k : Int), .pointer (some ⟨Bm, 0, none⟩)] w _
  have A := hide (matAt r c k i b o cap Z hr hc hk hi w (hz _ (place_in _ _ _ _ hk hi)))
  have d0 : w.cell? ⟨Bm, 0, none⟩ = some (.int .i64 r) := Blk.cell hb 0
  have d1 : w.cell? ⟨Bm, 1, none⟩ = some (.int .i64 c) := Blk.cell hb 1
  have d2 : w.cell? ⟨Bm, 2, none⟩ = some (.slice (some ⟨b, o, none⟩) (r * c) cap) := Blk.cell hb 2
  obtain ⟨z, hzz⟩ : ∃ z, Z (k * c + i) = z := ⟨_, rfl⟩
  rw [hzz] at A
  rw [hzz]
  obtain ⟨len, hlen⟩ : ∃ len, r * c = len := ⟨_, rfl⟩
  rw [hlen] at A d2
  clear hd hz hr hc hi hk hb hzz hlen
  go_enter Tryz.func78, Tryz.ntmps78
  go_wp2_with fail
  refine (unhide A).mono ?_
  rintro e w1 ⟨rfl, rfl⟩
  clear A
  go_wp2
  go_ret
  exact ⟨rfl, (Kp.refl _).alloc _ _⟩

set_option maxHeartbeats 1000000 in
theorem matTurned (r c b o cap : Nat) (Z : Nat → Int) (hr : 1 ≤ r ∧ r ≤ 12) (hc : 1 ≤ c ∧ c ≤ 12) (w : World) (hz : ∀ j, j < r * c → w.cell? ⟨b, o + j, none⟩ = some (.int .i64 (Z j))) :
    Calls Tryz.prog 57 #[.agg #[.int .i64 r, .int .i64 c, .slice (some ⟨b, o, none⟩) (r * c) cap]] w fun e w' => MadeP c r (turnZ Z r c) (Kp w) w e w' := by
  have G : Grown w ((w.alloc (.cells #[.int .i64 r, .int .i64 c, .slice (some ⟨b, o, none⟩) (r * c) cap] 24)).alloc (.cells #[.int .i64 0, .int .i64 0, .slice none 0 0] 24)) := ((Grown.refl _).alloc _ _).alloc _ _
  have bl : Blk w.heap.size #[.int .i64 r, .int .i64 c, .slice (some ⟨b, o, none⟩) (r * c) cap] 24 ((w.alloc (.cells #[.int .i64 r, .int .i64 c, .slice (some ⟨b, o, none⟩) (r * c) cap] 24)).alloc (.cells #[.int .i64 0, .int .i64 0, .slice none 0 0] 24)) := Blk.grown (Blk.new w _ _) ((Grown.refl _).alloc _ _)
  have br := blk_new2 w (.cells #[.int .i64 r, .int .i64 c, .slice (some ⟨b, o, none⟩) (r * c) cap] 24) #[.int .i64 0, .int .i64 0, .slice none 0 0] 24
  have d0 := Blk.cell bl 0
  have d1 := Blk.cell bl 1
  have MD := hide (madeN 78 (enters_of Tryz.func78 (by kernel_rfl) rfl) #[.pointer (some ⟨w.heap.size, 0, none⟩)] c r hc hr (turnZ Z r c) ((w.alloc (.cells #[.int .i64 r, .int .i64 c, .slice (some ⟨b, o, none⟩) (r * c) cap] 24)).alloc (.cells #[.int .i64 0, .int .i64 0, .slice none 0 0] 24))
    (fun i k a hi hk ka => turned1 i k r c b o cap w.heap.size Z hr hc hi hk a (Blk.kp bl ka) (fun j hj => ka.cell (gat G (hz j hj)))))
  have HG := hide G
  have HB := hide br
  obtain ⟨len, hlen⟩ : ∃ len, r * c = len := ⟨_, rfl⟩
  rw [hlen] at MD HG HB
  rw [hlen]
  clear G bl br hz hr hc hlen d0 d1
  go_enter Tryz.func57, Tryz.ntmps57
  go_wp2_with fail
  generalize (w.alloc (.cells #[.int .i64 r, .int .i64 c, .slice (some ⟨b, o, none⟩) len cap] 24)).alloc (.cells #[.int .i64 0, .int .i64 0, .slice none 0 0] 24) = w1 at *
  refine (unhide MD).mono ?_
  rintro e w3 ⟨Lb, h1, rfl, h3, h4⟩
  have b3 := Blk.kp (unhide HB) h4
  have e0 : w3.cell? ⟨w.heap.size + 1, 0, none⟩ = some (.int .i64 0) := Blk.cell b3 0
  have e1 : w3.cell? ⟨w.heap.size + 1, 1, none⟩ = some (.int .i64 0) := Blk.cell b3 1
  have e2 : w3.cell? ⟨w.heap.size + 1, 2, none⟩ = some (.slice none 0 0) := Blk.cell b3 2
  have f := Blk.free b3
  have R := hide (And.intro b3 (And.intro h1 (And.intro h3 h4)))
  clear b3 h1 h3 h4 MD
  go_wp2
  obtain ⟨b3, h1, h3, h4⟩ := unhide R
  have P := putM b3 (.int .i64 c) (.int .i64 r) (.slice (some ⟨Lb, 0, none⟩) (c * r) (c * r))
  generalize (((w3.setCell ⟨w.heap.size + 1, 0, none⟩ (.int .i64 c)).setCell ⟨w.heap.size + 1, 1, none⟩ (.int .i64 r)).setCell ⟨w.heap.size + 1, 2, none⟩ (.slice (some ⟨Lb, 0, none⟩) (c * r) (c * r))) = wE at *
  have c0 : wE.cell? ⟨w.heap.size + 1, 0, none⟩ = some (.int .i64 c) := Blk.cell P.1 0
  have c1 : wE.cell? ⟨w.heap.size + 1, 1, none⟩ = some (.int .i64 r) := Blk.cell P.1 1
  have c2 : wE.cell? ⟨w.heap.size + 1, 2, none⟩ = some (.slice (some ⟨Lb, 0, none⟩) (c * r) (c * r)) := Blk.cell P.1 2
  refine bodyPost_ret (v := .agg #[.int .i64 c, .int .i64 r, .slice (some ⟨Lb, 0, none⟩) (c * r) (c * r)]) (by simp [results, Tryz.results57, go_sem, c0, c1, c2]) rfl ?_
  have hB := Blk.lt (unhide HB)
  have hs := (unhide HG).2.2
  exact ⟨Lb, by omega, rfl, Blk.keep h3 P.2 (by omega), ((Kp.of (unhide HG)).trans h4).mod P.2 (by omega)⟩

set_option maxHeartbeats 1000000 in
theorem matTurn_ok (r c b o cap : Nat) (Z : Nat → Int) (hr : 1 ≤ r ∧ r ≤ 12) (hc : 1 ≤ c ∧ c ≤ 12) (w : World) (hz : ∀ j, j < r * c → w.cell? ⟨b, o + j, none⟩ = some (.int .i64 (Z j))) :
    Calls Tryz.prog 37 #[.agg #[.int .i64 r, .int .i64 c, .slice (some ⟨b, o, none⟩) (r * c) cap]] w fun e w' => MatP c r (c * r) (turnZ Z r c) 0 (Kp w) w e w' := by
  have G : Grown w ((w.alloc (.cells #[.int .i64 r, .int .i64 c, .slice (some ⟨b, o, none⟩) (r * c) cap] 24)).alloc (.cells #[.int .i64 0, .int .i64 0, .slice none 0 0] 24)) := ((Grown.refl _).alloc _ _).alloc _ _
  have bl : Blk w.heap.size #[.int .i64 r, .int .i64 c, .slice (some ⟨b, o, none⟩) (r * c) cap] 24 ((w.alloc (.cells #[.int .i64 r, .int .i64 c, .slice (some ⟨b, o, none⟩) (r * c) cap] 24)).alloc (.cells #[.int .i64 0, .int .i64 0, .slice none 0 0] 24)) := Blk.grown (Blk.new w _ _) ((Grown.refl _).alloc _ _)
  have br := blk_new2 w (.cells #[.int .i64 r, .int .i64 c, .slice (some ⟨b, o, none⟩) (r * c) cap] 24) #[.int .i64 0, .int .i64 0, .slice none 0 0] 24
  have HG := hide G
  have HB := hide (And.intro bl br)
  have CK := hide (fun w => matCheck r c (some ⟨b, o, none⟩) (r * c) cap w)
  rw [chk_ok ⟨by omega, by omega, by rw [Int.natCast_mul]⟩] at CK
  have T := hide (fun w hz => matTurned r c b o cap Z hr hc w hz)
  have HZ := hide hz
  obtain ⟨len, hlen⟩ : ∃ len, r * c = len := ⟨_, rfl⟩
  rw [hlen] at CK T HG HB HZ
  rw [hlen]
  clear G bl br hz hr hc hlen
  go_enter Tryz.func37, Tryz.ntmps37
  go_wp2_with fail
  generalize (w.alloc (.cells #[.int .i64 r, .int .i64 c, .slice (some ⟨b, o, none⟩) len cap] 24)).alloc (.cells #[.int .i64 0, .int .i64 0, .slice none 0 0] 24) = w1 at *
  refine (unhide CK _).mono ?_
  rintro e w2 ⟨rfl, g2⟩
  have K2 : Hid (Kp w1 w2) := Kp.of g2
  have d0 : w2.cell? ⟨w.heap.size, 0, none⟩ = some (.int .i64 r) := Blk.cell (Blk.grown (unhide HB).1 g2) 0
  have d1 : w2.cell? ⟨w.heap.size, 1, none⟩ = some (.int .i64 c) := Blk.cell (Blk.grown (unhide HB).1 g2) 1
  have d2 : w2.cell? ⟨w.heap.size, 2, none⟩ = some (.slice (some ⟨b, o, none⟩) len cap) := Blk.cell (Blk.grown (unhide HB).1 g2) 2
  have T2 := hide (unhide T w2 (fun j hj => (unhide K2).cell (gat (unhide HG) (unhide HZ j hj))))
  clear g2 T HZ CK
  go_wp2_with fail
  refine (unhide T2).mono ?_
  rintro e w3 ⟨Lb, h1, rfl, h3, h4⟩
  have k3 := (unhide K2).trans h4
  have b3 := Blk.kp (unhide HB).2 k3
  have e0 : w3.cell? ⟨w.heap.size + 1, 0, none⟩ = some (.int .i64 0) := Blk.cell b3 0
  have e1 : w3.cell? ⟨w.heap.size + 1, 1, none⟩ = some (.int .i64 0) := Blk.cell b3 1
  have e2 : w3.cell? ⟨w.heap.size + 1, 2, none⟩ = some (.slice none 0 0) := Blk.cell b3 2
  have f := Blk.free b3
  have R := hide (And.intro b3 (And.intro h1 (And.intro h3 k3)))
  clear b3 h1 h3 h4 k3 T2 d0 d1 d2
  go_wp2
  obtain ⟨b3, h1, h3, k3⟩ := unhide R
  have P := putM b3 (.int .i64 c) (.int .i64 r) (.slice (some ⟨Lb, 0, none⟩) (c * r) (c * r))
  generalize (((w3.setCell ⟨w.heap.size + 1, 0, none⟩ (.int .i64 c)).setCell ⟨w.heap.size + 1, 1, none⟩ (.int .i64 r)).setCell ⟨w.heap.size + 1, 2, none⟩ (.slice (some ⟨Lb, 0, none⟩) (c * r) (c * r))) = wE at *
  have c0 : wE.cell? ⟨w.heap.size + 1, 0, none⟩ = some (.int .i64 c) := Blk.cell P.1 0
  have c1 : wE.cell? ⟨w.heap.size + 1, 1, none⟩ = some (.int .i64 r) := Blk.cell P.1 1
  have c2 : wE.cell? ⟨w.heap.size + 1, 2, none⟩ = some (.slice (some ⟨Lb, 0, none⟩) (c * r) (c * r)) := Blk.cell P.1 2
  refine bodyPost_ret (v := .tuple #[.agg #[.int .i64 c, .int .i64 r, .slice (some ⟨Lb, 0, none⟩) (c * r) (c * r)], .int .i64 0]) (by simp [results, Tryz.results37, go_sem, c0, c1, c2]) rfl ?_
  have hB := Blk.lt (unhide HB).2
  have hs := (unhide HG).2.2
  have hk := (unhide K2).2.2.2
  exact ⟨_, _, Lb, rfl, by omega, Or.inr ⟨rfl, Blk.keep h3 P.2 (by omega)⟩, Nat.le_refl _, ((Kp.of (unhide HG)).trans k3).mod P.2 (by omega)⟩

set_option maxHeartbeats 1000000 in
theorem matTurn_bad (R C : Int) (ao : Option Addr) (len cap : Nat) (Z : Nat → Int) (hb : ¬ okM R C len) (w : World) :
    Calls Tryz.prog 37 #[.agg #[.int .i64 R, .int .i64 C, .slice ao len cap]] w fun e w' => MatP 0 0 0 Z 3 (Kp w) w e w' := by
  have G : Grown w ((w.alloc (.cells #[.int .i64 R, .int .i64 C, .slice ao len cap] 24)).alloc (.cells #[.int .i64 0, .int .i64 0, .slice none 0 0] 24)) := ((Grown.refl _).alloc _ _).alloc _ _
  have bl : Blk w.heap.size #[.int .i64 R, .int .i64 C, .slice ao len cap] 24 ((w.alloc (.cells #[.int .i64 R, .int .i64 C, .slice ao len cap] 24)).alloc (.cells #[.int .i64 0, .int .i64 0, .slice none 0 0] 24)) := Blk.grown (Blk.new w _ _) ((Grown.refl _).alloc _ _)
  have br := blk_new2 w (.cells #[.int .i64 R, .int .i64 C, .slice ao len cap] 24) #[.int .i64 0, .int .i64 0, .slice none 0 0] 24
  have HG := hide G
  have HB := hide (And.intro bl br)
  have CK := hide (fun w => matCheck R C ao len cap w)
  rw [chk_bad hb] at CK
  clear G bl br hb
  go_enter Tryz.func37, Tryz.ntmps37
  go_wp2_with fail
  generalize (w.alloc (.cells #[.int .i64 R, .int .i64 C, .slice ao len cap] 24)).alloc (.cells #[.int .i64 0, .int .i64 0, .slice none 0 0] 24) = w1 at *
  refine (unhide CK _).mono ?_
  rintro e w2 ⟨rfl, g2⟩
  have b3 := Blk.grown (unhide HB).2 g2
  have e0 : w2.cell? ⟨w.heap.size + 1, 0, none⟩ = some (.int .i64 0) := Blk.cell b3 0
  have e1 : w2.cell? ⟨w.heap.size + 1, 1, none⟩ = some (.int .i64 0) := Blk.cell b3 1
  have e2 : w2.cell? ⟨w.heap.size + 1, 2, none⟩ = some (.slice none 0 0) := Blk.cell b3 2
  have f := Blk.free b3
  have R := hide (And.intro b3 (Kp.of g2))
  clear b3 g2 CK
  go_wp2
  obtain ⟨b3, k3⟩ := unhide R
  have P := putM b3 (.int .i64 0) (.int .i64 0) (.slice none 0 0)
  generalize (((w2.setCell ⟨w.heap.size + 1, 0, none⟩ (.int .i64 0)).setCell ⟨w.heap.size + 1, 1, none⟩ (.int .i64 0)).setCell ⟨w.heap.size + 1, 2, none⟩ (.slice none 0 0)) = wE at *
  have c0 : wE.cell? ⟨w.heap.size + 1, 0, none⟩ = some (.int .i64 0) := Blk.cell P.1 0
  have c1 : wE.cell? ⟨w.heap.size + 1, 1, none⟩ = some (.int .i64 0) := Blk.cell P.1 1
  have c2 : wE.cell? ⟨w.heap.size + 1, 2, none⟩ = some (.slice none 0 0) := Blk.cell P.1 2
  refine bodyPost_ret (v := .tuple #[.agg #[.int .i64 0, .int .i64 0, .slice none 0 0], .int .i64 3]) (by simp [results, Tryz.results37, go_sem, c0, c1, c2]) rfl ?_
  exact ⟨none, 0, w.heap.size, rfl, Nat.le_refl _, Or.inl rfl, Nat.le_refl _, ((Kp.of (unhide HG)).trans k3).mod P.2 (by omega)⟩

end Go.Proofs.YtgahdjfkmpadoaaGreat
