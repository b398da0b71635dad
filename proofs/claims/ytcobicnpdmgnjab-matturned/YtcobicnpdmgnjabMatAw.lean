/- The laws' helper awake: some of the chapter's examples. -/
import Derived.Test.YtcobicnpdmgnjabMatO
import Derived.Test.YtcobicnpdmgnjabMatN
namespace Go.Proofs.Ytcobicnpdmgnjab
open Go.RowKit Go.Shelf Go.Proofs.Wd
set_option linter.unusedVariables false
set_option linter.unusedSimpArgs false

/-- A list of whole numbers, as it is written, times One. -/
def oneL (l : List Int) : Nat → Int := fun i => ix l i * 4294967296
theorem lits_small {l : List Int} (h : ∀ x ∈ l, -1000000 ≤ x ∧ x ≤ 1000000) : ∀ i, i < l.length → -1000000 ≤ ix l i ∧ ix l i ≤ 1000000 := by
  intro i hi
  have : ix l i = l[i] := by simp [ix, hi]
  rw [this]
  exact h _ (List.getElem_mem _)
theorem oneL_I64 {l : List Int} (h : ∀ x ∈ l, -1000000 ≤ x ∧ x ≤ 1000000) : ∀ i, i < l.length → I64 (oneL l i) := by
  intro i hi
  have := lits_small h i hi
  unfold oneL I64
  omega
/-- A list that is written out, and the matrix of it. -/
theorem lawOfL (l : List Int) (n : Nat) (hl : l.length = n) (hn : n ≤ 1000000) (h : ∀ x ∈ l, -1000000 ≤ x ∧ x ≤ 1000000) (r c : Int) (b cap : Nat) (w : World) (hb : Blk b (l.map (Value.int .i64)).toArray 3 w) :
    Calls Try.prog 13 #[.int .i64 r, .int .i64 c, .slice (some ⟨b, 0, none⟩) n cap] w fun e w' => CopyM r c n (oneL l) w e w' := by
  subst hl
  exact lawOf r c _ _ cap (ix l) hn (lits_small h) w (row_lit hb)

theorem ok22 : okM 2 2 4 := ⟨⟨by omega, by omega⟩, ⟨by omega, by omega⟩, by decide⟩
theorem mul22 : ∀ i, i < 4 → mulZ (oneL [1, 2, 3, 4]) (oneL [0, 1, 1, 0]) 2 2 i = oneL [2, 1, 4, 3] i := by decide +kernel
theorem mul22c : (false || orC (mulG (oneL [1, 2, 3, 4]) (oneL [0, 1, 1, 0]) 2 2) 4) = false := by decide +kernel
theorem turn22 : ∀ i, i < 4 → turnZ (oneL [1, 2, 3, 4]) 2 2 i = oneL [1, 3, 2, 4] i := by decide +kernel

set_option maxRecDepth 20000 in
set_option maxHeartbeats 4000000 in
theorem lawMatAwake (w : World) : Calls Try.prog 4 #[] w fun e w' => e = .returned (.bool true) ∧ Kp w w' := by
  have N1 := hide (unitNew w)
  have hU := Nat.le_refl w.heap.size
  generalize e : w.heap.size = U at N1 hU
  replace hU : w.heap.size ≤ U := by omega
  have HE := hide hU
  clear e hU
  go_enter Try.func4, Try.ntmps4
  go_wp2_with fail
  refine (unhide N1).mono ?_
  rintro e w1 ⟨rfl, h1, g1⟩
  have S1 : Hid (UC U false 0 w1 ∧ LS w [U] [] [] w1) := ⟨h1, Kp.of g1, fun e he => (by simp at he; subst he; exact ⟨unhide HE, Blk.lt h1⟩), fun _ h => absurd h List.not_mem_nil, fun _ h => absurd h List.not_mem_nil⟩
  clear h1 g1 N1
  have b1 := Blk.new w1 #[.int .i64 1, .int .i64 2, .int .i64 3, .int .i64 4] 3
  have O1 := hide (lawOfL [1, 2, 3, 4] 4 rfl (by omega) (by simp) 2 2 w1.heap.size 4 _ b1)
  have K1 : Hid (Kp w1 (w1.alloc (.cells #[.int .i64 1, .int .i64 2, .int .i64 3, .int .i64 4] 3))) := (Kp.refl _).alloc _ _
  clear b1
  go_wp2_with fail
  generalize w1.alloc (.cells #[.int .i64 1, .int .i64 2, .int .i64 3, .int .i64 4] 3) = w2 at *
  refine (unhide O1).mono ?_
  intro e w3 hv
  have S3 : Hid (UC U false 0 w3) := Blk.kp (unhide S1).1 ((unhide K1).trans (let ⟨_, _, _, _, _, _, k⟩ := hv; k))
  obtain ⟨a1, p1, rfl, hp1, s3⟩ := ((unhide S1).2.kp (unhide K1)).copy hv
  have L3 := hide (And.intro hp1 s3)
  clear hv hp1 s3 O1 K1 S1
  have b1 := Blk.new w3 #[.int .i64 0, .int .i64 1, .int .i64 1, .int .i64 0] 3
  have O1 := hide (lawOfL [0, 1, 1, 0] 4 rfl (by omega) (by simp) 2 2 w3.heap.size 4 _ b1)
  have K1 : Hid (Kp w3 (w3.alloc (.cells #[.int .i64 0, .int .i64 1, .int .i64 1, .int .i64 0] 3))) := (Kp.refl _).alloc _ _
  clear b1
  go_wp2_with fail
  generalize w3.alloc (.cells #[.int .i64 0, .int .i64 1, .int .i64 1, .int .i64 0] 3) = w4 at *
  refine (unhide O1).mono ?_
  intro e w5 hv
  have S5 : Hid (UC U false 0 w5) := Blk.kp (unhide S3) ((unhide K1).trans (let ⟨_, _, _, _, _, _, k⟩ := hv; k))
  obtain ⟨a2, p2, rfl, hp2, s5⟩ := ((unhide L3).2.kp (unhide K1)).copy hv
  have L5 := hide (And.intro (unhide L3).1 (And.intro hp2 s5))
  clear hv hp2 s5 O1 K1 S3 L3
  have L6 := hide ((unhide L5).2.2.box2 #[.int .i64 2, .int .i64 2, .slice a1 4 p1] #[.int .i64 2, .int .i64 2, .slice a2 4 p2])
  have K6 : Hid (Kp w5 ((w5.alloc (.cells #[.int .i64 2, .int .i64 2, .slice a1 4 p1] 24)).alloc (.cells #[.int .i64 2, .int .i64 2, .slice a2 4 p2] 24))) := ((Kp.refl _).alloc _ _).alloc _ _
  go_wp2_with fail
  generalize (w5.alloc (.cells #[.int .i64 2, .int .i64 2, .slice a1 4 p1] 24)).alloc (.cells #[.int .i64 2, .int .i64 2, .slice a2 4 p2] 24) = w6 at *
  have U6 : Hid (UC U false 0 w6) := Blk.kp (unhide S5) (unhide K6)
  have r1 := (unhide L6).at (ao := a1) (len := 4) (Z := oneL [1, 2, 3, 4]) (by simp)
  have r2 := (unhide L6).at (ao := a2) (len := 4) (Z := oneL [0, 1, 1, 0]) (by simp)
  refine (mulAny U false 0 ⟨by omega, by omega⟩ 2 2 2 2 a1 a2 4 p1 4 p2 (oneL [1, 2, 3, 4]) (oneL [0, 1, 1, 0]) (unhide L5).1 (oneL_I64 (l := [1, 2, 3, 4]) (by simp)) (oneL_I64 (l := [0, 1, 1, 0]) (by simp)) w6 (unhide U6) r1.1 (r1.2 U (by simp)) r2.1 (r2.2 U (by simp)) _ (mulO_of ok22 ok22 rfl)).mono ?_
  intro e w7 hv
  have ls7 : LS w [U] _ _ w7 := (unhide L6).mk (by simp) (let ⟨_, _, _, _, _, _, _, x⟩ := hv; x.2)
  obtain ⟨ac, pc, B7, rfl, _, _, _, s7, u7⟩ := (unhide L6).told ls7 hv
  have s7' := s7.congr (Y := oneL [2, 1, 4, 3]) mul22
  have L7 := hide s7'
  have d0 : w7.cell? ⟨w5.heap.size, 0, none⟩ = some (.int .i64 2) := s7'.cell (b := w5.heap.size) (cs := #[.int .i64 2, .int .i64 2, .slice a1 4 p1]) (by simp) 0
  have d1 : w7.cell? ⟨w5.heap.size, 1, none⟩ = some (.int .i64 2) := s7'.cell (b := w5.heap.size) (cs := #[.int .i64 2, .int .i64 2, .slice a1 4 p1]) (by simp) 1
  have d2 : w7.cell? ⟨w5.heap.size, 2, none⟩ = some (.slice a1 4 p1) := s7'.cell (b := w5.heap.size) (cs := #[.int .i64 2, .int .i64 2, .slice a1 4 p1]) (by simp) 2
  have hlt := s7'.lt (b := w5.heap.size) (cs := #[.int .i64 2, .int .i64 2, .slice a1 4 p1]) (by simp)
  clear hv ls7 s7 s7' u7 r1 r2 U6 K6 S5
  have L8 := hide ((unhide L7).box #[.int .i64 2, .int .i64 2, .slice ac 4 pc])
  simp only [show Int.toNat 2 = 2 from rfl, show 2 * 2 = 4 from rfl]
  go_wp2_with fail
  generalize w7.alloc (.cells #[.int .i64 2, .int .i64 2, .slice ac 4 pc] 24) = w8 at *
  have r1 := (unhide L8).at (ao := a1) (len := 4) (Z := oneL [1, 2, 3, 4]) (by simp)
  refine (turnAny 2 2 a1 4 p1 (oneL [1, 2, 3, 4]) w8 r1.1 _ (turnO_of ok22)).mono ?_
  intro e w9 hv
  obtain ⟨ad, pd, B9, rfl, _, _, _, s9, _⟩ := (unhide L8).told ((unhide L8).kp (let ⟨_, _, _, _, _, _, _, x⟩ := hv; x)) hv
  have L9 := hide (s9.congr (Y := oneL [1, 3, 2, 4]) turn22)
  clear hv s9 r1 d0 d1 d2 hlt
  have L10 := hide ((unhide L9).box #[.int .i64 2, .int .i64 2, .slice ad 4 pd])
  simp only [show Int.toNat 2 = 2 from rfl, show 2 * 2 = 4 from rfl]
  go_wp2_with fail
  generalize w9.alloc (.cells #[.int .i64 2, .int .i64 2, .slice ad 4 pd] 24) = w10 at *
  have CW : Hid (∀ wx, Kp w10 wx → wx.cell? ⟨w7.heap.size, 0, none⟩ = some (.int .i64 2) ∧ wx.cell? ⟨w7.heap.size, 1, none⟩ = some (.int .i64 2) ∧ wx.cell? ⟨w7.heap.size, 2, none⟩ = some (.slice ac 4 pc) ∧ wx.cell? ⟨w9.heap.size, 0, none⟩ = some (.int .i64 2) ∧ wx.cell? ⟨w9.heap.size, 1, none⟩ = some (.int .i64 2) ∧ wx.cell? ⟨w9.heap.size, 2, none⟩ = some (.slice ad 4 pd)) := fun wx k => by
    have h := (unhide L10).kp k
    exact ⟨h.cell (b := w7.heap.size) (cs := #[.int .i64 2, .int .i64 2, .slice ac 4 pc]) (by simp) 0, h.cell (b := w7.heap.size) (cs := #[.int .i64 2, .int .i64 2, .slice ac 4 pc]) (by simp) 1, h.cell (b := w7.heap.size) (cs := #[.int .i64 2, .int .i64 2, .slice ac 4 pc]) (by simp) 2, h.cell (b := w9.heap.size) (cs := #[.int .i64 2, .int .i64 2, .slice ad 4 pd]) (by simp) 0, h.cell (b := w9.heap.size) (cs := #[.int .i64 2, .int .i64 2, .slice ad 4 pd]) (by simp) 1, h.cell (b := w9.heap.size) (cs := #[.int .i64 2, .int .i64 2, .slice ad 4 pd]) (by simp) 2⟩
  have Rc : Hid (∀ wx, Kp w10 wx → Row wx ac 4 (oneL [2, 1, 4, 3])) := fun wx k => (((unhide L10).kp k).at (ao := ac) (len := 4) (Z := oneL [2, 1, 4, 3]) (by simp)).1
  have Rd : Hid (∀ wx, Kp w10 wx → Row wx ad 4 (oneL [1, 3, 2, 4])) := fun wx k => (((unhide L10).kp k).at (ao := ad) (len := 4) (Z := oneL [1, 3, 2, 4]) (by simp)).1
  obtain ⟨x1, x2, x3, x4, x5, x6⟩ := unhide CW w10 (Kp.refl _)
  have hz1 : w7.heap.size < w10.heap.size := heap_gt x1
  have hz2 : w9.heap.size < w10.heap.size := heap_gt x4
  have O1 : Hid (∀ wx b, Blk b #[.int .i64 2, .int .i64 1, .int .i64 4, .int .i64 3] 3 wx → Calls Try.prog 13 #[.int .i64 2, .int .i64 2, .slice (some ⟨b, 0, none⟩) 4 4] wx fun e w' => CopyM 2 2 4 (oneL [2, 1, 4, 3]) wx e w') := fun wx b hb => lawOfL [2, 1, 4, 3] 4 rfl (by omega) (by simp) 2 2 b 4 wx hb
  have O2 : Hid (∀ wx b, Blk b #[.int .i64 1, .int .i64 3, .int .i64 2, .int .i64 4] 3 wx → Calls Try.prog 13 #[.int .i64 2, .int .i64 2, .slice (some ⟨b, 0, none⟩) 4 4] wx fun e w' => CopyM 2 2 4 (oneL [1, 3, 2, 4]) wx e w') := fun wx b hb => lawOfL [1, 3, 2, 4] 4 rfl (by omega) (by simp) 2 2 b 4 wx hb
  have KD : Hid (Kp w10 (w10.alloc (.cells #[.int .i64 2, .int .i64 1, .int .i64 4, .int .i64 3] 3)).drew) := (Kp.refl w10).alloc _ _
  have KW := hide (unhide L10).1
  clear L10 L9 L8 L7 L6 L5
  go_region_held3 (fun w' => w'.cell? ⟨w7.heap.size, 0, none⟩ = some (.int .i64 2) ∧ w'.cell? ⟨w7.heap.size, 1, none⟩ = some (.int .i64 2) ∧ w'.cell? ⟨w7.heap.size, 2, none⟩ = some (.slice ac 4 pc) ∧ w'.cell? ⟨w9.heap.size, 0, none⟩ = some (.int .i64 2) ∧ w'.cell? ⟨w9.heap.size, 1, none⟩ = some (.int .i64 2) ∧ w'.cell? ⟨w9.heap.size, 2, none⟩ = some (.slice ad 4 pd))
      (simp [go_sem, *])
      (first
        | (go_at_call 13; refine (unhide O1 _ w10.heap.size (show Blk w10.heap.size #[.int .i64 2, .int .i64 1, .int .i64 4, .int .i64 3] 3 (w10.alloc (.cells #[.int .i64 2, .int .i64 1, .int .i64 4, .int .i64 3] 3)).drew from Blk.new w10 _ _)).mono ?_; clear O1; rintro e w11 ⟨a3, p3, rfl, hp3, r3, _, k3⟩; have K11 : Hid (Kp w10 w11) := ((unhide KD).trans k3); have R3 := hide r3; obtain ⟨y1, y2, y3, y4, y5, y6⟩ := unhide CW w11 (unhide K11); have hz3 := heap_gt y1; have hz4 := heap_gt y4; clear r3 k3 KD hp3)
        | (go_at_call 11; refine (kitSameM 2 2 ac a3 4 pc p3 (oneL [2, 1, 4, 3]) (by omega) _ (unhide Rc _ (unhide K11)) (unhide R3)).mono ?_; clear R3 Rc; rintro e w12 ⟨rfl, k12⟩; have K12 : Hid (Kp w10 w12) := ((unhide K11).trans k12); obtain ⟨z1, z2, z3, z4, z5, z6⟩ := unhide CW w12 (unhide K12); have hz5 := heap_gt z1; have hz6 := heap_gt z4; have KE : Hid (Kp w10 (w12.alloc (.cells #[.int .i64 1, .int .i64 3, .int .i64 2, .int .i64 4] 3))) := ((unhide K12).alloc _ _); clear k12)
        | (go_at_call 13; refine (unhide O2 _ _ (Blk.new _ _ _)).mono ?_; clear O2; rintro e w13 ⟨a4, p4, rfl, hp4, r4, _, k4⟩; have K13 : Hid (Kp w10 w13) := ((unhide KE).trans k4); have R4 := hide r4; obtain ⟨v1, v2, v3, v4, v5, v6⟩ := unhide CW w13 (unhide K13); clear r4 k4 hp4 KE)
        | (go_at_call 11; refine (kitSameM 2 2 ad a4 4 pd p4 (oneL [1, 3, 2, 4]) (by omega) _ (unhide Rd _ (unhide K13)) (unhide R4)).mono ?_; clear R4 Rd; rintro e w14 ⟨rfl, k14⟩; have K14 : Hid (Kp w10 w14) := ((unhide K13).trans k14); obtain ⟨t1, t2, t3, t4, t5, t6⟩ := unhide CW w14 (unhide K14); clear k14))
  go_wp2
  go_ret
  exact ⟨rfl, (unhide KW).trans (unhide K14)⟩

end Go.Proofs.Ytcobicnpdmgnjab
