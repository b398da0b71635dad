/- MatAw MatRL MatKS MatKn RegJ RegM MatOv RegN RegP PickA MatWa MatWb MatWi MatRW MatWholeLaw, one after another. -/
import Derived.Test.YtcobicnpdmgnjaaMatO
import Derived.Test.YtcobicnpdmgnjaaMatN
import Derived.Test.YtcobicnpdmgnjaaRowL
import Derived.Test.YtcobicnpdmgnjaaMatWholeDoc
import Derived.Orders
import Derived.Test.YtcobicnpdmgnjaaRowA
import Derived.Test.YtcobicnpdmgnjaaMatMath
import Derived.OpenShut
import Derived.Test.YtcobicnpdmgnjaaRows
import Derived.ProofKit
import Derived.Lib.SmallJoins
/- The laws' helper awake: some of the chapter's examples. -/
namespace Go.Proofs.Ytcobicnpdmgnjaa
open Go.RowKit Go.Shelf Go.Proofs.Wd
set_option linter.unusedVariables false
set_option linter.unusedSimpArgs false

/-- A list of whole numbers, as it is written, times One. -/
def oneL (l : List Int) : Nat → Int := fun i => ix l i * 4294967296
theorem lits_small {l : List Int} (h : ∀ x ∈ l, -1000000 ≤ x ∧ x ≤ 1000000) : ∀ i, i < l.length → -1000000 ≤ ix l i ∧ ix l i ≤ 1000000 := by
  intro i hi
  have : ix l i = l[i] := by simp [ix, hi]
  rw [this]
  exact h _ (List.getElem_mem _)
theorem oneL_I64 {l : List Int} (h : ∀ x ∈ l, -1000000 ≤ x ∧ x ≤ 1000000) : ∀ i, i < l.length → I64 (oneL l i) := by
  intro i hi
  have := lits_small h i hi
  unfold oneL I64
  omega
/-- A list that is written out, and the matrix of it. -/
theorem lawOfL (l : List Int) (n : Nat) (hl : l.length = n) (hn : n ≤ 1000000) (h : ∀ x ∈ l, -1000000 ≤ x ∧ x ≤ 1000000) (r c : Int) (b cap : Nat) (w : World) (hb : Blk b (l.map (Value.int .i64)).toArray 3 w) :
    Calls Try.prog 33 #[.int .i64 r, .int .i64 c, .slice (some ⟨b, 0, none⟩) n cap] w fun e w' => CopyM r c n (oneL l) w e w' := by
  subst hl
  exact lawOf r c _ _ cap (ix l) hn (lits_small h) w (row_lit hb)

theorem ok22 : okM 2 2 4 := ⟨⟨by omega, by omega⟩, ⟨by omega, by omega⟩, by decide⟩
theorem mul22 : ∀ i, i < 4 → mulZ (oneL [1, 2, 3, 4]) (oneL [0, 1, 1, 0]) 2 2 i = oneL [2, 1, 4, 3] i := by decide +kernel
theorem mul22c : (false || orC (mulG (oneL [1, 2, 3, 4]) (oneL [0, 1, 1, 0]) 2 2) 4) = false := by decide +kernel
theorem turn22 : ∀ i, i < 4 → turnZ (oneL [1, 2, 3, 4]) 2 2 i = oneL [1, 3, 2, 4] i := by decide +kernel

set_option maxRecDepth 20000 in
set_option maxHeartbeats 4000000 in
theorem lawMatAwake (w : World) : Calls Try.prog 9 #[] w fun e w' => e = .returned (.bool true) ∧ Kp w w' := by
  have N1 := hide (unitNew w)
  have hU := Nat.le_refl w.heap.size
  generalize e : w.heap.size = U at N1 hU
  replace hU : w.heap.size ≤ U := by omega
  have HE := hide hU
  clear e hU
  go_enter Try.func9, Try.ntmps9
  go_wp2_with fail
  refine (unhide N1).mono ?_
  rintro e w1 ⟨rfl, h1, g1⟩
  have S1 : Hid (UC U false 0 w1 ∧ LS w [U] [] [] w1) := ⟨h1, Kp.of g1, fun e he => (by simp at he; subst he; exact ⟨unhide HE, Blk.lt h1⟩), fun _ h => absurd h List.not_mem_nil, fun _ h => absurd h List.not_mem_nil⟩
  clear h1 g1 N1
  have b1 := Blk.new w1 #[.int .i64 1, .int .i64 2, .int .i64 3, .int .i64 4] 3
  have O1 := hide (lawOfL [1, 2, 3, 4] 4 rfl (by omega) (by simp) 2 2 w1.heap.size 4 _ b1)
  have K1 : Hid (Kp w1 (w1.alloc (.cells #[.int .i64 1, .int .i64 2, .int .i64 3, .int .i64 4] 3))) := (Kp.refl _).alloc _ _
  clear b1
  go_wp2_with fail
  generalize w1.alloc (.cells #[.int .i64 1, .int .i64 2, .int .i64 3, .int .i64 4] 3) = w2 at *
  refine (unhide O1).mono ?_
  intro e w3 hv
  have S3 : Hid (UC U false 0 w3) := Blk.kp (unhide S1).1 ((unhide K1).trans (let ⟨_, _, _, _, _, _, k⟩ := hv; k))
  obtain ⟨a1, p1, rfl, hp1, s3⟩ := ((unhide S1).2.kp (unhide K1)).copy hv
  have L3 := hide (And.intro hp1 s3)
  clear hv hp1 s3 O1 K1 S1
  have b1 := Blk.new w3 #[.int .i64 0, .int .i64 1, .int .i64 1, .int .i64 0] 3
  have O1 := hide (lawOfL [0, 1, 1, 0] 4 rfl (by omega) (by simp) 2 2 w3.heap.size 4 _ b1)
  have K1 : Hid (Kp w3 (w3.alloc (.cells #[.int .i64 0, .int .i64 1, .int .i64 1, .int .i64 0] 3))) := (Kp.refl _).alloc _ _
  clear b1
  go_wp2_with fail
  generalize w3.alloc (.cells #[.int .i64 0, .int .i64 1, .int .i64 1, .int .i64 0] 3) = w4 at *
  refine (unhide O1).mono ?_
  intro e w5 hv
  have S5 : Hid (UC U false 0 w5) := Blk.kp (unhide S3) ((unhide K1).trans (let ⟨_, _, _, _, _, _, k⟩ := hv; k))
  obtain ⟨a2, p2, rfl, hp2, s5⟩ := ((unhide L3).2.kp (unhide K1)).copy hv
  have L5 := hide (And.intro (unhide L3).1 (And.intro hp2 s5))
  clear hv hp2 s5 O1 K1 S3 L3
  have L6 := hide ((unhide L5).2.2.box2 #[.int .i64 2, .int .i64 2, .slice a1 4 p1] #[.int .i64 2, .int .i64 2, .slice a2 4 p2])
  have K6 : Hid (Kp w5 ((w5.alloc (.cells #[.int .i64 2, .int .i64 2, .slice a1 4 p1] 24)).alloc (.cells #[.int .i64 2, .int .i64 2, .slice a2 4 p2] 24))) := ((Kp.refl _).alloc _ _).alloc _ _
  go_wp2_with fail
  generalize (w5.alloc (.cells #[.int .i64 2, .int .i64 2, .slice a1 4 p1] 24)).alloc (.cells #[.int .i64 2, .int .i64 2, .slice a2 4 p2] 24) = w6 at *
  have U6 : Hid (UC U false 0 w6) := Blk.kp (unhide S5) (unhide K6)
  have r1 := (unhide L6).at (ao := a1) (len := 4) (Z := oneL [1, 2, 3, 4]) (by simp)
  have r2 := (unhide L6).at (ao := a2) (len := 4) (Z := oneL [0, 1, 1, 0]) (by simp)
  refine (mulAny U false 0 ⟨by omega, by omega⟩ 2 2 2 2 a1 a2 4 p1 4 p2 (oneL [1, 2, 3, 4]) (oneL [0, 1, 1, 0]) (unhide L5).1 (oneL_I64 (l := [1, 2, 3, 4]) (by simp)) (oneL_I64 (l := [0, 1, 1, 0]) (by simp)) w6 (unhide U6) r1.1 (r1.2 U (by simp)) r2.1 (r2.2 U (by simp)) _ (mulO_of ok22 ok22 rfl)).mono ?_
  intro e w7 hv
  have ls7 : LS w [U] _ _ w7 := (unhide L6).mk (by simp) (let ⟨_, _, _, _, _, _, _, x⟩ := hv; x.2)
  obtain ⟨ac, pc, B7, rfl, _, _, _, s7, u7⟩ := (unhide L6).told ls7 hv
  have s7' := s7.congr (Y := oneL [2, 1, 4, 3]) mul22
  have L7 := hide s7'
  have d0 : w7.cell? ⟨w5.heap.size, 0, none⟩ = some (.int .i64 2) := s7'.cell (b := w5.heap.size) (cs := #[.int .i64 2, .int .i64 2, .slice a1 4 p1]) (by simp) 0
  have d1 : w7.cell? ⟨w5.heap.size, 1, none⟩ = some (.int .i64 2) := s7'.cell (b := w5.heap.size) (cs := #[.int .i64 2, .int .i64 2, .slice a1 4 p1]) (by simp) 1
  have d2 : w7.cell? ⟨w5.heap.size, 2, none⟩ = some (.slice a1 4 p1) := s7'.cell (b := w5.heap.size) (cs := #[.int .i64 2, .int .i64 2, .slice a1 4 p1]) (by simp) 2
  have hlt := s7'.lt (b := w5.heap.size) (cs := #[.int .i64 2, .int .i64 2, .slice a1 4 p1]) (by simp)
  clear hv ls7 s7 s7' u7 r1 r2 U6 K6 S5
  have L8 := hide ((unhide L7).box #[.int .i64 2, .int .i64 2, .slice ac 4 pc])
  simp only [show Int.toNat 2 = 2 from rfl, show 2 * 2 = 4 from rfl]
  go_wp2_with fail
  generalize w7.alloc (.cells #[.int .i64 2, .int .i64 2, .slice ac 4 pc] 24) = w8 at *
  have r1 := (unhide L8).at (ao := a1) (len := 4) (Z := oneL [1, 2, 3, 4]) (by simp)
  refine (turnAny 2 2 a1 4 p1 (oneL [1, 2, 3, 4]) w8 r1.1 _ (turnO_of ok22)).mono ?_
  intro e w9 hv
  obtain ⟨ad, pd, B9, rfl, _, _, _, s9, _⟩ := (unhide L8).told ((unhide L8).kp (let ⟨_, _, _, _, _, _, _, x⟩ := hv; x)) hv
  have L9 := hide (s9.congr (Y := oneL [1, 3, 2, 4]) turn22)
  clear hv s9 r1 d0 d1 d2 hlt
  have L10 := hide ((unhide L9).box #[.int .i64 2, .int .i64 2, .slice ad 4 pd])
  simp only [show Int.toNat 2 = 2 from rfl, show 2 * 2 = 4 from rfl]
  go_wp2_with fail
  generalize w9.alloc (.cells #[.int .i64 2, .int .i64 2, .slice ad 4 pd] 24) = w10 at *
  have CW : Hid (∀ wx, Kp w10 wx → wx.cell? ⟨w7.heap.size, 0, none⟩ = some (.int .i64 2) ∧ wx.cell? ⟨w7.heap.size, 1, none⟩ = some (.int .i64 2) ∧ wx.cell? ⟨w7.heap.size, 2, none⟩ = some (.slice ac 4 pc) ∧ wx.cell? ⟨w9.heap.size, 0, none⟩ = some (.int .i64 2) ∧ wx.cell? ⟨w9.heap.size, 1, none⟩ = some (.int .i64 2) ∧ wx.cell? ⟨w9.heap.size, 2, none⟩ = some (.slice ad 4 pd)) := fun wx k => by
    have h := (unhide L10).kp k
    exact ⟨h.cell (b := w7.heap.size) (cs := #[.int .i64 2, .int .i64 2, .slice ac 4 pc]) (by simp) 0, h.cell (b := w7.heap.size) (cs := #[.int .i64 2, .int .i64 2, .slice ac 4 pc]) (by simp) 1, h.cell (b := w7.heap.size) (cs := #[.int .i64 2, .int .i64 2, .slice ac 4 pc]) (by simp) 2, h.cell (b := w9.heap.size) (cs := #[.int .i64 2, .int .i64 2, .slice ad 4 pd]) (by simp) 0, h.cell (b := w9.heap.size) (cs := #[.int .i64 2, .int .i64 2, .slice ad 4 pd]) (by simp) 1, h.cell (b := w9.heap.size) (cs := #[.int .i64 2, .int .i64 2, .slice ad 4 pd]) (by simp) 2⟩
  have Rc : Hid (∀ wx, Kp w10 wx → Row wx ac 4 (oneL [2, 1, 4, 3])) := fun wx k => (((unhide L10).kp k).at (ao := ac) (len := 4) (Z := oneL [2, 1, 4, 3]) (by simp)).1
  have Rd : Hid (∀ wx, Kp w10 wx → Row wx ad 4 (oneL [1, 3, 2, 4])) := fun wx k => (((unhide L10).kp k).at (ao := ad) (len := 4) (Z := oneL [1, 3, 2, 4]) (by simp)).1
  obtain ⟨x1, x2, x3, x4, x5, x6⟩ := unhide CW w10 (Kp.refl _)
  have hz1 : w7.heap.size < w10.heap.size := heap_gt x1
  have hz2 : w9.heap.size < w10.heap.size := heap_gt x4
  have O1 : Hid (∀ wx b, Blk b #[.int .i64 2, .int .i64 1, .int .i64 4, .int .i64 3] 3 wx → Calls Try.prog 33 #[.int .i64 2, .int .i64 2, .slice (some ⟨b, 0, none⟩) 4 4] wx fun e w' => CopyM 2 2 4 (oneL [2, 1, 4, 3]) wx e w') := fun wx b hb => lawOfL [2, 1, 4, 3] 4 rfl (by omega) (by simp) 2 2 b 4 wx hb
  have O2 : Hid (∀ wx b, Blk b #[.int .i64 1, .int .i64 3, .int .i64 2, .int .i64 4] 3 wx → Calls Try.prog 33 #[.int .i64 2, .int .i64 2, .slice (some ⟨b, 0, none⟩) 4 4] wx fun e w' => CopyM 2 2 4 (oneL [1, 3, 2, 4]) wx e w') := fun wx b hb => lawOfL [1, 3, 2, 4] 4 rfl (by omega) (by simp) 2 2 b 4 wx hb
  have KD : Hid (Kp w10 (w10.alloc (.cells #[.int .i64 2, .int .i64 1, .int .i64 4, .int .i64 3] 3)).drew) := (Kp.refl w10).alloc _ _
  have KW := hide (unhide L10).1
  clear L10 L9 L8 L7 L6 L5
  go_region_held3 (fun w' => w'.cell? ⟨w7.heap.size, 0, none⟩ = some (.int .i64 2) ∧ w'.cell? ⟨w7.heap.size, 1, none⟩ = some (.int .i64 2) ∧ w'.cell? ⟨w7.heap.size, 2, none⟩ = some (.slice ac 4 pc) ∧ w'.cell? ⟨w9.heap.size, 0, none⟩ = some (.int .i64 2) ∧ w'.cell? ⟨w9.heap.size, 1, none⟩ = some (.int .i64 2) ∧ w'.cell? ⟨w9.heap.size, 2, none⟩ = some (.slice ad 4 pd))
      (simp [go_sem, *])
      (first
        | (go_at_call 33; refine (unhide O1 _ w10.heap.size (show Blk w10.heap.size #[.int .i64 2, .int .i64 1, .int .i64 4, .int .i64 3] 3 (w10.alloc (.cells #[.int .i64 2, .int .i64 1, .int .i64 4, .int .i64 3] 3)).drew from Blk.new w10 _ _)).mono ?_; clear O1; rintro e w11 ⟨a3, p3, rfl, hp3, r3, _, k3⟩; have K11 : Hid (Kp w10 w11) := ((unhide KD).trans k3); have R3 := hide r3; obtain ⟨y1, y2, y3, y4, y5, y6⟩ := unhide CW w11 (unhide K11); have hz3 := heap_gt y1; have hz4 := heap_gt y4; clear r3 k3 KD hp3)
        | (go_at_call 20; refine (kitSameM 2 2 ac a3 4 pc p3 (oneL [2, 1, 4, 3]) (by omega) _ (unhide Rc _ (unhide K11)) (unhide R3)).mono ?_; clear R3 Rc; rintro e w12 ⟨rfl, k12⟩; have K12 : Hid (Kp w10 w12) := ((unhide K11).trans k12); obtain ⟨z1, z2, z3, z4, z5, z6⟩ := unhide CW w12 (unhide K12); have hz5 := heap_gt z1; have hz6 := heap_gt z4; have KE : Hid (Kp w10 (w12.alloc (.cells #[.int .i64 1, .int .i64 3, .int .i64 2, .int .i64 4] 3))) := ((unhide K12).alloc _ _); clear k12)
        | (go_at_call 33; refine (unhide O2 _ _ (Blk.new _ _ _)).mono ?_; clear O2; rintro e w13 ⟨a4, p4, rfl, hp4, r4, _, k4⟩; have K13 : Hid (Kp w10 w13) := ((unhide KE).trans k4); have R4 := hide r4; obtain ⟨v1, v2, v3, v4, v5, v6⟩ := unhide CW w13 (unhide K13); clear r4 k4 hp4 KE)
        | (go_at_call 20; refine (kitSameM 2 2 ad a4 4 pd p4 (oneL [1, 3, 2, 4]) (by omega) _ (unhide Rd _ (unhide K13)) (unhide R4)).mono ?_; clear R4 Rd; rintro e w14 ⟨rfl, k14⟩; have K14 : Hid (Kp w10 w14) := ((unhide K13).trans k14); obtain ⟨t1, t2, t3, t4, t5, t6⟩ := unhide CW w14 (unhide K14); clear k14))
  go_wp2
  go_ret
  exact ⟨rfl, (unhide KW).trans (unhide K14)⟩

end Go.Proofs.Ytcobicnpdmgnjaa

/- How matrices that are handed in lie in memory. -/
namespace Go.Proofs.Ytcobicnpdmgnjaa
open Go.ChangeShapes Go.WideShapes Go.ChangeAt Go.RowKit Go.Joins Go.Proofs.Wd Go.Deep
set_option linter.unusedVariables false
set_option linter.unusedSimpArgs false

set_option maxRecDepth 20000 in
theorem open_mat {H : Type} {enc : TypeId × Value → H} {W : World} {n : Nat} {cs : List Value} {y : DataW H × List MemPlace} (h : DataW.trod enc Try.prog W 0 (fun _ => true) true n 24 cs = some y) :
    ∃ (R C : Int) (ao : Option Addr) (ln lc : Nat) (Z : Nat → Int), cs = [.int .i64 R, .int .i64 C, .slice ao ln lc] ∧ I64 R ∧ I64 C ∧ ln ≤ lc ∧ lc ≤ 9223372036854775807 ∧ Row W ao ln Z ∧ (∀ i, i < ln → I64 (Z i)) ∧ (ao = none → ln = 0 ∧ lc = 0) := by
  obtain ⟨xs, m, _, _, hlen, hxl, hf⟩ := DataW.trod_struct Try.underlying24 h
  rw [show Try.prog.cellsOf 24 = 3 by kernel_rfl] at hlen
  match cs, hlen with
  | [v0, v1, v2], _ =>
  match xs, hxl with
  | [x0, x1, x2], _ =>
  have f0 : DataW.trod enc Try.prog W 0 (fun _ => true) true m 3 (([v0, v1, v2].drop 0).take (Try.prog.cellsOf 3)) = some x0 := hf 0 _ rfl
  rw [cellsInt] at f0
  have f1 : DataW.trod enc Try.prog W 0 (fun _ => true) true m 3 (([v0, v1, v2].drop 1).take (Try.prog.cellsOf 3)) = some x1 := hf 1 _ rfl
  rw [cellsInt] at f1
  have f2 : DataW.trod enc Try.prog W 0 (fun _ => true) true m 22 (([v0, v1, v2].drop 2).take (Try.prog.cellsOf 22)) = some x2 := hf 2 _ rfl
  rw [cellsInts] at f2
  obtain ⟨R, e0, _, w0⟩ := DataW.trod_int Try.underlying3 f0
  obtain ⟨C, e1, _, w1⟩ := DataW.trod_int Try.underlying3 f1
  obtain ⟨lo, ln, lc, lz, rfl, l1, l2, l3, l4, l5⟩ := open_row0 f2
  simp at e0 e1
  subst e0 e1
  exact ⟨R, C, lo, ln, lc, lz, rfl, i64_wf w0, i64_wf w1, l1, l2, l3, l4, l5⟩

end Go.Proofs.Ytcobicnpdmgnjaa

/- Laws with one unit under way. -/
namespace Go.Proofs.Ytcobicnpdmgnjaa
open Go.RowKit Go.Shelf Go.Proofs.Wd
set_option linter.unusedVariables false
set_option linter.unusedSimpArgs false

/-- One unit, whose flag is P's, and that has done at most D operations; matrices in cells, lists. -/
def KS (w : World) (U : Nat) (P : Bool → Prop) (D : Int) (bx : List (Nat × Array Value)) (rows : List (Option Addr × Nat × (Nat → Int))) (wx : World) : Prop :=
  (∃ c n, P c ∧ 0 ≤ n ∧ n ≤ D ∧ UC U c n wx) ∧ LS w [U] bx rows wx
section
variable {w : World} {U : Nat} {P : Bool → Prop} {D : Int} {bx : List (Nat × Array Value)} {rows : List (Option Addr × Nat × (Nat → Int))} {wx w' : World}
theorem KS.kp (h : KS w U P D bx rows wx) (k : Kp wx w') : KS w U P D bx rows w' := let ⟨c, n, h1, h2, h3, h4⟩ := h.1; ⟨⟨c, n, h1, h2, h3, Blk.kp h4 k⟩, h.2.kp k⟩
theorem KS.box (h : KS w U P D bx rows wx) (cs : Array Value) : KS w U P D ((wx.heap.size, cs) :: bx) rows (wx.alloc (.cells cs 24)) :=
  let ⟨c, n, h1, h2, h3, h4⟩ := h.1; ⟨⟨c, n, h1, h2, h3, Blk.grown h4 ((Grown.refl _).alloc _ _)⟩, h.2.box cs⟩
theorem KS.cells (h : KS w U P D bx rows wx) {b : Nat} {x y z : Value} (hb : (b, #[x, y, z]) ∈ bx) : wx.cell? ⟨b, 0, none⟩ = some x ∧ wx.cell? ⟨b, 1, none⟩ = some y ∧ wx.cell? ⟨b, 2, none⟩ = some z := ⟨h.2.cell hb 0, h.2.cell hb 1, h.2.cell hb 2⟩
theorem KS.row (h : KS w U P D bx rows wx) {ao : Option Addr} {len : Nat} {Z : Nat → Int} (hr : (ao, len, Z) ∈ rows) : Row wx ao len Z ∧ Off U len ao := ⟨(h.2.at hr).1, (h.2.at hr).2 U (by simp)⟩
theorem KS.congr {ao : Option Addr} {len : Nat} {Z Y : Nat → Int} (h : KS w U P D bx ((ao, len, Z) :: rows) wx) (hz : ∀ i, i < len → Z i = Y i) : KS w U P D bx ((ao, len, Y) :: rows) wx := ⟨h.1, h.2.congr hz⟩
/-- A list written out. -/
theorem KS.lit (h : KS w U P D bx rows wx) (l : List Int) : KS w U P D bx ((some ⟨wx.heap.size, 0, none⟩, l.length, ix l) :: rows) (wx.alloc (.cells (l.map (Value.int .i64)).toArray 3)) := by
  have k := h.kp (Kp.of ((Grown.refl wx).alloc (l.map (Value.int .i64)).toArray 3))
  refine ⟨k.1, k.2.row (row_lit (Blk.new wx _ _)) (fun e he => off_lit ?_)⟩
  have := (h.2.2.1 e he).2
  omega

/-- A matrix that the unit reckoned. -/
theorem KS.toldU {F : Nat} {args : Array Value} {r c err : Int} {len : Nat} {Z : Nat → Int} {G : Bool} {d : Int} (D' : Int) (h : KS w U P D bx rows wx) (hD : D ≤ 1000000000) (hd : 0 ≤ d ∧ D + d ≤ D') (hG : ∀ c, P c → P (c || G))
    (m : ∀ c0 n0, 0 ≤ n0 ∧ n0 < 1152921504606846976 → UC U c0 n0 wx → Calls Try.prog F args wx fun e w' => MatP r c len Z err (fun w' => UC U (c0 || G) (n0 + d) w' ∧ Mk U wx w') wx e w') :
    Calls Try.prog F args wx fun e w' => ∃ ao cap, e = .returned (.tuple #[.agg #[.int .i64 r, .int .i64 c, .slice ao len cap], .int .i64 err]) ∧ len ≤ cap ∧ KS w U P D' bx ((ao, len, Z) :: rows) w' := by
  obtain ⟨c0, n0, h1, h2, h3, h4⟩ := h.1
  refine (m c0 n0 ⟨h2, by omega⟩ h4).mono fun e w' hv => ?_
  have hx : UC U (c0 || G) (n0 + d) w' ∧ Mk U wx w' := let ⟨_, _, _, _, _, _, _, x⟩ := hv; x
  have t := h.2.mk (U := U) (by simp) hx.2
  obtain ⟨ao, cap, B, e1, e2, e3, e4, e5, _⟩ := h.2.told t hv
  exact ⟨ao, cap, e1, e2, ⟨_, _, hG _ h1, by omega, by omega, hx.1⟩, e5⟩
/-- A list that the unit reckoned. -/
theorem KS.listU {F : Nat} {args : Array Value} {err : Int} {len : Nat} {Z : Nat → Int} {G : Bool} {d : Int} (D' : Int) (h : KS w U P D bx rows wx) (hD : D ≤ 1000000000) (hd : 0 ≤ d ∧ D + d ≤ D') (hG : ∀ c, P c → P (c || G))
    (m : ∀ c0 n0, 0 ≤ n0 ∧ n0 < 1152921504606846976 → UC U c0 n0 wx → Calls Try.prog F args wx fun e w' => ListP len Z err (fun w' => UC U (c0 || G) (n0 + d) w' ∧ Mk U wx w') wx e w') :
    Calls Try.prog F args wx fun e w' => ∃ ao cap, e = .returned (.tuple #[.slice ao len cap, .int .i64 err]) ∧ len ≤ cap ∧ KS w U P D' bx ((ao, len, Z) :: rows) w' := by
  obtain ⟨c0, n0, h1, h2, h3, h4⟩ := h.1
  refine (m c0 n0 ⟨h2, by omega⟩ h4).mono fun e w' ⟨ao, cap, B, e1, e2, e3, e4, e5, e6⟩ => ?_
  have t := h.2.mk (U := U) (by simp) e6
  refine ⟨ao, cap, e1, e4, ⟨_, _, hG _ h1, by omega, by omega, e5⟩, t.row ?_ (fun e he => ?_)⟩
  · rcases e3 with rfl | ⟨rfl, hb⟩
    · exact Or.inl rfl
    · exact hb.row
  · rcases e3 with rfl | ⟨rfl, hb⟩
    · exact fun hl => absurd hl (Nat.lt_irrefl _)
    · exact off_blk (by have := (h.2.2.1 e he).2; omega)
/-- What no unit reckoned. -/
theorem KS.toldK {r c err : Int} {len : Nat} {Z : Nat → Int} {e : Ending} (h : KS w U P D bx rows wx) (hv : MatP r c len Z err (Kp wx) wx e w') : ∃ ao cap, e = .returned (.tuple #[.agg #[.int .i64 r, .int .i64 c, .slice ao len cap], .int .i64 err]) ∧ len ≤ cap ∧ KS w U P D bx ((ao, len, Z) :: rows) w' := by
  have hx : Kp wx w' := let ⟨_, _, _, _, _, _, _, x⟩ := hv; x
  have t := h.kp hx
  obtain ⟨ao, cap, B, e1, e2, e3, e4, e5, _⟩ := h.2.told t.2 hv
  exact ⟨ao, cap, e1, e2, t.1, e5⟩
theorem KS.rowK {err : Int} {len : Nat} {Z : Nat → Int} {e : Ending} (h : KS w U P D bx rows wx) (hv : RowP len Z err wx e w') : ∃ ao cap, e = .returned (.tuple #[.slice ao len cap, .int .i64 err]) ∧ KS w U P D bx ((ao, len, Z) :: rows) w' := by
  obtain ⟨ao, cap, B, e1, e2, e3, e4⟩ := hv
  have t := h.kp e4
  refine ⟨ao, cap, e1, t.1, t.2.row ?_ (fun e he => ?_)⟩
  · rcases e3 with rfl | ⟨rfl, hb⟩
    · exact Or.inl rfl
    · exact hb.row
  · rcases e3 with rfl | ⟨rfl, hb⟩
    · exact fun hl => absurd hl (Nat.lt_irrefl _)
    · exact off_blk (by have := (h.2.2.1 e he).2; omega)
theorem KS.copy {r c : Int} {len : Nat} {Z : Nat → Int} {e : Ending} (h : KS w U P D bx rows wx) (m : CopyM r c len Z wx e w') : ∃ ao cap, e = .returned (.agg #[.int .i64 r, .int .i64 c, .slice ao len cap]) ∧ len ≤ cap ∧ KS w U P D bx ((ao, len, Z) :: rows) w' := by
  have hx : Kp wx w' := let ⟨_, _, _, _, _, _, k⟩ := m; k
  obtain ⟨ao, cap, e1, e2, e3⟩ := h.2.copy m
  exact ⟨ao, cap, e1, e2, (h.kp hx).1, e3⟩
theorem KS.start {w1 : World} (hU : w.heap.size ≤ U) (h1 : UC U false 0 w1) (g1 : Grown w w1) (hP : P false) : KS w U P 0 [] [] w1 :=
  ⟨⟨false, 0, hP, by omega, by omega, h1⟩, Kp.of g1, fun e he => (by simp at he; subst he; exact ⟨hU, Blk.lt h1⟩), fun _ h => absurd h List.not_mem_nil, fun _ h => absurd h List.not_mem_nil⟩
end

/-- The calls, over rows. -/
theorem mulR (U : Nat) (r m c : Nat) (hr : 1 ≤ r ∧ r ≤ 12) (hm : 1 ≤ m ∧ m ≤ 12) (hc : 1 ≤ c ∧ c ≤ 12) (a1 a2 : Option Addr) (p1 p2 : Nat) (A B : Nat → Int) (hp : r * m ≤ p1) (hA : ∀ j, j < r * m → I64 (A j)) (hB : ∀ j, j < m * c → I64 (B j)) (w : World) (ra : Row w a1 (r * m) A ∧ Off U (r * m) a1) (rb : Row w a2 (m * c) B ∧ Off U (m * c) a2) (c0 : Bool) (n0 : Int) (hn : 0 ≤ n0 ∧ n0 < 1152921504606846976) (h : UC U c0 n0 w) :
    Calls Try.prog 27 #[.pointer (some ⟨U, 0, none⟩), .agg #[.int .i64 r, .int .i64 m, .slice a1 (r * m) p1], .agg #[.int .i64 m, .int .i64 c, .slice a2 (m * c) p2]] w fun e w' => MatP r c (r * c) (mulZ A B m c) 0 (fun w' => UC U (c0 || orC (mulG A B m c) (r * c)) (n0 + 2 * m * ((r * c : Nat) : Int)) w' ∧ Mk U w w') w e w' := by
  have k1 := mul12n r m hr hm
  have k2 := mul12n m c hm hc
  obtain ⟨b, o, rfl, za⟩ := ra.1.some k1.1
  obtain ⟨b2, o2, rfl, zb⟩ := rb.1.some k2.1
  exact matMul_ok U c0 n0 hn r m c b o p1 b2 o2 p2 A B hr hm hc hp hA hB w h za zb (off_at ra.2 k1.1) (off_at rb.2 k2.1)
theorem sumR (U : Nat) (r c : Nat) (hr : 1 ≤ r ∧ r ≤ 12) (hc : 1 ≤ c ∧ c ≤ 12) (a1 a2 : Option Addr) (p1 p2 : Nat) (A B : Nat → Int) (hA : ∀ j, j < r * c → I64 (A j)) (hB : ∀ j, j < r * c → I64 (B j)) (w : World) (ra : Row w a1 (r * c) A ∧ Off U (r * c) a1) (rb : Row w a2 (r * c) B ∧ Off U (r * c) a2) (c0 : Bool) (n0 : Int) (hn : 0 ≤ n0 ∧ n0 < 1152921504606846976) (h : UC U c0 n0 w) :
    Calls Try.prog 34 #[.pointer (some ⟨U, 0, none⟩), .agg #[.int .i64 r, .int .i64 c, .slice a1 (r * c) p1], .agg #[.int .i64 r, .int .i64 c, .slice a2 (r * c) p2]] w fun e w' => MatP r c (r * c) (fun p => s2N (A p) (B p)) 0 (fun w' => UC U (c0 || orC (fun p => s2C (A p) (B p)) (r * c)) (n0 + 2 * ((r * c : Nat) : Int)) w' ∧ Mk U w w') w e w' := by
  have k1 := mul12n r c hr hc
  obtain ⟨b, o, rfl, za⟩ := ra.1.some k1.1
  obtain ⟨b2, o2, rfl, zb⟩ := rb.1.some k1.1
  exact matSum_ok U c0 n0 hn r c b o p1 b2 o2 p2 A B hr hc hA hB w h za zb (off_at ra.2 k1.1) (off_at rb.2 k1.1)
theorem scaleR (U : Nat) (s : Int) (hs : I64 s) (r c : Nat) (hr : 1 ≤ r ∧ r ≤ 12) (hc : 1 ≤ c ∧ c ≤ 12) (a1 : Option Addr) (p1 : Nat) (A : Nat → Int) (hA : ∀ j, j < r * c → I64 (A j)) (w : World) (ra : Row w a1 (r * c) A ∧ Off U (r * c) a1) (c0 : Bool) (n0 : Int) (hn : 0 ≤ n0 ∧ n0 < 1152921504606846976) (h : UC U c0 n0 w) :
    Calls Try.prog 35 #[.pointer (some ⟨U, 0, none⟩), .agg #[.int .i64 r, .int .i64 c, .slice a1 (r * c) p1], .int .i64 s] w fun e w' => MatP r c (r * c) (fun p => m2N (A p) s) 0 (fun w' => UC U (c0 || orC (fun p => m2C (A p) s) (r * c)) (n0 + 2 * ((r * c : Nat) : Int)) w' ∧ Mk U w w') w e w' := by
  have k1 := mul12n r c hr hc
  obtain ⟨b, o, rfl, za⟩ := ra.1.some k1.1
  exact matScale_ok U c0 n0 s hs hn r c b o p1 A hr hc hA w h za (off_at ra.2 k1.1)
theorem appR (U : Nat) (r m : Nat) (hr : 1 ≤ r ∧ r ≤ 12) (hm : 1 ≤ m ∧ m ≤ 12) (a1 xo : Option Addr) (p1 xc : Nat) (A X : Nat → Int) (hp : r * m ≤ p1) (hA : ∀ j, j < r * m → I64 (A j)) (hX : ∀ j, j < m → I64 (X j)) (w : World) (ra : Row w a1 (r * m) A ∧ Off U (r * m) a1) (rx : Row w xo m X ∧ Off U m xo) (c0 : Bool) (n0 : Int) (hn : 0 ≤ n0 ∧ n0 < 1152921504606846976) (h : UC U c0 n0 w) :
    Calls Try.prog 29 #[.pointer (some ⟨U, 0, none⟩), .agg #[.int .i64 r, .int .i64 m, .slice a1 (r * m) p1], .slice xo m xc] w fun e w' => ListP r (appZ A X m) 0 (fun w' => UC U (c0 || orC (appG A X m) r) (n0 + 2 * m * (r : Int)) w' ∧ Mk U w w') w e w' := by
  have k1 := mul12n r m hr hm
  obtain ⟨b, o, rfl, za⟩ := ra.1.some k1.1
  exact matApply_ok U c0 n0 hn r m b o p1 xc xo A X hr hm hp hA hX w h za rx.1 (off_at ra.2 k1.1) rx.2
theorem mulBadR (U : Nat) (R1 C1 R2 C2 : Int) (a1 a2 : Option Addr) (l1 p1 l2 p2 : Nat) (Z : Nat → Int) (hb : ¬ (okM R1 C1 l1 ∧ okM R2 C2 l2 ∧ C1 = R2)) (w : World) (c0 : Bool) (n0 : Int) (hn : 0 ≤ n0 ∧ n0 < 1152921504606846976) (h : UC U c0 n0 w) :
    Calls Try.prog 27 #[.pointer (some ⟨U, 0, none⟩), .agg #[.int .i64 R1, .int .i64 C1, .slice a1 l1 p1], .agg #[.int .i64 R2, .int .i64 C2, .slice a2 l2 p2]] w fun e w' => MatP 0 0 0 Z 3 (fun w' => UC U (c0 || false) (n0 + 0) w' ∧ Mk U w w') w e w' := by
  rw [Bool.or_false, Int.add_zero]
  exact matMul_bad U c0 n0 hn R1 C1 R2 C2 a1 a2 l1 p1 l2 p2 Z hb w h

end Go.Proofs.Ytcobicnpdmgnjaa

/- MatKnown: the chapter's examples. -/
namespace Go.Proofs.Ytcobicnpdmgnjaa
open Go.RowKit Go.Shelf Go.Proofs.Wd
set_option linter.unusedVariables false
set_option linter.unusedSimpArgs false

theorem ix_one2 : ∀ j, j < 2 → I64 (ix [4294967296, 4294967296] j) := by
  intro j hj
  have : ix [4294967296, 4294967296] j = 4294967296 := by
    match j, hj with
    | 0, _ => rfl
    | 1, _ => rfl
  rw [this]
  unfold I64
  omega
theorem kn1 : ∀ i, i < 2 → appZ (oneL [1, 2, 3, 4]) (ix [4294967296, 4294967296]) 2 i = oneL [3, 7] i := by decide +kernel
theorem kn2 : ∀ i, i < 4 → s2N (oneL [1, 2, 3, 4] i) (oneL [0, 1, 1, 0] i) = oneL [1, 3, 4, 4] i := by decide +kernel
theorem kn3 : ∀ i, i < 4 → diagZ oneZ 2 i = oneL [1, 0, 0, 1] i := by decide +kernel
theorem kn4 : ∀ i, i < 4 → diagZ (ix [5, 6]) 2 i = ix [5, 0, 0, 6] i := by decide +kernel
theorem kn5 : ∀ i, i < 2 → rowZ (oneL [1, 2, 3, 4]) 2 1 i = oneL [3, 4] i := by decide +kernel
theorem kn6 : ∀ i, i < 4 → m2N (oneL [1, 2, 3, 4] i) 2147483648 = ix [2147483648, 4294967296, 6442450944, 8589934592] i := by decide +kernel

theorem kitSameK (ao bo : Option Addr) (len c1 c2 : Nat) (X : Nat → Int) (hl : len ≤ 1000000) (w : World) (hr : Row w ao len X) (ht : Row w bo len X) :
    Calls Try.prog 21 #[.slice ao len c1, .slice bo len c2] w fun e w' => e = .returned (.bool true) ∧ Kp w w' :=
  (kitSameQ ao bo len c1 c2 X hl w hr ht).mono fun e w' ⟨h, n, hn⟩ => ⟨h, by rw [hn]; exact Kp.refl w⟩

theorem field2 (x y : Int) (ao : Option Addr) (n p : Nat) (w : World) : (Instr.field 24 (.agg #[.int .i64 x, .int .i64 y, .slice ao n p]) 2).run Try.prog w = .ok (.slice ao n p) w := by kernel_rfl


set_option maxRecDepth 50000 in
set_option maxHeartbeats 16000000 in
theorem lawMatKnown (w : World) : Calls Try.prog 5 #[] w fun e w' => e = .returned (.bool true) ∧ Kp w w' := by
  have N1 := hide (unitNew w)
  have hU := Nat.le_refl w.heap.size
  generalize e : w.heap.size = U at N1 hU
  replace hU : w.heap.size ≤ U := by omega
  have HE := hide hU
  clear e hU
  go_enter Try.func5, Try.ntmps5
  go_wp2_with fail
  refine (unhide N1).mono ?_
  rintro e w1 ⟨rfl, h1, g1⟩
  have K1 : Hid (KS w U (fun _ => True) 0 [] [] w1) := KS.start (unhide HE) h1 g1 trivial
  clear h1 g1 N1
  have O1 := hide (lawOfL [1, 2, 3, 4] 4 rfl (by omega) (by simp) 2 2 w1.heap.size 4 _ (Blk.new w1 #[.int .i64 1, .int .i64 2, .int .i64 3, .int .i64 4] 3))
  have KK : Hid (Kp w1 (w1.alloc (.cells #[.int .i64 1, .int .i64 2, .int .i64 3, .int .i64 4] 3))) := (Kp.refl _).alloc _ _
  go_wp2_with fail
  generalize w1.alloc (.cells #[.int .i64 1, .int .i64 2, .int .i64 3, .int .i64 4] 3) = w2 at *
  refine (unhide O1).mono ?_
  intro e w3 hv
  obtain ⟨a1, p1, rfl, hp1, k⟩ := ((unhide K1).kp (unhide KK)).copy hv
  have K3 := hide k
  have Hp1 := hide hp1
  clear hv k O1 KK K1 hp1
  have O1 := hide (lawOfL [0, 1, 1, 0] 4 rfl (by omega) (by simp) 2 2 w3.heap.size 4 _ (Blk.new w3 #[.int .i64 0, .int .i64 1, .int .i64 1, .int .i64 0] 3))
  have KK : Hid (Kp w3 (w3.alloc (.cells #[.int .i64 0, .int .i64 1, .int .i64 1, .int .i64 0] 3))) := (Kp.refl _).alloc _ _
  go_wp2_with fail
  generalize w3.alloc (.cells #[.int .i64 0, .int .i64 1, .int .i64 1, .int .i64 0] 3) = w4 at *
  refine (unhide O1).mono ?_
  intro e w5 hv
  obtain ⟨a2, p2, rfl, hp2, k⟩ := ((unhide K3).kp (unhide KK)).copy hv
  have K5 := hide k
  have Hp2 := hide hp2
  clear hv k O1 KK K3 hp2
  have K6 := hide ((((unhide K5).box #[.int .i64 2, .int .i64 2, .slice a1 4 p1]).box #[.int .i64 2, .int .i64 2, .slice a2 4 p2]).lit [4294967296, 4294967296])
  simp only [World.size_alloc] at K6
  go_wp2_with fail
  generalize hw6 : ((w5.alloc (.cells #[.int .i64 2, .int .i64 2, .slice a1 4 p1] 24)).alloc (.cells #[.int .i64 2, .int .i64 2, .slice a2 4 p2] 24)).alloc (.cells #[.int .i64 4294967296, .int .i64 4294967296] 3) = w6 at *
  have K6' : Hid (KS w U (fun _ => True) 0 [(w5.heap.size + 1, #[.int .i64 2, .int .i64 2, .slice a2 4 p2]), (w5.heap.size, #[.int .i64 2, .int .i64 2, .slice a1 4 p1])] [(some ⟨w5.heap.size + 1 + 1, 0, none⟩, 2, ix [4294967296, 4294967296]), (a2, 4, oneL [0, 1, 1, 0]), (a1, 4, oneL [1, 2, 3, 4])] w6) := by
    rw [← hw6]
    exact unhide K6
  clear K6 hw6 K5
  refine (KS.listU 100 (unhide K6') (by omega) (by decide) (fun _ _ => trivial) (fun c0 n0 hn hu => appR U 2 2 (by omega) (by omega) a1 (some ⟨w5.heap.size + 1 + 1, 0, none⟩) p1 2 (oneL [1, 2, 3, 4]) (ix [4294967296, 4294967296]) (unhide Hp1) (oneL_I64 (l := [1, 2, 3, 4]) (by simp)) ix_one2 w6 ((unhide K6').row (by simp)) ((unhide K6').row (by simp)) c0 n0 hn hu)).mono ?_
  rintro e w7 ⟨ax, px, rfl, _, k7⟩
  have K7 := hide (k7.congr (Y := oneL [3, 7]) kn1)
  clear k7 K6'
  obtain ⟨x0, x1, x2⟩ := (unhide K7).cells (b := w5.heap.size) (x := .int .i64 2) (y := .int .i64 2) (z := .slice a1 4 p1) (by simp)
  obtain ⟨y0, y1, y2⟩ := (unhide K7).cells (b := w5.heap.size + 1) (x := .int .i64 2) (y := .int .i64 2) (z := .slice a2 4 p2) (by simp)
  go_wp2_with fail
  refine (KS.toldU 200 (unhide K7) (by omega) (by decide) (fun _ _ => trivial) (fun c0 n0 hn hu => sumR U 2 2 (by omega) (by omega) a1 a2 p1 p2 (oneL [1, 2, 3, 4]) (oneL [0, 1, 1, 0]) (oneL_I64 (l := [1, 2, 3, 4]) (by simp)) (oneL_I64 (l := [0, 1, 1, 0]) (by simp)) w7 ((unhide K7).row (by simp)) ((unhide K7).row (by simp)) c0 n0 hn hu)).mono ?_
  rintro e w8 ⟨ac, pc, rfl, _, k8⟩
  have K8 := hide ((k8.congr (Y := oneL [1, 3, 4, 4]) kn2).box #[.int .i64 2, .int .i64 2, .slice ac 4 pc])
  generalize hw9 : w8.alloc (.cells #[.int .i64 2, .int .i64 2, .slice ac 4 pc] 24) = w9 at K8
  clear k8 K7 x0 x1 x2 y0 y1 y2
  go_wp2_with fail
  clear hw9
  refine (matEye_ok 2 (by omega) _).mono ?_
  intro e w10 hv
  obtain ⟨ad, pd, rfl, _, k10⟩ := (unhide K8).toldK hv
  have K10 := hide (((k10.congr (Y := oneL [1, 0, 0, 1]) kn3).box #[.int .i64 2, .int .i64 2, .slice ad 4 pd]).lit [5, 6])
  simp only [World.size_alloc] at K10
  clear hv k10 K8
  go_wp2_with fail
  generalize hw11 : (w10.alloc (.cells #[.int .i64 2, .int .i64 2, .slice ad 4 pd] 24)).alloc (.cells #[.int .i64 5, .int .i64 6] 3) = w11 at *
  have K11 : Hid (KS w U (fun _ => True) 200 [(w10.heap.size, #[.int .i64 2, .int .i64 2, .slice ad 4 pd]), (w8.heap.size, #[.int .i64 2, .int .i64 2, .slice ac 4 pc]), (w5.heap.size + 1, #[.int .i64 2, .int .i64 2, .slice a2 4 p2]), (w5.heap.size, #[.int .i64 2, .int .i64 2, .slice a1 4 p1])] [(some ⟨w10.heap.size + 1, 0, none⟩, 2, ix [5, 6]), (ad, 4, oneL [1, 0, 0, 1]), (ac, 4, oneL [1, 3, 4, 4]), (ax, 2, oneL [3, 7]), (some ⟨w5.heap.size + 1 + 1, 0, none⟩, 2, ix [4294967296, 4294967296]), (a2, 4, oneL [0, 1, 1, 0]), (a1, 4, oneL [1, 2, 3, 4])] w11) := by
    rw [← hw11]
    exact unhide K10
  clear K10 hw11
  refine (matDiag_ok 2 2 (some ⟨w10.heap.size + 1, 0, none⟩) (ix [5, 6]) (by omega) _ ((unhide K11).row (by simp)).1).mono ?_
  intro e w12 hv
  obtain ⟨ap, pp, rfl, _, k12⟩ := (unhide K11).toldK hv
  have K12 := hide ((k12.congr (Y := ix [5, 0, 0, 6]) kn4).box #[.int .i64 2, .int .i64 2, .slice ap 4 pp])
  generalize hw13 : w12.alloc (.cells #[.int .i64 2, .int .i64 2, .slice ap 4 pp] 24) = w13 at K12
  clear hv k12 K11
  obtain ⟨x0, x1, x2⟩ := (unhide K12).cells (b := w5.heap.size) (x := .int .i64 2) (y := .int .i64 2) (z := .slice a1 4 p1) (by simp)
  go_wp2_with fail
  clear hw13
  refine (rowAny 2 2 a1 4 p1 (oneL [1, 2, 3, 4]) 1 (unhide Hp1) _ ((unhide K12).row (by simp)).1 _ (if_pos ⟨ok22, by omega, by omega⟩)).mono ?_
  intro e w14 hv
  obtain ⟨ar, pr, rfl, k14⟩ := (unhide K12).rowK hv
  have K14 := hide (k14.congr (Y := oneL [3, 4]) kn5)
  clear hv k14 K12 x0 x1 x2
  obtain ⟨x0, x1, x2⟩ := (unhide K14).cells (b := w5.heap.size) (x := .int .i64 2) (y := .int .i64 2) (z := .slice a1 4 p1) (by simp)
  simp only [show Int.toNat 2 = 2 from rfl]
  go_wp2_with fail
  refine (KS.toldU 300 (unhide K14) (by omega) (by decide) (fun _ _ => trivial) (fun c0 n0 hn hu => scaleR U 2147483648 (by unfold I64; omega) 2 2 (by omega) (by omega) a1 p1 (oneL [1, 2, 3, 4]) (oneL_I64 (l := [1, 2, 3, 4]) (by simp)) w14 ((unhide K14).row (by simp)) c0 n0 hn hu)).mono ?_
  rintro e w15 ⟨aq, pq, rfl, _, k15⟩
  have K15 := hide ((k15.congr (Y := ix [2147483648, 4294967296, 6442450944, 8589934592]) kn6).box #[.int .i64 2, .int .i64 2, .slice aq 4 pq])
  generalize hw16 : w15.alloc (.cells #[.int .i64 2, .int .i64 2, .slice aq 4 pq] 24) = w16 at K15
  clear k15 K14 x0 x1 x2
  go_wp2_with fail
  clear hw16
  have FL := field2
  have CW : Hid (∀ wx, Kp w16 wx → wx.cell? ⟨w8.heap.size, 0, none⟩ = some (.int .i64 2) ∧ wx.cell? ⟨w8.heap.size, 1, none⟩ = some (.int .i64 2) ∧ wx.cell? ⟨w8.heap.size, 2, none⟩ = some (.slice ac 4 pc) ∧ wx.cell? ⟨w10.heap.size, 0, none⟩ = some (.int .i64 2) ∧ wx.cell? ⟨w10.heap.size, 1, none⟩ = some (.int .i64 2) ∧ wx.cell? ⟨w10.heap.size, 2, none⟩ = some (.slice ad 4 pd) ∧ wx.cell? ⟨w12.heap.size, 2, none⟩ = some (.slice ap 4 pp)) := fun wx k => by
    have h := (unhide K15).kp k
    have c1 := h.cells (b := w8.heap.size) (x := .int .i64 2) (y := .int .i64 2) (z := .slice ac 4 pc) (by simp)
    have c2 := h.cells (b := w10.heap.size) (x := .int .i64 2) (y := .int .i64 2) (z := .slice ad 4 pd) (by simp)
    have c3 := h.cells (b := w12.heap.size) (x := .int .i64 2) (y := .int .i64 2) (z := .slice ap 4 pp) (by simp)
    exact ⟨c1.1, c1.2.1, c1.2.2, c2.1, c2.2.1, c2.2.2, c3.2.2⟩
  have Rx : Hid (∀ wx, Kp w16 wx → Row wx ax 2 (oneL [3, 7])) := fun wx k => (((unhide K15).kp k).row (ao := ax) (len := 2) (Z := oneL [3, 7]) (by simp)).1
  have Rc : Hid (∀ wx, Kp w16 wx → Row wx ac 4 (oneL [1, 3, 4, 4])) := fun wx k => (((unhide K15).kp k).row (ao := ac) (len := 4) (Z := oneL [1, 3, 4, 4]) (by simp)).1
  have Rd : Hid (∀ wx, Kp w16 wx → Row wx ad 4 (oneL [1, 0, 0, 1])) := fun wx k => (((unhide K15).kp k).row (ao := ad) (len := 4) (Z := oneL [1, 0, 0, 1]) (by simp)).1
  have Rp : Hid (∀ wx, Kp w16 wx → Row wx ap 4 (ix [5, 0, 0, 6])) := fun wx k => (((unhide K15).kp k).row (ao := ap) (len := 4) (Z := ix [5, 0, 0, 6]) (by simp)).1
  have O1 : Hid (∀ wx b, Blk b #[.int .i64 3, .int .i64 7] 3 wx → Calls Try.prog 33 #[.int .i64 1, .int .i64 2, .slice (some ⟨b, 0, none⟩) 2 2] wx fun e w' => CopyM 1 2 2 (oneL [3, 7]) wx e w') := fun wx b hb => lawOfL [3, 7] 2 rfl (by omega) (by simp) 1 2 b 2 wx hb
  have O2 : Hid (∀ wx b, Blk b #[.int .i64 1, .int .i64 3, .int .i64 4, .int .i64 4] 3 wx → Calls Try.prog 33 #[.int .i64 2, .int .i64 2, .slice (some ⟨b, 0, none⟩) 4 4] wx fun e w' => CopyM 2 2 4 (oneL [1, 3, 4, 4]) wx e w') := fun wx b hb => lawOfL [1, 3, 4, 4] 4 rfl (by omega) (by simp) 2 2 b 4 wx hb
  have O3 : Hid (∀ wx b, Blk b #[.int .i64 1, .int .i64 0, .int .i64 0, .int .i64 1] 3 wx → Calls Try.prog 33 #[.int .i64 2, .int .i64 2, .slice (some ⟨b, 0, none⟩) 4 4] wx fun e w' => CopyM 2 2 4 (oneL [1, 0, 0, 1]) wx e w') := fun wx b hb => lawOfL [1, 0, 0, 1] 4 rfl (by omega) (by simp) 2 2 b 4 wx hb
  obtain ⟨x1, x2, x3, x4, x5, x6, x7⟩ := unhide CW w16 (Kp.refl _)
  have xa := heap_gt x1
  have xb := heap_gt x4
  have xc := heap_gt x7
  have KD : Hid (Kp w16 (w16.alloc (.cells #[.int .i64 3, .int .i64 7] 3)).drew) := (Kp.refl w16).alloc _ _
  go_region_held3 (fun w' => w'.cell? ⟨w8.heap.size, 0, none⟩ = some (.int .i64 2) ∧ w'.cell? ⟨w8.heap.size, 1, none⟩ = some (.int .i64 2) ∧ w'.cell? ⟨w8.heap.size, 2, none⟩ = some (.slice ac 4 pc) ∧ w'.cell? ⟨w10.heap.size, 0, none⟩ = some (.int .i64 2) ∧ w'.cell? ⟨w10.heap.size, 1, none⟩ = some (.int .i64 2) ∧ w'.cell? ⟨w10.heap.size, 2, none⟩ = some (.slice ad 4 pd) ∧ w'.cell? ⟨w12.heap.size, 2, none⟩ = some (.slice ap 4 pp))
      (simp [go_sem, *])
      (first
        | (go_at_call 33; refine (unhide O1 _ w16.heap.size (show Blk w16.heap.size #[.int .i64 3, .int .i64 7] 3 (w16.alloc (.cells #[.int .i64 3, .int .i64 7] 3)).drew from Blk.new w16 _ _)).mono ?_; clear O1; rintro e w17 ⟨a3, p3, rfl, _, r3, _, k3⟩; have K17 : Hid (Kp w16 w17) := ((unhide KD).trans k3); have R3 := hide r3; obtain ⟨y1, y2, y3, y4, y5, y6, y7⟩ := unhide CW w17 (unhide K17); have ya := heap_gt y1; have yb := heap_gt y4; have yc := heap_gt y7; clear r3 k3 KD)
        | (go_at_call 21; refine (kitSameK ax a3 2 px p3 (oneL [3, 7]) (by omega) _ (unhide Rx _ (unhide K17)) (unhide R3)).mono ?_; clear R3 Rx; rintro e w18 ⟨rfl, k18⟩; have K18 : Hid (Kp w16 w18) := ((unhide K17).trans k18); obtain ⟨z1, z2, z3, z4, z5, z6, z7⟩ := unhide CW w18 (unhide K18); have za := heap_gt z1; have zb := heap_gt z4; have zc := heap_gt z7; have KE : Hid (Kp w16 (w18.alloc (.cells #[.int .i64 1, .int .i64 3, .int .i64 4, .int .i64 4] 3))) := ((unhide K18).alloc _ _); clear k18)
        | (go_at_call 33; refine (unhide O2 _ _ (Blk.new _ _ _)).mono ?_; clear O2; rintro e w19 ⟨a4, p4, rfl, _, r4, _, k4⟩; have K19 : Hid (Kp w16 w19) := ((unhide KE).trans k4); have R4 := hide r4; obtain ⟨v1, v2, v3, v4, v5, v6, v7⟩ := unhide CW w19 (unhide K19); have va := heap_gt v1; have vb := heap_gt v4; have vc := heap_gt v7; clear r4 k4 KE)
        | (go_at_call 20; refine (kitSameM 2 2 ac a4 4 pc p4 (oneL [1, 3, 4, 4]) (by omega) _ (unhide Rc _ (unhide K19)) (unhide R4)).mono ?_; clear R4 Rc; rintro e w20 ⟨rfl, k20⟩; have K20 : Hid (Kp w16 w20) := ((unhide K19).trans k20); obtain ⟨t1, t2, t3, t4, t5, t6, t7⟩ := unhide CW w20 (unhide K20); have ta := heap_gt t1; have tb := heap_gt t4; have tc := heap_gt t7; have KF : Hid (Kp w16 (w20.alloc (.cells #[.int .i64 1, .int .i64 0, .int .i64 0, .int .i64 1] 3))) := ((unhide K20).alloc _ _); clear k20)
        | (go_at_call 33; refine (unhide O3 _ _ (Blk.new _ _ _)).mono ?_; clear O3; rintro e w21 ⟨a5, p5, rfl, _, r5, _, k5⟩; have K21 : Hid (Kp w16 w21) := ((unhide KF).trans k5); have R5 := hide r5; obtain ⟨s1, s2, s3, s4, s5, s6, s7⟩ := unhide CW w21 (unhide K21); have sa := heap_gt s1; have sb := heap_gt s4; have sc := heap_gt s7; clear r5 k5 KF)
        | (go_at_call 20; refine (kitSameM 2 2 ad a5 4 pd p5 (oneL [1, 0, 0, 1]) (by omega) _ (unhide Rd _ (unhide K21)) (unhide R5)).mono ?_; clear R5 Rd; rintro e w22 ⟨rfl, k22⟩; have K22 : Hid (Kp w16 w22) := ((unhide K21).trans k22); obtain ⟨r1, r2, r3, r4, r5, r6, r7⟩ := unhide CW w22 (unhide K22); have ra := heap_gt r1; have rb := heap_gt r4; have rc := heap_gt r7; have KG : Hid (Kp w16 (w22.alloc (.cells #[.int .i64 5, .int .i64 0, .int .i64 0, .int .i64 6] 3))) := ((unhide K22).alloc _ _); clear k22)
        | (go_at_call 21; refine (kitSameK ap (some ⟨w22.heap.size, 0, none⟩) 4 pp 4 (ix [5, 0, 0, 6]) (by omega) _ (unhide Rp _ (unhide KG)) (row_lit (l := [5, 0, 0, 6]) (Blk.new w22 _ _))).mono ?_; clear Rp; rintro e w23 ⟨rfl, k23⟩; have K23 : Hid (Kp w16 w23) := ((unhide KG).trans k23); obtain ⟨q1, q2, q3, q4, q5, q6, q7⟩ := unhide CW w23 (unhide K23); have qa := heap_gt q1; have qb := heap_gt q4; have qc := heap_gt q7; clear k23 KG))
  have K24 := hide ((unhide K15).kp (unhide K23))
  clear K15 CW K17 K18 K19 K20 K21 K22 K23
  clear x1 x2 x3 x4 x5 x6 x7 y1 y2 y3 y4 y5 y6 y7 z1 z2 z3 z4 z5 z6 z7 v1 v2 v3 v4 v5 v6 v7 t1 t2 t3 t4 t5 t6 t7 s1 s2 s3 s4 s5 s6 s7 r1 r2 r3 r4 r5 r6 r7 q1 q2 q3 q4 q5 q6 q7 xa xb xc ya yb yc za zb zc va vb vc ta tb tc sa sb sc ra rb rc qa qb qc
  have O1 := hide (lawOfL [3, 4] 2 rfl (by omega) (by simp) 1 2 w23.heap.size 2 _ (Blk.new w23 #[.int .i64 3, .int .i64 4] 3))
  have KK : Hid (Kp w23 (w23.alloc (.cells #[.int .i64 3, .int .i64 4] 3))) := (Kp.refl _).alloc _ _
  go_wp2_with fail
  generalize w23.alloc (.cells #[.int .i64 3, .int .i64 4] 3) = w24 at *
  refine (unhide O1).mono ?_
  intro e w25 hv
  obtain ⟨a6, p6, rfl, _, k25⟩ := ((unhide K24).kp (unhide KK)).copy hv
  have K25 := hide k25
  clear hv k25 O1 KK K24
  go_wp2_with fail
  refine (kitSameK ar a6 2 pr p6 (oneL [3, 4]) (by omega) _ ((unhide K25).row (by simp)).1 ((unhide K25).row (by simp)).1).mono ?_
  rintro e w26 ⟨rfl, k26⟩
  have K26 := hide ((unhide K25).kp k26)
  clear k26 K25
  obtain ⟨x0, x1, x2⟩ := (unhide K26).cells (b := w15.heap.size) (x := .int .i64 2) (y := .int .i64 2) (z := .slice aq 4 pq) (by simp)
  have K27 := hide ((unhide K26).lit [2147483648, 4294967296, 6442450944, 8589934592])
  go_wp2_with fail
  generalize hw27 : w26.alloc (.cells #[.int .i64 2147483648, .int .i64 4294967296, .int .i64 6442450944, .int .i64 8589934592] 3) = w27 at *
  have r1 : Row w27 aq 4 (ix [2147483648, 4294967296, 6442450944, 8589934592]) := by rw [← hw27]; exact ((unhide K27).row (by simp)).1
  have r2 : Row w27 (some ⟨w26.heap.size, 0, none⟩) 4 (ix [2147483648, 4294967296, 6442450944, 8589934592]) := by rw [← hw27]; exact ((unhide K27).row (by simp)).1
  refine (kitSameK aq (some ⟨w26.heap.size, 0, none⟩) 4 pq 4 (ix [2147483648, 4294967296, 6442450944, 8589934592]) (by omega) _ r1 r2).mono ?_
  rintro e w28 ⟨rfl, k28⟩
  have K28 := hide ((unhide K26).kp (((Kp.refl w26).alloc #[.int .i64 2147483648, .int .i64 4294967296, .int .i64 6442450944, .int .i64 8589934592] 3).trans (by rw [hw27]; exact k28)))
  clear k28 K27 K26 r1 r2 hw27 x0 x1 x2
  go_wp2_with fail
  refine (matEye_bad 0 (by omega) oneZ _).mono ?_
  intro e w29 hv
  obtain ⟨ae0, pe0, rfl, _, k29⟩ := (unhide K28).toldK hv
  have K29 := hide (k29.box #[.int .i64 0, .int .i64 0, .slice ae0 0 pe0])
  generalize hw30 : w29.alloc (.cells #[.int .i64 0, .int .i64 0, .slice ae0 0 pe0] 24) = w30 at K29
  clear hv k29 K28
  obtain ⟨x0, x1, x2⟩ := (unhide K29).cells (b := w5.heap.size) (x := .int .i64 2) (y := .int .i64 2) (z := .slice a1 4 p1) (by simp)
  go_wp2_with fail
  clear hw30
  refine (rowAny 2 2 a1 4 p1 (oneL [1, 2, 3, 4]) 2 (unhide Hp1) _ ((unhide K29).row (ao := a1) (len := 4) (Z := oneL [1, 2, 3, 4]) (by simp)).1 _ (if_neg (by omega))).mono ?_
  intro e w31 hv
  obtain ⟨ar2, pr2, rfl, k31⟩ := (unhide K29).rowK hv
  have K31 := hide k31
  clear hv k31 K29 x0 x1 x2
  go_wp2_with fail
  refine (matEye_ok 3 (by omega) _).mono ?_
  intro e w32 hv
  obtain ⟨ae3, pe3, rfl, _, k32⟩ := (unhide K31).toldK hv
  have K32 := hide (k32.box #[.int .i64 3, .int .i64 3, .slice ae3 9 pe3])
  generalize hw33 : w32.alloc (.cells #[.int .i64 3, .int .i64 3, .slice ae3 9 pe3] 24) = w33 at K32
  clear hv k32 K31
  obtain ⟨x0, x1, x2⟩ := (unhide K32).cells (b := w5.heap.size) (x := .int .i64 2) (y := .int .i64 2) (z := .slice a1 4 p1) (by simp)
  obtain ⟨y0, y1, y2⟩ := (unhide K32).cells (b := w32.heap.size) (x := .int .i64 3) (y := .int .i64 3) (z := .slice ae3 9 pe3) (by simp)
  go_wp2_with fail
  clear hw33
  refine (KS.toldU 400 (unhide K32) (by omega) (by decide) (fun _ _ => trivial) (fun c0 n0 hn hu => mulBadR U 2 2 3 3 a1 ae3 4 p1 9 pe3 (oneL [1, 2, 3, 4]) (by omega) w33 c0 n0 hn hu)).mono ?_
  rintro e w34 ⟨am, pm, rfl, _, k34⟩
  have K34 := hide (k34.box #[.int .i64 0, .int .i64 0, .slice am 0 pm])
  generalize hw35 : w34.alloc (.cells #[.int .i64 0, .int .i64 0, .slice am 0 pm] 24) = w35 at K34
  clear k34 K32 x0 x1 x2 y0 y1 y2
  obtain ⟨x0, x1, x2⟩ := (unhide K34).cells (b := w5.heap.size) (x := .int .i64 2) (y := .int .i64 2) (z := .slice a1 4 p1) (by simp)
  go_wp2_with fail
  clear hw35
  refine (matMul_none none 2 2 2 2 a1 a1 4 p1 4 p1 (oneL [1, 2, 3, 4]) _ (Or.inl rfl)).mono ?_
  intro e w36 hv
  obtain ⟨an, pn, rfl, _, k36⟩ := (unhide K34).toldK hv
  have K36 := hide (k36.box #[.int .i64 0, .int .i64 0, .slice an 0 pn])
  generalize hw37 : w36.alloc (.cells #[.int .i64 0, .int .i64 0, .slice an 0 pn] 24) = w37 at K36
  clear hv k36 K34 x0 x1 x2
  go_wp2_with fail
  clear hw37
  refine (lawMatAwake _).mono ?_
  rintro e w38 ⟨rfl, k38⟩
  have K38 := hide ((unhide K36).2.1.trans k38)
  clear k38 K36
  have CK := hide (fun wx => matCheck 2 2 (some ⟨w38.heap.size, 0, none⟩) 3 3 wx)
  rw [chk_bad (fun h => by have := h.2.2; omega)] at CK
  have KL : Hid (Kp w38 (w38.alloc (.cells #[.int .i64 1, .int .i64 2, .int .i64 3] 3))) := (Kp.refl _).alloc _ _
  go_wp2_with fail
  generalize w38.alloc (.cells #[.int .i64 1, .int .i64 2, .int .i64 3] 3) = w39 at *
  refine (unhide CK _).mono ?_
  rintro e w40 ⟨rfl, g40⟩
  have K40 := hide (((unhide K38).trans (unhide KL)).grown g40)
  clear g40
  go_wp2
  go_ret
  exact ⟨rfl, unhide K40⟩


end Go.Proofs.Ytcobicnpdmgnjaa

/- A region that draws its order and calls, makes and stores: by an invariant over what has come up. -/
namespace Go.Proofs.Ytcobicnpdmgnjaa
open Go.RowKit Go.Shelf Go.Proofs.Wd
set_option linter.unusedVariables false
set_option linter.unusedSimpArgs false

/-- J n: it holds while n operations have not come up. -/
theorem wpAny_inv {P : Program} {ops : Array Oper} {Q : Exit → Act → World → Prop} {md : Region.Mode} (J : Nat → Array Bool → Act → World → Prop)
    (h0 : ∀ listed a w, J 0 listed a w → Region.ready md ops listed = [] ∧ Q .normal a w)
    (h1 : ∀ n listed a w, J (n + 1) listed a w → Region.ready md ops listed ≠ [] ∧ ∀ i ∈ Region.ready md ops listed, wpOp P ops Q i (J n (listed.setIfInBounds i true)) a w) :
    ∀ n listed a w, J n listed a w → wpAny P md ops Q n listed a w
  | 0, l, a, w, h => h0 l a w h
  | n + 1, l, a, w, h => ⟨fun hr => absurd hr (h1 n l a w h).1, fun i hi => wpOp_mono (fun a' w' h' => wpAny_inv J h0 h1 n _ a' w' h') ((h1 n l a w h).2 i hi)⟩

theorem ready_mem {md : Region.Mode} {ops : Array Oper} {listed : Array Bool} {i : Nat} (h : i ∈ Region.ready md ops listed) :
    i < ops.size ∧ listed.getD i true = false ∧ ∀ o, ops[i]? = some o → ∀ e ∈ o.after, Region.binds md e = true → listed.getD e.on false = true := by
  unfold Region.ready at h
  rw [List.mem_filter, List.mem_range] at h
  obtain ⟨h1, h2⟩ := h
  rw [Bool.and_eq_true] at h2
  refine ⟨h1, by simpa using h2.1, fun o ho e he hb => ?_⟩
  have h3 := h2.2
  rw [ho] at h3
  simp only [Option.map_some, Option.getD_some] at h3
  rw [Array.all_eq_true_iff_forall_mem] at h3
  have := h3 e he
  rw [hb] at this
  simpa using this

/-- Each operation waits for earlier ones alone. -/
def backs (ops : Array Oper) : Bool := (List.range ops.size).all fun i => ((ops[i]?).map (·.after.all fun e => decide (e.on < i))).getD true
theorem ready_ne {md : Region.Mode} {ops : Array Oper} {listed : Array Bool} (hb : backs ops = true) (hs : listed.size = ops.size) : ∀ (m i : Nat), i ≤ m → i < ops.size → listed.getD i true = false → Region.ready md ops listed ≠ [] := by
  intro m
  induction m with
  | zero =>
    intro i him hi hl
    obtain rfl : i = 0 := by omega
    intro hr
    have : 0 ∈ Region.ready md ops listed := by
      unfold Region.ready
      rw [List.mem_filter, List.mem_range]
      refine ⟨hi, ?_⟩
      rw [hl]
      have ho : ops[0]? = some ops[0] := by simp [hi]
      rw [ho]
      simp only [Option.map_some, Option.getD_some, Bool.not_false, Bool.true_and]
      unfold backs at hb
      rw [List.all_eq_true] at hb
      have h2 := hb 0 (List.mem_range.2 hi)
      rw [ho] at h2
      simp only [Option.map_some, Option.getD_some] at h2
      rw [Array.all_eq_true_iff_forall_mem] at h2 ⊢
      intro e he
      have := h2 e he
      simp at this
    rw [hr] at this
    exact absurd this List.not_mem_nil
  | succ m ih =>
    intro i him hi hl hr
    have ho : ops[i]? = some ops[i] := by simp [hi]
    have hbi : ∀ e ∈ ops[i].after, e.on < i := by
      unfold backs at hb
      rw [List.all_eq_true] at hb
      have h2 := hb i (List.mem_range.2 hi)
      rw [ho] at h2
      simp only [Option.map_some, Option.getD_some] at h2
      rw [Array.all_eq_true_iff_forall_mem] at h2
      intro e he
      simpa using h2 e he
    by_cases hall : ∀ e ∈ ops[i].after, listed.getD e.on false = true
    · have : i ∈ Region.ready md ops listed := by
        unfold Region.ready
        rw [List.mem_filter, List.mem_range]
        refine ⟨hi, ?_⟩
        rw [hl, ho]
        simp only [Option.map_some, Option.getD_some, Bool.not_false, Bool.true_and]
        rw [Array.all_eq_true_iff_forall_mem]
        intro e he
        rw [hall e he]
        simp
      rw [hr] at this
      exact absurd this List.not_mem_nil
    · have ⟨e, he⟩ := Classical.not_forall.1 hall
      have ⟨hm, hf⟩ := Classical.not_imp.1 he
      have hlt := hbi e hm
      have hsz : e.on < listed.size := by omega
      refine ih e.on (by omega) (by omega) ?_ hr
      have h1 : listed.getD e.on false = listed[e.on] := by simp [Array.getD, hsz]
      have h2 : listed.getD e.on true = listed[e.on] := by simp [Array.getD, hsz]
      rw [h1] at hf
      rw [h2]
      simpa using hf
/-- It waits for number k. -/
def waits (aft : Array Edge) (k : Nat) : Bool := aft.any fun e => Region.binds .any e && e.on == k
theorem ready_waits {ops : Array Oper} {listed : Array Bool} {i : Nat} (h : i ∈ Region.ready .any ops listed) {o : Oper} (ho : ops[i]? = some o) {k : Nat} (hk : waits o.after k = true) : listed.getD k false = true := by
  unfold waits at hk
  obtain ⟨e, he, hb⟩ := Array.any_eq_true'.1 hk
  rw [Bool.and_eq_true] at hb
  have := (ready_mem h).2.2 o ho e he hb.1
  rwa [eq_of_beq hb.2] at this

/-- All slots but those of D are as they were. -/
def Sl (D : List Nat) (a0 a : Act) : Prop := a.defers = a0.defers ∧ a.tmps.size = a0.tmps.size ∧ ∀ k, k ∉ D → a.tmps[k]? = a0.tmps[k]?
theorem Sl.refl (D : List Nat) (a : Act) : Sl D a a := ⟨rfl, rfl, fun _ _ => rfl⟩
theorem Sl.put {D : List Nat} {a0 a : Act} (h : Sl D a0 a) (d : Nat) (v : Value) (hd : d ∈ D) : Sl D a0 (a.put (some d) v) := by
  refine ⟨h.1, ?_, fun k hk => ?_⟩
  · show (a.tmps.setIfInBounds d v).size = _
    rw [Array.size_setIfInBounds, h.2.1]
  · show (a.tmps.setIfInBounds d v)[k]? = _
    rw [Array.getElem?_setIfInBounds_ne (fun e : d = k => hk (by rw [← e]; exact hd)), h.2.2 k hk]
theorem put_same {a : Act} {d : Nat} {v : Value} (h : d < a.tmps.size) : (a.put (some d) v).tmps[d]? = some v := by
  show (a.tmps.setIfInBounds d v)[d]? = _
  rw [Array.getElem?_setIfInBounds_self_of_lt h]
theorem put_ne {a : Act} {d k : Nat} {v : Value} (h : d ≠ k) : (a.put (some d) v).tmps[k]? = a.tmps[k]? := by
  show (a.tmps.setIfInBounds d v)[k]? = _
  rw [Array.getElem?_setIfInBounds_ne h]
theorem eval_tmp {a : Act} {k : Nat} {v : Value} (h : a.tmps[k]? = some v) : a.eval (.tmp k) = v := by
  show a.tmps.getD k undef = v
  rw [Array.getD_eq_getD_getElem?, h]; rfl

section
variable {ops : Array Oper} {Q : Exit → Act → World → Prop} {i d k : Nat} {K : Act → World → Prop} {a : Act} {w : World} {T : TypeId} {pos : String} {aft : Array Edge}
theorem wpOp_of {P : Program} {o : Oper} (hi : ops[i]? = some o) (hg : o.guard = none) (h : o.wp P a w K Q) : wpOp P ops Q i K a w := by
  unfold wpOp
  simp only [hi]
  rw [if_pos (by simp [Region.wanted, hg])]
  exact Or.inl h
theorem wpOp_load (hi : ops[i]? = some ⟨some d, .load 24 (.tmp k), T, pos, aft, none⟩) {B : Nat} {v0 v1 v2 : Value} (hk : a.tmps[k]? = some (.pointer (some ⟨B, 0, none⟩))) (hb : Blk B #[v0, v1, v2] 24 w)
    (h : K (a.put (some d) (.agg #[v0, v1, v2])) w) : wpOp Try.prog ops Q i K a w := by
  refine wpOp_of hi rfl ?_
  have ev := eval_tmp hk
  have c0 : w.cell? ⟨B, 0, none⟩ = some v0 := by rw [Blk.cell hb]; rfl
  have c1 : w.cell? ⟨B, 1, none⟩ = some v1 := by rw [Blk.cell hb]; rfl
  have c2 : w.cell? ⟨B, 2, none⟩ = some v2 := by rw [Blk.cell hb]; rfl
  unfold Oper.wp
  simp [go_sem, hk, c0, c1, c2]
  exact h
theorem wpOp_alloc (hi : ops[i]? = some ⟨some d, .alloc 24, T, pos, aft, none⟩)
    (h : K (a.put (some d) (.pointer (some ⟨w.heap.size, 0, none⟩))) (w.alloc (.cells #[.int .i64 0, .int .i64 0, .slice none 0 0] 24))) : wpOp Try.prog ops Q i K a w := by
  refine wpOp_of hi rfl ?_
  unfold Oper.wp
  simp [go_sem]
  exact h
theorem wpOp_store (hi : ops[i]? = some ⟨none, .store 24 (.tmp k) (.tmp d), T, pos, aft, none⟩) {B : Nat} {r c : Int} {ao : Option Addr} {n cap : Nat} {u0 u1 u2 : Value} (hk : a.tmps[k]? = some (.pointer (some ⟨B, 0, none⟩))) (hd : a.tmps[d]? = some (.agg #[.int .i64 r, .int .i64 c, .slice ao n cap])) (hb : Blk B #[u0, u1, u2] 24 w)
    (h : ∀ w', Mod B w w' → Blk B #[.int .i64 r, .int .i64 c, .slice ao n cap] 24 w' → K a w') : wpOp Try.prog ops Q i K a w := by
  refine wpOp_of hi rfl ?_
  have c0 : w.cell? ⟨B, 0, none⟩ = some u0 := by rw [Blk.cell hb]; rfl
  have c1 : w.cell? ⟨B, 1, none⟩ = some u1 := by rw [Blk.cell hb]; rfl
  have c2 : w.cell? ⟨B, 2, none⟩ = some u2 := by rw [Blk.cell hb]; rfl
  have f0 := Blk.free hb 0
  have f1 := Blk.free hb 1
  have f2 := Blk.free hb 2
  have hh := h (((w.setCell ⟨B, 0, none⟩ (.int .i64 r)).setCell ⟨B, 1, none⟩ (.int .i64 c)).setCell ⟨B, 2, none⟩ (.slice ao n cap)) ((((Mod.refl _ _).setCell _ _).setCell _ _).setCell _ _) (((hb.set 0 _).set 1 _).set 2 _)
  unfold Oper.wp
  simp [go_sem, hk, hd, c0, c1, c2, f0, f1, f2]
  exact hh
theorem wpOp_call1 {f : Nat} (hi : ops[i]? = some ⟨some d, .call ⟨.value (.func f), #[.tmp k], #[24]⟩, T, pos, aft, none⟩) {v : Value} (hk : a.tmps[k]? = some v) (hf : ∀ w, Sem.run Try.prog (callFunc f #[v]) w = .ok (.enter f #[v]) w)
    (h : Calls Try.prog f #[v] w fun e w' => ∃ x, e = .returned x ∧ K (a.put (some d) x) w') : wpOp Try.prog ops Q i K a w := by
  refine wpOp_of hi rfl ?_
  unfold Oper.wp
  simp [go_sem, hk, hf]
  refine h.mono ?_
  rintro e w' ⟨x, rfl, hx⟩
  exact hx
end

end Go.Proofs.Ytcobicnpdmgnjaa

/- A region that draws its order, 'x, y := f(..), g(..)': what it reads stays, its calls make new memory, its boxes are made and filled. -/
namespace Go.Proofs.Ytcobicnpdmgnjaa
open Go.RowKit Go.Shelf Go.Proofs.Wd
set_option linter.unusedVariables false
set_option linter.unusedSimpArgs false

/-- What an operation is: a value that is known ahead; a call; a box that is made; a box that is filled with what a call told. -/
inductive OpK where
  | pure (d : Nat) (v : Value)
  | call (d : Nat) (G : Value → World → Prop)
  | alloc (d : Nat) (cs : Array Value) (T : TypeId)
  | store (ia ic : Nat) (fl : Value → Array Value)
  | same (d j : Nat)
def OpK.dst : OpK → Option Nat
  | .pure d _ => some d
  | .call d _ => some d
  | .alloc d _ _ => some d
  | .store _ _ _ => none
  | .same d _ => some d
def OpK.val (vals : Nat → Value) (addr : Nat → Nat) (i : Nat) : OpK → Value
  | .pure _ v => v
  | .call _ _ => vals i
  | .alloc _ _ _ => .pointer (some ⟨addr i, 0, none⟩)
  | .store _ _ _ => undef
  | .same _ j => vals j
def OpK.isStore (ia : Nat) : OpK → Bool
  | .store i _ _ => i == ia
  | _ => false
/-- It hangs on these blocks alone. -/
def Dep (Bs : List Nat) (F : World → Prop) : Prop := ∀ w w' : World, (∀ k ∈ Bs, w'.heap[k]? = w.heap[k]?) → F w → F w'
def apartD (KL : List OpK) : Bool := (List.range KL.length).all fun i => (List.range KL.length).all fun j => i == j || ((KL[i]?).bind OpK.dst).isNone || ((KL[i]?).bind OpK.dst) != ((KL[j]?).bind OpK.dst)
def onlyStore (KL : List OpK) (ia i : Nat) : Bool := (List.range KL.length).all fun j => !(((KL[j]?).map (OpK.isStore ia)).getD false) || j == i
theorem len_of {α : Type} {l : List α} {i : Nat} {x : α} (h : l[i]? = some x) : i < l.length := (List.getElem?_eq_some_iff.1 h).1
theorem apartD_spec {KL : List OpK} (h : apartD KL = true) {i j : Nat} {k k' : OpK} {d : Nat} (hi : KL[i]? = some k) (hj : KL[j]? = some k') (di : k.dst = some d) (dj : k'.dst = some d) : i = j := by
  unfold apartD at h
  rw [List.all_eq_true] at h
  have h1 := h i (List.mem_range.2 (len_of hi))
  rw [List.all_eq_true] at h1
  have h2 := h1 j (List.mem_range.2 (len_of hj))
  rw [hi, hj] at h2
  simpa [di, dj] using h2
theorem onlyStore_spec {KL : List OpK} {ia i : Nat} (h : onlyStore KL ia i = true) {j ic : Nat} {fl : Value → Array Value} (hj : KL[j]? = some (.store ia ic fl)) : j = i := by
  unfold onlyStore at h
  rw [List.all_eq_true] at h
  have h1 := h j (List.mem_range.2 (len_of hj))
  rw [hj] at h1
  simpa [OpK.isStore] using h1

/-- What is known of the operations that one waits for. -/
def KnJ (a : Act) (w : World) : OpK → Prop
  | .pure d v => a.tmps[d]? = some v
  | .call d G => ∃ v, a.tmps[d]? = some v ∧ G v w
  | .alloc d _ _ => ∃ A, a.tmps[d]? = some (.pointer (some ⟨A, 0, none⟩))
  | .store _ _ _ => True
  | .same d _ => ∃ v, a.tmps[d]? = some v
def Kn (KL : List OpK) (aft : Array Edge) (a : Act) (w : World) : Prop := ∀ j k, waits aft j = true → KL[j]? = some k → KnJ a w k
theorem Kn.pure {KL : List OpK} {aft : Array Edge} {a : Act} {w : World} (h : Kn KL aft a w) (j : Nat) (d : Nat) (v : Value) (hw : waits aft j = true) (hk : KL[j]? = some (.pure d v)) : a.tmps[d]? = some v := h j _ hw hk
theorem Kn.call {KL : List OpK} {aft : Array Edge} {a : Act} {w : World} (h : Kn KL aft a w) (j : Nat) (d : Nat) (G : Value → World → Prop) (hw : waits aft j = true) (hk : KL[j]? = some (.call d G)) : ∃ v, a.tmps[d]? = some v ∧ G v w := h j _ hw hk

/-- What each operation must do. -/
def OpOK (ops : Array Oper) (Q : Exit → Act → World → Prop) (KL : List OpK) (a0 : Act) (S : World → Prop) (H : Nat) (i : Nat) (aft : Array Edge) : OpK → Prop
  | .pure d v => ∀ (a : Act) (w : World) (K : Act → World → Prop), Sl (KL.filterMap OpK.dst) a0 a → Kn KL aft a w → S w → K (a.put (some d) v) w → wpOp Try.prog ops Q i K a w
  | .call d G => ∀ (a : Act) (w : World) (K : Act → World → Prop), Sl (KL.filterMap OpK.dst) a0 a → Kn KL aft a w → S w → H ≤ w.heap.size → (∀ v w' Bs, Kp w w' → (∀ k ∈ Bs, w.heap.size ≤ k ∧ k < w'.heap.size) → Dep Bs (G v) → G v w' → K (a.put (some d) v) w') → wpOp Try.prog ops Q i K a w
  | .alloc d cs T => ∀ (a : Act) (w : World) (K : Act → World → Prop), K (a.put (some d) (.pointer (some ⟨w.heap.size, 0, none⟩))) (w.alloc (.cells cs T)) → wpOp Try.prog ops Q i K a w
  | .store ia ic fl => ∃ da cs T dc G, KL[ia]? = some (.alloc da cs T) ∧ KL[ic]? = some (.call dc G) ∧ waits aft ia = true ∧ waits aft ic = true ∧ onlyStore KL ia i = true ∧
      ∀ (a : Act) (w : World) (K : Act → World → Prop) A v, a.tmps[da]? = some (.pointer (some ⟨A, 0, none⟩)) → a.tmps[dc]? = some v → G v w → Blk A cs T w → (∀ w', Mk A w w' → Blk A (fl v) T w' → K a w') → wpOp Try.prog ops Q i K a w
  | .same d j => ∃ dj G, KL[j]? = some (.call dj G) ∧ waits aft j = true ∧ ∀ (a : Act) (w : World) (K : Act → World → Prop) v, a.tmps[dj]? = some v → K (a.put (some d) v) w → wpOp Try.prog ops Q i K a w

/-- What is known of an operation that has come up. -/
def Item (KL : List OpK) (listed : Array Bool) (vals : Nat → Value) (addr : Nat → Nat) (gs : Nat → List Nat) (H : Nat) (a : Act) (w : World) (i : Nat) : OpK → Prop
  | .pure d v => a.tmps[d]? = some v
  | .call d G => a.tmps[d]? = some (vals i) ∧ G (vals i) w ∧ Dep (gs i) (G (vals i)) ∧ ∀ k ∈ gs i, k < w.heap.size ∧ ∀ j d cs T, KL[j]? = some (.alloc d cs T) → listed.getD j false = true → addr j ≠ k
  | .alloc d cs T => a.tmps[d]? = some (.pointer (some ⟨addr i, 0, none⟩)) ∧ H ≤ addr i ∧ addr i < w.heap.size ∧ (∀ j d cs T, j ≠ i → KL[j]? = some (.alloc d cs T) → listed.getD j false = true → addr j ≠ addr i) ∧ ((∀ s ic fl, KL[s]? = some (.store i ic fl) → listed.getD s false = false) → Blk (addr i) cs T w)
  | .store ia ic fl => ∀ d cs T, KL[ia]? = some (.alloc d cs T) → listed.getD ia false = true ∧ listed.getD ic false = true ∧ Blk (addr ia) (fl (vals ic)) T w
  | .same d j => a.tmps[d]? = some (vals j) ∧ listed.getD j false = true
/-- What is known in the end. -/
def FinI (KL : List OpK) (vals : Nat → Value) (addr : Nat → Nat) (H : Nat) (w : World) (i : Nat) : OpK → Prop
  | .pure d v => True
  | .call d G => G (vals i) w
  | .alloc d cs T => H ≤ addr i ∧ addr i < w.heap.size
  | .store ia ic fl => ∀ d cs T, KL[ia]? = some (.alloc d cs T) → Blk (addr ia) (fl (vals ic)) T w
  | .same _ _ => True
def putsL (vals : Nat → Value) (addr : Nat → Nat) : Nat → List OpK → List (Nat × Value)
  | _, [] => []
  | i, k :: ks => match k.dst with
    | some d => (d, k.val vals addr i) :: putsL vals addr (i + 1) ks
    | none => putsL vals addr (i + 1) ks
theorem putsL_mem {vals : Nat → Value} {addr : Nat → Nat} : ∀ {i0 : Nat} {ks : List OpK} {p : Nat × Value}, p ∈ putsL vals addr i0 ks → ∃ (i : Nat) (k : OpK), ks[i]? = some k ∧ k.dst = some p.1 ∧ p.2 = k.val vals addr (i0 + i)
  | _, [], _, h => by cases h
  | i0, k :: ks, p, h => by
    unfold putsL at h
    cases hd : k.dst with
    | none =>
      rw [hd] at h
      obtain ⟨i, k', h1, h2, h3⟩ := putsL_mem h
      exact ⟨i + 1, k', by rw [List.getElem?_cons_succ]; exact h1, h2, by rw [h3, Nat.add_assoc, Nat.add_comm 1 i]⟩
    | some d =>
      rw [hd] at h
      rcases List.mem_cons.1 h with rfl | h
      · exact ⟨0, k, rfl, hd, rfl⟩
      · obtain ⟨i, k', h1, h2, h3⟩ := putsL_mem h
        exact ⟨i + 1, k', by rw [List.getElem?_cons_succ]; exact h1, h2, by rw [h3, Nat.add_assoc, Nat.add_comm 1 i]⟩
theorem putsL_fst {vals : Nat → Value} {addr : Nat → Nat} : ∀ (i0 : Nat) (ks : List OpK), (putsL vals addr i0 ks).map Prod.fst = ks.filterMap OpK.dst
  | _, [] => rfl
  | i0, k :: ks => by
    unfold putsL
    cases hd : k.dst with
    | none => simp [hd, putsL_fst (i0 + 1) ks]
    | some d => simp [hd, putsL_fst (i0 + 1) ks]
theorem fold_put : ∀ (l : List (Nat × Value)) (t : Array Value), (∀ p ∈ l, p.1 < t.size) → (∀ p ∈ l, ∀ q ∈ l, p.1 = q.1 → p.2 = q.2) → ∀ k, (l.foldl (fun t p => t.setIfInBounds p.1 p.2) t)[k]? = t[k]? ∧ k ∉ l.map Prod.fst ∨ ∃ p ∈ l, p.1 = k ∧ (l.foldl (fun t p => t.setIfInBounds p.1 p.2) t)[k]? = some p.2
  | [], t, _, _, k => Or.inl ⟨rfl, by simp⟩
  | p :: l, t, hs, hf, k => by
    rcases fold_put l (t.setIfInBounds p.1 p.2) (fun q hq => by rw [Array.size_setIfInBounds]; exact hs q (List.mem_cons_of_mem _ hq)) (fun q hq r hr => hf q (List.mem_cons_of_mem _ hq) r (List.mem_cons_of_mem _ hr)) k with ⟨h1, h2⟩ | ⟨q, hq, e, h⟩
    · by_cases hk : p.1 = k
      · refine Or.inr ⟨p, List.mem_cons_self, hk, ?_⟩
        show (l.foldl _ (t.setIfInBounds p.1 p.2))[k]? = _
        rw [h1, ← hk, Array.getElem?_setIfInBounds_self_of_lt (hs p List.mem_cons_self)]
      · refine Or.inl ⟨?_, ?_⟩
        · show (l.foldl _ (t.setIfInBounds p.1 p.2))[k]? = _
          rw [h1, Array.getElem?_setIfInBounds_ne hk]
        · simp only [List.map_cons, List.mem_cons, not_or]
          exact ⟨fun e => hk e.symm, h2⟩
    · exact Or.inr ⟨q, List.mem_cons_of_mem _ hq, e, h⟩

theorem count_set : ∀ (l : List Bool) (i : Nat), l[i]? = some false → (l.set i true).count false + 1 = l.count false
  | [], _, h => by simp at h
  | b :: l, 0, h => by
    simp at h
    subst h
    simp
  | b :: l, i + 1, h => by
    have ih := count_set l i (by simpa using h)
    cases b <;> simp [List.count_cons] <;> omega
theorem count_zero {l : List Bool} (h : l.count false = 0) {i : Nat} {b : Bool} (hi : l[i]? = some b) : b = true := by
  cases b with
  | true => rfl
  | false => exact absurd (List.mem_of_getElem? hi) (List.count_eq_zero.1 h)
theorem getD_ne {l : Array Bool} {i j : Nat} {b : Bool} (h : i ≠ j) : (l.setIfInBounds i true).getD j b = l.getD j b := by
  rw [Array.getD_eq_getD_getElem?, Array.getD_eq_getD_getElem?, Array.getElem?_setIfInBounds_ne h]

def JM (KL : List OpK) (a0 : Act) (S : World → Prop) (H : Nat) (n : Nat) (listed : Array Bool) (a : Act) (w : World) : Prop :=
  listed.size = KL.length ∧ n = listed.toList.count false ∧ Sl (KL.filterMap OpK.dst) a0 a ∧ S w ∧ H ≤ w.heap.size ∧ ∃ vals addr gs, ∀ i k, KL[i]? = some k → listed.getD i false = true → Item KL listed vals addr gs H a w i k

theorem mem_dst {KL : List OpK} {i d : Nat} {k : OpK} (h : KL[i]? = some k) (hd : k.dst = some d) : d ∈ KL.filterMap OpK.dst := List.mem_filterMap.2 ⟨k, List.mem_of_getElem? h, hd⟩
theorem Item.kn {KL : List OpK} {listed : Array Bool} {vals : Nat → Value} {addr : Nat → Nat} {gs : Nat → List Nat} {H : Nat} {a : Act} {w : World} {i : Nat} {k : OpK} (h : Item KL listed vals addr gs H a w i k) : KnJ a w k := by
  cases k with
  | pure d v => exact h
  | call d G => exact ⟨_, h.1, h.2.1⟩
  | alloc d cs T => exact ⟨_, h.1⟩
  | store ia ic fl => trivial
  | same d j => exact ⟨_, h.1⟩

/-- The world has grown: what is known of the others stays. -/
theorem Item.grow {KL : List OpK} {listed : Array Bool} {vals : Nat → Value} {addr : Nat → Nat} {gs : Nat → List Nat} {H : Nat} {a : Act} {w w' : World} {i j d : Nat} {k : OpK} {v : Value} {vals' : Nat → Value} {addr' : Nat → Nat} {gs' : Nat → List Nat} {ki : OpK} (hd : apartD KL = true)
    (hi : KL[i]? = some ki) (hdi : ki.dst = some d) (hl : listed.getD i true = false) (kk : Kp w w')
    (ev : ∀ x, x ≠ i → vals' x = vals x) (ea : ∀ x, x ≠ i → addr' x = addr x) (eg : ∀ x, x ≠ i → gs' x = gs x) (ei : ∀ d cs T, ki = .alloc d cs T → w.heap.size ≤ addr' i)
    (hj : KL[j]? = some k) (hji : j ≠ i) (hlj : listed.getD j false = true) (h : Item KL listed vals addr gs H a w j k) :
    Item KL (listed.setIfInBounds i true) vals' addr' gs' H (a.put (some d) v) w' j k := by
  have ne : ∀ d', k.dst = some d' → d ≠ d' := fun d' e e' => hji (apartD_spec hd hj hi e (by rw [hdi, e']))
  have li : listed.getD i false = false := by
    cases hx : listed.getD i false with
    | false => rfl
    | true =>
      rw [Array.getD_eq_getD_getElem?] at hx hl
      cases he : listed[i]? with
      | none => rw [he] at hx; cases hx
      | some b => rw [he] at hx hl; simp at hx hl; rw [hx] at hl; cases hl
  cases k with
  | pure d' v' => exact (put_ne (ne d' rfl)).trans h
  | call d' G =>
    obtain ⟨h1, h2, h3, h4⟩ := h
    show _ ∧ _ ∧ _ ∧ _
    rw [ev j hji, eg j hji]
    refine ⟨(put_ne (ne d' rfl)).trans h1, h3 w w' (fun x hx => kk.2.2.1 x (h4 x hx).1) h2, h3, fun x hx => ⟨Nat.lt_of_lt_of_le (h4 x hx).1 kk.2.2.2, fun m d1 cs T hm hml => ?_⟩⟩
    by_cases hmi : m = i
    · subst hmi
      rw [hi] at hm
      have := ei d1 cs T (Option.some.inj hm)
      have := (h4 x hx).1
      omega
    · rw [ea m hmi]
      exact (h4 x hx).2 m d1 cs T hm (by rwa [getD_ne (Ne.symm hmi)] at hml)
  | alloc d' cs T =>
    obtain ⟨h1, h2, h3, h4, h5⟩ := h
    show _ ∧ _ ∧ _ ∧ _ ∧ _
    rw [ea j hji]
    refine ⟨(put_ne (ne d' rfl)).trans h1, h2, Nat.lt_of_lt_of_le h3 kk.2.2.2, fun m d1 cs1 T1 hmj hm hml => ?_, fun hs => Blk.kp (h5 fun s ic fl hs1 => ?_) kk⟩
    · by_cases hmi : m = i
      · subst hmi
        rw [hi] at hm
        have := ei d1 cs1 T1 (Option.some.inj hm)
        omega
      · rw [ea m hmi]
        exact h4 m d1 cs1 T1 hmj hm (by rwa [getD_ne (Ne.symm hmi)] at hml)
    · by_cases hsi : s = i
      · subst hsi; exact li
      · have := hs s ic fl hs1
        rwa [getD_ne (Ne.symm hsi)] at this
  | store ia ic fl =>
    intro d1 cs T ha
    obtain ⟨h1, h2, h3⟩ := h d1 cs T ha
    have na : ia ≠ i := fun e => by rw [e, li] at h1; cases h1
    have nc : ic ≠ i := fun e => by rw [e, li] at h2; cases h2
    rw [getD_ne (Ne.symm na), getD_ne (Ne.symm nc), ea ia na, ev ic nc]
    exact ⟨h1, h2, Blk.kp h3 kk⟩
  | same d' m =>
    obtain ⟨h1, h2⟩ := h
    have nm : m ≠ i := fun e => by rw [e, li] at h2; cases h2
    show _ ∧ _
    rw [ev m nm, getD_ne (Ne.symm nm)]
    exact ⟨(put_ne (ne d' rfl)).trans h1, h2⟩

/-- A fresh block is filled: what is known of the others stays. -/
theorem Item.fill {KL : List OpK} {listed : Array Bool} {vals : Nat → Value} {addr : Nat → Nat} {gs : Nat → List Nat} {H : Nat} {a : Act} {w w' : World} {i j ia ic : Nat} {fl : Value → Array Value} {k : OpK}
    (hi : KL[i]? = some (.store ia ic fl)) (ho : onlyStore KL ia i = true) {da : Nat} {cs : Array Value} {T : TypeId} (hia : KL[ia]? = some (.alloc da cs T)) (hla : listed.getD ia false = true) (hisz : i < listed.size) (kk : Mk (addr ia) w w')
    (hst : ∀ (j ia' ic' : Nat) (fl' : Value → Array Value), KL[j]? = some (OpK.store ia' ic' fl') → ∃ (da : Nat) (cs : Array Value) (T : TypeId), KL[ia']? = some (OpK.alloc da cs T)) (hA : Item KL listed vals addr gs H a w ia (.alloc da cs T))
    (hj : KL[j]? = some k) (hji : j ≠ i) (h : Item KL listed vals addr gs H a w j k) :
    Item KL (listed.setIfInBounds i true) vals addr gs H a w' j k := by
  have nia : ∀ m d1 cs1 T1, KL[m]? = some (.alloc d1 cs1 T1) → i ≠ m := fun m d1 cs1 T1 hm e => by rw [← e, hi] at hm; cases hm
  cases k with
  | pure d' v' => exact h
  | call d' G =>
    obtain ⟨h1, h2, h3, h4⟩ := h
    refine ⟨h1, h3 w w' (fun x hx => kk.2.2.1 x (h4 x hx).1 (Ne.symm ((h4 x hx).2 ia _ _ _ hia hla))) h2, h3, fun x hx => ⟨Nat.lt_of_lt_of_le (h4 x hx).1 kk.2.2.2, fun m d1 cs T hm hml => ?_⟩⟩
    exact (h4 x hx).2 m d1 cs T hm (by rwa [getD_ne (nia _ _ _ _ hm)] at hml)
  | alloc d' cs' T' =>
    obtain ⟨h1, h2, h3, h4, h5⟩ := h
    refine ⟨h1, h2, Nat.lt_of_lt_of_le h3 kk.2.2.2, fun m d1 cs1 T1 hmj hm hml => h4 m d1 cs1 T1 hmj hm (by rwa [getD_ne (nia _ _ _ _ hm)] at hml), fun hs => ?_⟩
    by_cases hja : j = ia
    · subst hja
      have := hs i ic fl hi
      rw [Array.getD_eq_getD_getElem?, Array.getElem?_setIfInBounds_self_of_lt hisz] at this
      cases this
    · refine Blk.mk (h5 fun s ic' fl' hs1 => ?_) kk (fun e => h4 ia _ _ _ (Ne.symm hja) hia hla e.symm)
      have := hs s ic' fl' hs1
      by_cases hsi : s = i
      · subst hsi
        rw [hi] at hs1
        cases hs1
        exact absurd rfl hja
      · rwa [getD_ne (Ne.symm hsi)] at this
  | store ia' ic' fl' =>
    intro d1 cs1 T1 ha
    obtain ⟨h1, h2, h3⟩ := h d1 cs1 T1 ha
    have na : ia' ≠ ia := fun e => by
      subst e
      exact hji (onlyStore_spec ho hj)
    refine ⟨by rwa [getD_ne (nia _ _ _ _ ha)], ?_, Blk.mk h3 kk (hA.2.2.2.1 ia' _ _ _ na ha h1)⟩
    by_cases hc : i = ic'
    · subst hc
      rw [Array.getD_eq_getD_getElem?, Array.getElem?_setIfInBounds_self_of_lt hisz]
      rfl
    · rwa [getD_ne hc]
  | same d' m =>
    obtain ⟨h1, h2⟩ := h
    refine ⟨h1, ?_⟩
    by_cases hc : i = m
    · subst hc
      rw [Array.getD_eq_getD_getElem?, Array.getElem?_setIfInBounds_self_of_lt hisz]
      rfl
    · rwa [getD_ne hc]

theorem getD_false {l : Array Bool} {i : Nat} (h : l.getD i true = false) : i < l.size ∧ l[i]? = some false := by
  rw [Array.getD_eq_getD_getElem?] at h
  cases he : l[i]? with
  | none => rw [he] at h; cases h
  | some b =>
    rw [he] at h
    simp at h
    subst h
    exact ⟨(Array.getElem?_eq_some_iff.1 he).1, rfl⟩
theorem listed_cases {l : Array Bool} {i j : Nat} (h : (l.setIfInBounds i true).getD j false = true) : j = i ∨ l.getD j false = true := by
  by_cases hj : i = j
  · exact Or.inl hj.symm
  · rw [getD_ne hj] at h
    exact Or.inr h

set_option maxHeartbeats 1000000 in
theorem regM {ops : Array Oper} {Q : Exit → Act → World → Prop} {id : Nat} {a0 : Act} {w : World} (KL : List OpK) (S : World → Prop)
    (hm : Try.prog.follows .mixedOrders = true) (hs : ops.size = KL.length) (hbk : backs ops = true) (hd : apartD KL = true) (hz : ∀ d ∈ KL.filterMap OpK.dst, d < a0.tmps.size)
    (hst : ∀ (j ia' ic' : Nat) (fl' : Value → Array Value), KL[j]? = some (OpK.store ia' ic' fl') → ∃ (da : Nat) (cs : Array Value) (T : TypeId), KL[ia']? = some (OpK.alloc da cs T))
    (hop : ∀ i o k, ops[i]? = some o → KL[i]? = some k → OpOK ops Q KL a0 S w.heap.size i o.after k)
    (hS : S w.drew) (hSk : ∀ a b, Kp a b → S a → S b) (hSm : ∀ A a b, w.heap.size ≤ A → Mk A a b → S a → S b)
    (fin : ∀ (vals : Nat → Value) (addr : Nat → Nat) (w' : World), S w' → w.heap.size ≤ w'.heap.size → (∀ i k, KL[i]? = some k → FinI KL vals addr w.heap.size w' i k) →
      Q .normal ⟨(putsL vals addr 0 KL).foldl (fun t p => t.setIfInBounds p.1 p.2) a0.tmps, a0.defers⟩ w') :
    (Code.region id ops true).wp Try.prog Q a0 w := by
  refine wp_region_any hm ?_
  refine wpAny_inv (JM KL a0 S w.heap.size) ?_ ?_ ops.size _ _ _ ?_
  · rintro listed a w1 ⟨j1, j2, sl, hx, hH, vals, addr, gs, it⟩
    have all : ∀ i k, KL[i]? = some k → listed.getD i false = true := fun i k hk => by
      have hi : i < listed.size := by rw [j1]; exact len_of hk
      have e : listed.toList[i]? = some listed[i] := by simp [hi]
      rw [Array.getD_eq_getD_getElem?, Array.getElem?_eq_getElem hi]
      exact count_zero j2.symm e
    refine ⟨?_, ?_⟩
    · apply List.eq_nil_iff_forall_not_mem.2
      intro i hi
      obtain ⟨h1, h2, _⟩ := ready_mem hi
      obtain ⟨hi', h3⟩ := getD_false h2
      have h4 := all i KL[i] (by rw [List.getElem?_eq_getElem])
      rw [Array.getD_eq_getD_getElem?, h3] at h4
      cases h4
    · have ea : a = ⟨(putsL vals addr 0 KL).foldl (fun t p => t.setIfInBounds p.1 p.2) a0.tmps, a0.defers⟩ := by
        obtain ⟨t, df⟩ := a
        obtain ⟨s1, s2, s3⟩ := sl
        have ed : df = a0.defers := s1
        subst ed
        congr 1
        apply Array.ext_getElem?
        intro x
        rcases fold_put (putsL vals addr 0 KL) a0.tmps (fun p hp => hz _ (by rw [← putsL_fst (vals := vals) (addr := addr) 0 KL]; exact List.mem_map_of_mem hp)) (fun p hp q hq e => by
          obtain ⟨i, k, h1, h2, h3⟩ := putsL_mem hp
          obtain ⟨i', k', h1', h2', h3'⟩ := putsL_mem hq
          obtain rfl := apartD_spec hd h1 h1' h2 (by rw [h2', e])
          rw [h1] at h1'
          cases h1'
          rw [h3, h3']) x with ⟨h1, h2⟩ | ⟨p, hp, rfl, h⟩
        · rw [h1]
          rw [putsL_fst] at h2
          exact s3 x h2
        · rw [h]
          obtain ⟨i, k, h1, h2, h3⟩ := putsL_mem hp
          have I := it i k h1 (all i k h1)
          rw [h3, Nat.zero_add]
          cases k with
          | pure d v => cases h2; exact I
          | call d G => cases h2; exact I.1
          | alloc d cs T => cases h2; exact I.1
          | store ia ic fl => cases h2
          | same d j => cases h2; exact I.1
      rw [ea]
      refine fin vals addr w1 hx hH fun i k hk => ?_
      have I := it i k hk (all i k hk)
      cases k with
      | pure d v => trivial
      | call d G => exact I.2.1
      | alloc d cs T => exact ⟨I.2.1, I.2.2.1⟩
      | store ia ic fl => exact fun d cs T ha => (I d cs T ha).2.2
      | same d j => trivial
  · rintro n listed a w1 ⟨j1, j2, sl, hx, hH, vals, addr, gs, it⟩
    refine ⟨?_, fun i hi => ?_⟩
    · have : ∃ i : Nat, listed.toList[i]? = some false := by
        have : false ∈ listed.toList := List.count_pos_iff.1 (by omega)
        exact List.mem_iff_getElem?.1 this
      obtain ⟨i, hi⟩ := this
      have hi' : listed[i]? = some false := by simpa using hi
      have hlt := (Array.getElem?_eq_some_iff.1 hi').1
      exact ready_ne hbk (by rw [hs, j1]) i i (Nat.le_refl _) (by omega) (by rw [Array.getD_eq_getD_getElem?, hi']; rfl)
    · obtain ⟨hi1, hl, hwt⟩ := ready_mem hi
      obtain ⟨hisz, hlf⟩ := getD_false hl
      obtain ⟨o, ho⟩ : ∃ o, ops[i]? = some o := ⟨ops[i], by simp [hi1]⟩
      obtain ⟨k, hk⟩ : ∃ k, KL[i]? = some k := ⟨KL[i], by rw [List.getElem?_eq_getElem]⟩
      have hok := hop i o k ho hk
      have kn : Kn KL o.after a w1 := fun j kj hw hkj => (it j kj hkj (ready_waits hi ho hw)).kn
      have hcount : n = (listed.setIfInBounds i true).toList.count false := by
        have := count_set listed.toList i (by simpa using hlf)
        rw [Array.toList_setIfInBounds]
        omega
      have hsz' : (listed.setIfInBounds i true).size = KL.length := by rw [Array.size_setIfInBounds, j1]
      have lnot : ∀ j, listed.getD j false = true → j ≠ i := fun j hj e => by
        subst e
        rw [Array.getD_eq_getD_getElem?, hlf] at hj
        cases hj
      cases k with
      | pure d v =>
        refine hok a w1 _ sl kn hx ⟨hsz', hcount, sl.put _ _ (mem_dst hk rfl), hx, hH, vals, addr, gs, fun j kj hkj hlj => ?_⟩
        by_cases hji : j = i
        · subst hji
          rw [hk] at hkj
          cases hkj
          exact put_same (by rw [sl.2.1]; exact hz _ (mem_dst hk rfl))
        · have hlj' := (listed_cases hlj).resolve_left hji
          exact (it j kj hkj hlj').grow hd hk rfl hl (Kp.refl _) (fun _ _ => rfl) (fun _ _ => rfl) (fun _ _ => rfl) (fun _ _ _ e => by cases e) hkj hji hlj'
      | call d G =>
        refine hok a w1 _ sl kn hx hH fun v w2 Bs kk hB hdep hG => ⟨hsz', hcount, sl.put _ _ (mem_dst hk rfl), hSk _ _ kk hx, Nat.le_trans hH kk.2.2.2, fun x => if x = i then v else vals x, addr, fun x => if x = i then Bs else gs x, fun j kj hkj hlj => ?_⟩
        by_cases hji : j = i
        · subst hji
          rw [hk] at hkj
          cases hkj
          show _ ∧ _ ∧ _ ∧ _
          simp only [if_pos]
          refine ⟨put_same (by rw [sl.2.1]; exact hz _ (mem_dst hk rfl)), hG, hdep, fun x hx => ⟨(hB x hx).2, fun m d1 cs T hm hml => ?_⟩⟩
          have hmi : m ≠ j := fun e => by subst e; rw [hk] at hm; cases hm
          have hml' := (listed_cases hml).resolve_left hmi
          have := (it m _ hm hml').2.2.1
          have := (hB x hx).1
          omega
        · have hlj' := (listed_cases hlj).resolve_left hji
          exact (it j kj hkj hlj').grow hd hk rfl hl kk (fun x hx => if_neg hx) (fun _ _ => rfl) (fun x hx => if_neg hx) (fun _ _ _ e => by cases e) hkj hji hlj'
      | alloc d cs T =>
        have kk : Kp w1 (w1.alloc (.cells cs T)) := (Kp.refl _).alloc _ _
        refine hok a w1 _ ⟨hsz', hcount, sl.put _ _ (mem_dst hk rfl), hSk _ _ kk hx, Nat.le_trans hH kk.2.2.2, vals, fun x => if x = i then w1.heap.size else addr x, gs, fun j kj hkj hlj => ?_⟩
        by_cases hji : j = i
        · subst hji
          rw [hk] at hkj
          cases hkj
          show _ ∧ _ ∧ _ ∧ _ ∧ _
          simp only [if_pos]
          refine ⟨put_same (by rw [sl.2.1]; exact hz _ (mem_dst hk rfl)), hH, by simp, fun m d1 cs1 T1 hmj hm hml => ?_, fun _ => Blk.new w1 _ _⟩
          rw [if_neg hmj]
          have := (it m _ hm ((listed_cases hml).resolve_left hmj)).2.2.1
          omega
        · have hlj' := (listed_cases hlj).resolve_left hji
          exact (it j kj hkj hlj').grow hd hk rfl hl kk (fun _ _ => rfl) (fun x hx => if_neg hx) (fun _ _ => rfl) (fun _ _ _ e => by rw [if_pos rfl]; exact Nat.le_refl _) hkj hji hlj'
      | store ia ic fl =>
        obtain ⟨da, cs, T, dc, G, h1, h2, w1', w2', h5, h6⟩ := hok
        have la := ready_waits hi ho w1'
        have lc := ready_waits hi ho w2'
        have Ia := it ia _ h1 la
        have Ic := it ic _ h2 lc
        refine h6 a w1 _ (addr ia) (vals ic) Ia.1 Ic.1 Ic.2.1 (Ia.2.2.2.2 fun s ic' fl' hs1 => ?_) fun w2 mk bl => ⟨hsz', hcount, sl, hSm _ _ _ Ia.2.1 mk hx, Nat.le_trans hH mk.2.2.2, vals, addr, gs, fun j kj hkj hlj => ?_⟩
        · obtain rfl := onlyStore_spec h5 hs1
          rw [Array.getD_eq_getD_getElem?, hlf]; rfl
        · by_cases hji : j = i
          · subst hji
            rw [hk] at hkj
            cases hkj
            intro d1 cs1 T1 ha
            rw [h1] at ha
            cases ha
            exact ⟨by rw [getD_ne (Ne.symm (lnot _ la))]; exact la, by rw [getD_ne (Ne.symm (lnot _ lc))]; exact lc, bl⟩
          · have hlj' := (listed_cases hlj).resolve_left hji
            exact Item.fill hk h5 h1 la hisz mk hst Ia hkj hji (it j kj hkj hlj')
      | same d m =>
        obtain ⟨dm, G, h1, w1', h6⟩ := hok
        have lm := ready_waits hi ho w1'
        have Im := it m _ h1 lm
        refine h6 a w1 _ (vals m) Im.1 ⟨hsz', hcount, sl.put _ _ (mem_dst hk rfl), hx, hH, vals, addr, gs, fun j kj hkj hlj => ?_⟩
        by_cases hji : j = i
        · subst hji
          rw [hk] at hkj
          cases hkj
          exact ⟨put_same (by rw [sl.2.1]; exact hz _ (mem_dst hk rfl)), by rw [getD_ne (Ne.symm (lnot _ lm))]; exact lm⟩
        · have hlj' := (listed_cases hlj).resolve_left hji
          exact (it j kj hkj hlj').grow hd hk rfl hl (Kp.refl _) (fun _ _ => rfl) (fun _ _ => rfl) (fun _ _ => rfl) (fun _ _ _ e => by cases e) hkj hji hlj'
  · refine ⟨by rw [Array.size_replicate, hs], by simp, Sl.refl _ _, hS, Nat.le_refl _, fun _ => undef, fun _ => 0, fun _ => [], fun i k hk hl => ?_⟩
    rw [Array.getD_eq_getD_getElem?] at hl
    by_cases hi : i < ops.size
    · simp [hi] at hl
    · simp [hi] at hl

end Go.Proofs.Ytcobicnpdmgnjaa

/- OverInts over what a call made; a law's state beside it. -/
namespace Go.Proofs.Ytcobicnpdmgnjaa
open Go.RowKit Go.Shelf Go.Proofs.Wd
set_option linter.unusedVariables false
set_option linter.unusedSimpArgs false

theorem Own.set {B len : Nat} {Z : Nat → Int} {w : World} (h : Own B len Z w) (k : Nat) (v : Int) : Own B len (fun i => if i = k then v else Z i) (w.setCell ⟨B, k, none⟩ (.int .i64 v)) := by
  obtain ⟨cur, h1, h2⟩ := h
  refine ⟨_, Blk.set h1 k _, fun i hi => ?_⟩
  have e := h2 i hi
  have hs := (Array.getElem?_eq_some_iff.1 e).1
  rw [Array.getElem?_setIfInBounds]
  by_cases hk : k = i
  · rw [if_pos hk, if_pos (by omega)]
    show _ = some (Value.int .i64 (if i = k then v else Z i))
    rw [if_pos hk.symm]
  · rw [if_neg hk, e]
    show _ = some (Value.int .i64 (if i = k then v else Z i))
    rw [if_neg (fun e => hk e.symm)]
def OvJ (B : Nat) (ao : Option Addr) (len : Nat) (w wr : World) : Prop := Mod B w wr ∧ (len = 0 ∨ (ao = some ⟨B, 0, none⟩ ∧ ∃ Y, Own B len Y wr))
set_option maxHeartbeats 1000000 in
theorem kitOverI (B : Nat) (ao : Option Addr) (len cap : Nat) (X : Nat → Int) (hl : len ≤ 1000000) (w : World) (hA : len = 0 ∨ (ao = some ⟨B, 0, none⟩ ∧ Own B len X w)) :
    Calls Try.prog 24 #[.slice ao len cap] w fun e w' => e = .returned (.tuple #[]) ∧ Mod B w w' := by
  have HA := hide hA
  clear hA
  go_enter Try.func24, Try.ntmps24
  go_wp2
  go_loopw [2] (fun i wr => ∃ k : Nat, k ≤ len ∧ i = .int .i64 k ∧ Hid (OvJ B ao len w wr)) (fun i _ => len - (intOf i).toNat)
  case atStart => exact ⟨0, Nat.zero_le _, rfl, Mod.refl _ _, (unhide HA).imp id fun h => ⟨h.1, X, h.2⟩⟩
  case round =>
    obtain ⟨k, hk, rfl, HI⟩ := hrel
    by_cases hlt : k < len
    · obtain ⟨i1, i2⟩ := unhide HI
      rcases i2 with i2 | ⟨e1, Y, i2⟩
      · omega
      · subst e1
        have hc : wr.cell? ⟨B, k, none⟩ = some (.int .i64 (Y k)) := by obtain ⟨cur, b1, b2⟩ := i2; rw [Blk.cell b1, b2 k hlt]
        have hfz : wr.frozen? ⟨B, k, none⟩ = false := by obtain ⟨cur, b1, b2⟩ := i2; exact Blk.free b1 k
        have R : Hid (OvJ B (some ⟨B, 0, none⟩) len w (wr.setCell ⟨B, k, none⟩ (.int .i64 (-77)))) :=
          ⟨i1.setCell _ _, Or.inr ⟨rfl, _, Own.set i2 k _⟩⟩
        clear i1 i2 HI HA
        go_wp2
        go_roundw
        case rel => exact ⟨k + 1, by omega, by go_num, R⟩
        case measure => simp [intOf]; omega
    · obtain rfl : len = k := by omega
      go_wp2
      exact bodyPost_end (v := .tuple #[]) (by simp [results, Try.results24, go_sem]) rfl ⟨rfl, (unhide HI).1⟩

/-- A block that is none of the boxes, and holds no list. -/
def OffR (b : Nat) (bx : List (Nat × Array Value)) (rows : List (Option Addr × Nat × (Nat → Int))) : Prop := (∀ x ∈ bx, x.1 ≠ b) ∧ (∀ r ∈ rows, Off b r.2.1 r.1)
section
variable {w : World} {E : List Nat} {bx : List (Nat × Array Value)} {rows : List (Option Addr × Nat × (Nat → Int))} {wx w' : World} {b : Nat}
theorem LS.fresh (h : LS w E bx rows wx) (hb : wx.heap.size ≤ b) : OffR b bx rows := ⟨fun x hx => by have := Blk.lt (h.2.2.1 x hx).1; omega, fun r hr => (h.2.2.2 r hr).1.off hb⟩
theorem LS.over (h : LS w [] bx rows wx) (m : Mk b wx w') (hw : w.heap.size ≤ b) (f : OffR b bx rows) : LS w [] bx rows w' :=
  ⟨h.1.mk m hw, fun _ h => absurd h List.not_mem_nil, fun x hx => ⟨Blk.mk (h.2.2.1 x hx).1 m (f.1 x hx), List.not_mem_nil⟩, fun r hr => ⟨(h.2.2.2 r hr).1.mk m (f.2 r hr), fun _ h => absurd h List.not_mem_nil⟩⟩
theorem Mk.fresh (m : Mk wx.heap.size wx w') : Kp wx w' := ⟨m.1, m.2.1, fun k hk => m.2.2.1 k hk (by omega), m.2.2.2⟩
theorem kitOverL {ao : Option Addr} {len cap : Nat} {Z : Nat → Int} (hl : len ≤ 1000000) (h : LS w [] bx rows wx) (o : len = 0 ∨ (ao = some ⟨b, 0, none⟩ ∧ Own b len Z wx)) (hw : w.heap.size ≤ b) (f : len = 0 ∨ OffR b bx rows) :
    Calls Try.prog 24 #[.slice ao len cap] wx fun e w' => e = .returned (.tuple #[]) ∧ LS w [] bx rows w' ∧ (∀ k cs T, (len = 0 ∨ k ≠ b) → Blk k cs T wx → Blk k cs T w') := by
  by_cases hz : len = 0
  · refine (kitOverI wx.heap.size ao len cap Z hl wx (Or.inl hz)).mono ?_
    rintro e w' ⟨rfl, m⟩
    have k := Mk.fresh (Mk.of m)
    exact ⟨rfl, h.kp k, fun _ _ _ _ hb => Blk.kp hb k⟩
  · refine (kitOverI b ao len cap Z hl wx o).mono ?_
    rintro e w' ⟨rfl, m⟩
    exact ⟨rfl, h.over (Mk.of m) hw (f.resolve_left hz), fun _ _ _ hk hb => Blk.mk hb (Mk.of m) (hk.resolve_left hz)⟩
end

end Go.Proofs.Ytcobicnpdmgnjaa

/- 'x, y := CopyMat(..), ..': the kinds of operations that such regions hold (RegM), and what stays beside them. -/
namespace Go.Proofs.Ytcobicnpdmgnjaa
open Go.RowKit Go.Shelf Go.Proofs.Wd
set_option linter.unusedVariables false
set_option linter.unusedSimpArgs false

def aggOf : Value → Array Value
  | .agg cs => cs
  | _ => #[]
/-- A matrix that was made; it lies beside all below H. -/
def GM (r c : Int) (n : Nat) (Z : Nat → Int) (H : Nat) (v : Value) (w : World) : Prop := ∃ ao cap, v = .agg #[.int .i64 r, .int .i64 c, .slice ao n cap] ∧ n ≤ cap ∧ Row w ao n Z ∧ ∀ U, U < H → Off U n ao
/-- A list that was made. -/
def GI (n : Nat) (Z : Nat → Int) (H : Nat) (v : Value) (w : World) : Prop := ∃ ao cap, v = .slice ao n cap ∧ n ≤ cap ∧ Row w ao n Z ∧ ∀ U, U < H → Off U n ao
theorem row_dep {ao : Option Addr} {n : Nat} {Z : Nat → Int} {w w' : World} (row : Row w' ao n Z) (off : ∀ U, U < w.heap.size → Off U n ao) : ∃ Bs : List Nat, (∀ k ∈ Bs, w.heap.size ≤ k ∧ k < w'.heap.size) ∧ Dep Bs (fun wx => Row wx ao n Z) := by
  by_cases hn : n = 0
  · exact ⟨[], fun _ h => absurd h List.not_mem_nil, fun _ _ _ _ => Or.inl hn⟩
  · rcases row with h0 | ⟨b, o, rfl, hc⟩
    · exact absurd h0 hn
    · refine ⟨[b], fun k hk => ?_, fun w1 w2 he h => ?_⟩
      · rcases List.mem_singleton.1 hk with rfl
        refine ⟨Nat.le_of_not_lt fun hlt => off k hlt (by omega) _ rfl rfl, heap_gt (hc 0 (by omega))⟩
      · rcases h with h0 | ⟨b', o', e, hc'⟩
        · exact absurd h0 hn
        · cases e
          exact Or.inr ⟨b, o, rfl, fun i hi => (World.cell?_of_block (he b (by simp))).trans (hc' i hi)⟩
theorem copyM_dep {r c : Int} {n H : Nat} {Z : Nat → Int} {w w' : World} {e : Ending} (h : CopyM r c n Z w e w') (hH : H ≤ w.heap.size) : ∃ v Bs, e = .returned v ∧ Kp w w' ∧ (∀ k ∈ Bs, w.heap.size ≤ k ∧ k < w'.heap.size) ∧ Dep Bs (GM r c n Z H v) ∧ GM r c n Z H v w' := by
  obtain ⟨ao, cap, rfl, hc, row, off, kp⟩ := h
  obtain ⟨Bs, h1, h2⟩ := row_dep row off
  refine ⟨_, Bs, rfl, kp, h1, fun w1 w2 he hg => ?_, ao, cap, rfl, hc, row, fun U hU => off U (by omega)⟩
  obtain ⟨ao', cap', e, h3, h4, h5⟩ := hg
  cases e
  exact ⟨ao, cap, rfl, h3, h2 w1 w2 he h4, h5⟩
theorem copyQ_dep {n H : Nat} {Z : Nat → Int} {w w' : World} {e : Ending} (h : CopyQ n Z w e w') (hH : H ≤ w.heap.size) : ∃ v Bs, e = .returned v ∧ Kp w w' ∧ (∀ k ∈ Bs, w.heap.size ≤ k ∧ k < w'.heap.size) ∧ Dep Bs (GI n Z H v) ∧ GI n Z H v w' := by
  obtain ⟨ao, cap, rfl, hc, row, off, kp⟩ := h
  obtain ⟨Bs, h1, h2⟩ := row_dep row off
  refine ⟨_, Bs, rfl, kp, h1, fun w1 w2 he hg => ?_, ao, cap, rfl, hc, row, fun U hU => off U (by omega)⟩
  obtain ⟨ao', cap', e, h3, h4, h5⟩ := hg
  cases e
  exact ⟨ao, cap, rfl, h3, h2 w1 w2 he h4, h5⟩

section
variable {ops : Array Oper} {Q : Exit → Act → World → Prop} {KL : List OpK} {a0 : Act} {S : World → Prop} {H i d k j : Nat} {T : TypeId} {pos : String} {aft : Array Edge}
theorem okLoad {B : Nat} {v0 v1 v2 : Value} (hi : ops[i]? = some ⟨some d, .load 24 (.tmp k), T, pos, aft, none⟩) (hk : (KL.filterMap OpK.dst).contains k = false) (g : a0.tmps[k]? = some (.pointer (some ⟨B, 0, none⟩))) (hb : ∀ w, S w → Blk B #[v0, v1, v2] 24 w) : OpOK ops Q KL a0 S H i aft (.pure d (.agg #[v0, v1, v2])) :=
  fun a w K sl kn hs h => wpOp_load hi ((sl.2.2 k (by simpa using hk)).trans g) (hb w hs) h
theorem okMove {v : Value} (hi : ops[i]? = some ⟨some d, .move (.tmp k), T, pos, aft, none⟩) (hk : (KL.filterMap OpK.dst).contains k = false) (g : a0.tmps[k]? = some v) : OpOK ops Q KL a0 S H i aft (.pure d v) := by
  intro a w K sl kn hs h
  refine wpOp_of hi rfl ?_
  have ev := (sl.2.2 k (by simpa using hk)).trans g
  unfold Oper.wp
  simp [go_sem, ev]
  exact h
theorem okCall1 {f dj : Nat} {vj : Value} {T1 : TypeId} {G : Value → World → Prop} (hi : ops[i]? = some ⟨some d, .call ⟨.value (.func f), #[.tmp dj], #[T1]⟩, T, pos, aft, none⟩) (hj : KL[j]? = some (.pure dj vj)) (hw : waits aft j = true) (hf : ∀ w, Sem.run Try.prog (callFunc f #[vj]) w = .ok (.enter f #[vj]) w)
    (hc : ∀ w, S w → H ≤ w.heap.size → Calls Try.prog f #[vj] w fun e w' => ∃ v Bs, e = .returned v ∧ Kp w w' ∧ (∀ k ∈ Bs, w.heap.size ≤ k ∧ k < w'.heap.size) ∧ Dep Bs (G v) ∧ G v w') : OpOK ops Q KL a0 S H i aft (.call d G) := by
  intro a w K sl kn hs hH h
  refine wpOp_of hi rfl ?_
  have ev := kn.pure j dj vj hw hj
  unfold Oper.wp
  simp [go_sem, ev, hf]
  refine (hc w hs hH).mono ?_
  rintro e w' ⟨v, Bs, rfl, h1, h2, h3, h4⟩
  exact h v w' Bs h1 h2 h3 h4
theorem okAlloc (hi : ops[i]? = some ⟨some d, .alloc 24, T, pos, aft, none⟩) : OpOK ops Q KL a0 S H i aft (.alloc d #[.int .i64 0, .int .i64 0, .slice none 0 0] 24) :=
  fun a w K h => wpOp_alloc hi h
theorem okStore {da dc ia ic : Nat} {r c : Int} {n H' : Nat} {Z : Nat → Int} (hi : ops[i]? = some ⟨none, .store 24 (.tmp da) (.tmp dc), T, pos, aft, none⟩) (h1 : KL[ia]? = some (.alloc da #[.int .i64 0, .int .i64 0, .slice none 0 0] 24)) (h2 : KL[ic]? = some (.call dc (GM r c n Z H'))) (w1 : waits aft ia = true) (w2 : waits aft ic = true) (ho : onlyStore KL ia i = true) : OpOK ops Q KL a0 S H i aft (.store ia ic aggOf) := by
  refine ⟨_, _, _, _, _, h1, h2, w1, w2, ho, fun a w K A v ha hv hG hB h => ?_⟩
  obtain ⟨ao, cap, rfl, _⟩ := hG
  exact wpOp_store hi ha hv hB fun w' m b => h w' (Mk.of m) b
theorem okSame {dj : Nat} {G : Value → World → Prop} (hi : ops[i]? = some ⟨some d, .assign (.tmp dj), T, pos, aft, none⟩) (hj : KL[j]? = some (.call dj G)) (hw : waits aft j = true) : OpOK ops Q KL a0 S H i aft (.same d j) := by
  refine ⟨_, _, hj, hw, fun a w K v hv h => ?_⟩
  refine wpOp_of hi rfl ?_
  unfold Oper.wp
  simp [go_sem, hv]
  exact h
end

/-- Each operation of a region, one behind the other. -/
def OpsOK (ops : Array Oper) (Q : Exit → Act → World → Prop) (KL : List OpK) (a0 : Act) (S : World → Prop) (H : Nat) : Nat → List Oper → List OpK → Prop
  | _, [], _ => True
  | _, _ :: _, [] => False
  | i, o :: os, k :: ks => OpOK ops Q KL a0 S H i o.after k ∧ OpsOK ops Q KL a0 S H (i + 1) os ks
theorem OpsOK.hop {ops : Array Oper} {Q : Exit → Act → World → Prop} {KL : List OpK} {a0 : Act} {S : World → Prop} {H : Nat} : ∀ {i0 : Nat} {os : List Oper} {ks : List OpK}, OpsOK ops Q KL a0 S H i0 os ks → ∀ (i : Nat) (o : Oper) (k : OpK), os[i]? = some o → ks[i]? = some k → OpOK ops Q KL a0 S H (i0 + i) o.after k
  | _, [], _, _, i, o, k, ho, _ => by simp at ho
  | _, _ :: _, [], h, _, _, _, _, _ => h.elim
  | i0, o' :: os, k' :: ks, h, 0, o, k, ho, hk => by
    simp at ho hk
    subst ho hk
    exact h.1
  | i0, o' :: os, k' :: ks, h, i + 1, o, k, ho, hk => by
    have := OpsOK.hop h.2 i o k (by simpa using ho) (by simpa using hk)
    rwa [show i0 + (i + 1) = i0 + 1 + i from by omega]
theorem regN {ops : Array Oper} {Q : Exit → Act → World → Prop} {id : Nat} {a0 : Act} {w : World} (KL : List OpK) (S : World → Prop)
    (hm : Try.prog.follows .mixedOrders = true) (hs : ops.size = KL.length) (hbk : backs ops = true) (hd : apartD KL = true) (hz : (KL.filterMap OpK.dst).all (fun d => decide (d < a0.tmps.size)) = true)
    (hst : KL.all (fun k => match k with | .store ia _ _ => (match KL[ia]? with | some (.alloc _ _ _) => true | _ => false) | _ => true) = true)
    (hop : OpsOK ops Q KL a0 S w.heap.size 0 ops.toList KL)
    (hS : S w.drew) (hSk : ∀ a b, Kp a b → S a → S b) (hSm : ∀ A a b, w.heap.size ≤ A → Mk A a b → S a → S b)
    (fin : ∀ (vals : Nat → Value) (addr : Nat → Nat) (w' : World), S w' → w.heap.size ≤ w'.heap.size → (∀ i k, KL[i]? = some k → FinI KL vals addr w.heap.size w' i k) →
      Q .normal ⟨(putsL vals addr 0 KL).foldl (fun t p => t.setIfInBounds p.1 p.2) a0.tmps, a0.defers⟩ w') :
    (Code.region id ops true).wp Try.prog Q a0 w := by
  refine regM KL S hm hs hbk hd (fun d hd => by simpa using List.all_eq_true.1 hz d hd) (fun j ia ic fl hj => ?_) (fun i o k ho hk => ?_) hS hSk hSm fin
  · have h := List.all_eq_true.1 hst _ (List.mem_of_getElem? hj)
    simp only at h
    cases hk : KL[ia]? with
    | none => rw [hk] at h; cases h
    | some k =>
      rw [hk] at h
      cases k with
      | alloc d cs T => exact ⟨d, cs, T, rfl⟩
      | pure _ _ => cases h
      | call _ _ => cases h
      | store _ _ _ => cases h
      | same _ _ => cases h
  · have := hop.hop i o k (by simpa using ho) hk
    rwa [Nat.zero_add] at this

/-- What stays beside: boxes and lists, and X. -/
def SL (H : Nat) (w0 : World) (E : List Nat) (bx : List (Nat × Array Value)) (rows : List (Option Addr × Nat × (Nat → Int))) (X : World → Prop) (wx : World) : Prop :=
  LS w0 E bx rows wx ∧ X wx ∧ (∀ A, H ≤ A → OffR A bx rows) ∧ (∀ e ∈ E, e < H) ∧ w0.heap.size ≤ H
section
variable {w0 a b : World} {E : List Nat} {bx : List (Nat × Array Value)} {rows : List (Option Addr × Nat × (Nat → Int))} {X : World → Prop} {H A : Nat}
theorem LS.mkOff (h : LS w0 E bx rows a) (m : Mk A a b) (hw : w0.heap.size ≤ A) (f : OffR A bx rows) : LS w0 E bx rows b :=
  ⟨h.1.mk m hw, fun e he => ⟨(h.2.1 e he).1, Nat.lt_of_lt_of_le (h.2.1 e he).2 m.2.2.2⟩, fun x hx => ⟨Blk.mk (h.2.2.1 x hx).1 m (f.1 x hx), (h.2.2.1 x hx).2⟩, fun r hr => ⟨(h.2.2.2 r hr).1.mk m (f.2 r hr), (h.2.2.2 r hr).2⟩⟩
theorem SL.of (h : LS w0 E bx rows a) (hx : X a) : SL a.heap.size w0 E bx rows X a := ⟨h, hx, fun A hA => h.fresh hA, fun e he => (h.2.1 e he).2, h.1.2.2.2⟩
theorem SL.kp (hX : ∀ a b, Kp a b → X a → X b) (k : Kp a b) (h : SL H w0 E bx rows X a) : SL H w0 E bx rows X b := ⟨h.1.kp k, hX a b k h.2.1, h.2.2⟩
theorem SL.mk (hX : ∀ A a b, H ≤ A → Mk A a b → X a → X b) (hA : H ≤ A) (m : Mk A a b) (h : SL H w0 E bx rows X a) : SL H w0 E bx rows X b := ⟨h.1.mkOff m (Nat.le_trans h.2.2.2.2 hA) (h.2.2.1 A hA), hX A a b hA m h.2.1, h.2.2⟩
theorem LS.boxA {cs : Array Value} (h : LS w0 E bx rows a) (hb : Blk A cs 24 a) (hA : A ∉ E) : LS w0 E ((A, cs) :: bx) rows a :=
  ⟨h.1, h.2.1, fun x hx => by
    rcases List.mem_cons.1 hx with rfl | hx
    · exact ⟨hb, hA⟩
    · exact h.2.2.1 x hx, h.2.2.2⟩
end

end Go.Proofs.Ytcobicnpdmgnjaa

/- More kinds of operations that such regions hold (RegN): values that are read, calls of three. -/
namespace Go.Proofs.Ytcobicnpdmgnjaa
open Go.RowKit Go.Shelf Go.Proofs.Wd
set_option linter.unusedVariables false
set_option linter.unusedSimpArgs false

section
variable {ops : Array Oper} {Q : Exit → Act → World → Prop} {KL : List OpK} {a0 : Act} {S : World → Prop} {H i d k j : Nat} {T : TypeId} {pos : String} {aft : Array Edge}
theorem okY0 {o : Oper} {v vk : Value} (hi : ops[i]? = some o) (hd : o.dst = some d) (hg : o.guard = none) (hk : (KL.filterMap OpK.dst).contains k = false) (g : a0.tmps[k]? = some vk) (hrun : ∀ a : Act, a.tmps[k]? = some vk → ∀ w, (execOp a.eval o).run Try.prog w = .ok (.value v) w) : OpOK ops Q KL a0 S H i o.after (.pure d v) :=
  fun a w K sl kn hs h => YieldsIf.wpOp (S := S) (v := v) hi (Or.inl ⟨by simp [Region.wanted, hg], fun w' _ => hrun a ((sl.2.2 k (by simpa using hk)).trans g) w'⟩) hs (by rw [hd]; exact h)
theorem okYJ {o : Oper} {v vj : Value} {dj : Nat} (hi : ops[i]? = some o) (hd : o.dst = some d) (hg : o.guard = none) (hj : KL[j]? = some (.pure dj vj)) (hw : waits o.after j = true) (hrun : ∀ a : Act, a.tmps[dj]? = some vj → ∀ w, S w → (execOp a.eval o).run Try.prog w = .ok (.value v) w) : OpOK ops Q KL a0 S H i o.after (.pure d v) :=
  fun a w K sl kn hs h => YieldsIf.wpOp (S := S) (v := v) hi (Or.inl ⟨by simp [Region.wanted, hg], fun w' hs' => hrun a (kn.pure j dj vj hw hj) w' hs'⟩) hs (by rw [hd]; exact h)
theorem okCall3 {f d1 d2 d3 j1 j2 j3 : Nat} {v1 v2 v3 : Value} {T1 T2 T3 : TypeId} {G : Value → World → Prop} (hi : ops[i]? = some ⟨some d, .call ⟨.value (.func f), #[.tmp d1, .tmp d2, .tmp d3], #[T1, T2, T3]⟩, T, pos, aft, none⟩) (h1 : KL[j1]? = some (.pure d1 v1)) (h2 : KL[j2]? = some (.pure d2 v2)) (h3 : KL[j3]? = some (.pure d3 v3)) (w1 : waits aft j1 = true) (w2 : waits aft j2 = true) (w3 : waits aft j3 = true) (hf : ∀ w, Sem.run Try.prog (callFunc f #[v1, v2, v3]) w = .ok (.enter f #[v1, v2, v3]) w)
    (hc : ∀ w, S w → H ≤ w.heap.size → Calls Try.prog f #[v1, v2, v3] w fun e w' => ∃ v Bs, e = .returned v ∧ Kp w w' ∧ (∀ k ∈ Bs, w.heap.size ≤ k ∧ k < w'.heap.size) ∧ Dep Bs (G v) ∧ G v w') : OpOK ops Q KL a0 S H i aft (.call d G) := by
  intro a w K sl kn hs hH h
  refine wpOp_of hi rfl ?_
  have e1 := kn.pure j1 d1 v1 w1 h1
  have e2 := kn.pure j2 d2 v2 w2 h2
  have e3 := kn.pure j3 d3 v3 w3 h3
  unfold Oper.wp
  simp [go_sem, e1, e2, e3, hf]
  refine (hc w hs hH).mono ?_
  rintro e w' ⟨v, Bs, rfl, h1, h2, h3, h4⟩
  exact h v w' Bs h1 h2 h3 h4
end

end Go.Proofs.Ytcobicnpdmgnjaa

/- The laws' kit: Pick. -/
namespace Go.Proofs.Ytcobicnpdmgnjaa
open Go.RowKit Go.Proofs.Wd
set_option linter.unusedVariables false
set_option linter.unusedSimpArgs false

theorem tmod_of (x n : Int) (hn : 0 < n) : (0 ≤ x.tmod n → x.tmod n = x % n) ∧ (x.tmod n < 0 → x.tmod n + n = x % n) ∧ -n < x.tmod n ∧ x.tmod n < n := by
  have e := @Int.tmod_eq_emod x n
  have h1 := Int.emod_nonneg x (show n ≠ 0 by omega)
  have h2 := Int.emod_lt_of_pos x hn
  have h3 : (n.natAbs : Int) = n := by omega
  rw [e]
  split <;> omega
theorem wrap_id (y : Int) (h : -9223372036854775808 ≤ y ∧ y ≤ 9223372036854775807) : wrap64 y = y := by
  unfold wrap64
  omega

set_option maxHeartbeats 1000000 in
theorem kitPick (x n : Int) (hx : I64 x) (hn : 0 < n ∧ n ≤ 4611686018427387904) (w : World) : Calls Try.prog 37 #[.int .i64 x, .int .i64 n] w fun e w' => e = .returned (.int .i64 (x % n)) ∧ Kp w w' := by
  obtain ⟨h0, h1⟩ := hn
  have c0 : ¬ n ≤ 0 := by omega
  have T := hide (tmod_of x n h0)
  unfold I64 at hx
  go_enter Try.func37, Try.ntmps37
  go_wp2
  · rename_i hh
    go_ret
    exact ⟨congrArg (fun v => Ending.returned (Value.int .i64 v)) ((wrap_id _ (by have := unhide T; omega)).trans ((unhide T).2.1 hh)), Kp.refl _⟩
  · rename_i hh
    go_ret
    exact ⟨congrArg (fun v => Ending.returned (Value.int .i64 v)) ((unhide T).1 hh), Kp.refl _⟩

end Go.Proofs.Ytcobicnpdmgnjaa

/- The laws' helper small. -/
namespace Go.Proofs.Ytcobicnpdmgnjaa
open Go.RowKit Go.Shelf Go.Proofs.Wd
set_option linter.unusedVariables false
set_option linter.unusedSimpArgs false

/-- Small whole numbers, by any numbers. -/
def smN (L : Nat → Int) (n : Nat) : Nat → Int := fun i => if i < n then L i % 41 - 20 else 0
def smZ (L : Nat → Int) (n : Nat) : Nat → Int := fun i => smN L n i * 4294967296
theorem smN_bound (L : Nat → Int) (n i : Nat) : -20 ≤ smN L n i ∧ smN L n i ≤ 20 := by
  unfold smN
  split <;> omega
theorem OfI.kp {w wr w2 : World} {r c : Int} {Z : Nat → Int} {k : Nat} {v : Value} (h : OfI w r c Z k v wr) (g : Kp wr w2) : OfI w r c Z k v w2 := by
  obtain ⟨h1, h2, h3, h4, h5⟩ := h
  refine ⟨⟨h1.1, ?_⟩, Blk.kp h2 g, Blk.kp h3 g, h4.trans g, Nat.le_trans h5 g.2.2.2⟩
  rcases h1.2 with q | ⟨b, cap, cur, rfl, hb, hg, q⟩
  · exact Or.inl q
  · exact Or.inr ⟨b, cap, cur, rfl, hb, (g.2.2.1 b (Array.getElem?_eq_some_iff.1 hg).1).trans hg, q⟩
theorem app_own {w : World} {base k : Nat} {v : Value} {Z : Nat → Int} {z : Int} (hz : Z k = z) (h : w.ownsRow base 3 1 v (k + 1) (intL k Z ++ [.int .i64 z])) : w.ownsRow base 3 1 v (k + 1) (intL (k + 1) Z) := by
  subst hz
  rwa [intL_succ] at h

set_option maxRecDepth 20000 in
set_option maxHeartbeats 4000000 in
theorem lawSmall (r c : Nat) (hr : 1 ≤ r ∧ r ≤ 12) (hc : 1 ≤ c ∧ c ≤ 12) (ao : Option Addr) (n cap : Nat) (L : Nat → Int) (hL : Hid (∀ i, i < n → I64 (L i))) (w : World) (hrow : Row w ao n L) :
    Calls Try.prog 38 #[.int .i64 r, .int .i64 c, .slice ao n cap] w fun e w' => CopyM r c (r * c) (smZ L n) w e w' := by
  have hm := mul12n r c hr hc
  obtain ⟨len, hlen⟩ : ∃ q, r * c = q := ⟨_, rfl⟩
  rw [hlen] at hm
  rw [hlen]
  have lb : len ≤ 144 := hm.2
  have w1 : Hid (wrap64 ((r : Int) * (c : Int)) = (len : Int)) := wrapP r c len hlen (by omega)
  clear hm hlen hr hc
  obtain ⟨i0, hi, hz0, hz1, hz2⟩ := info_parts Try.infoInt
  obtain ⟨Z, hZ⟩ : ∃ Z, Z = smZ L n := ⟨_, rfl⟩
  rw [← hZ]
  have EZ : Hid (∀ i, Z i = smN L n i * 4294967296) := fun i => by rw [hZ]; rfl
  have G : Grown w ((w.alloc (.cells #[.int .i64 0, .int .i64 0, .slice none 0 0] 24)).alloc (.cells #[.int .i64 r, .int .i64 c, .slice none 0 0] 24)) := ((Grown.refl _).alloc _ _).alloc _ _
  have ST : Hid (OfI w r c Z 0 (.slice none 0 0) ((w.alloc (.cells #[.int .i64 0, .int .i64 0, .slice none 0 0] 24)).alloc (.cells #[.int .i64 r, .int .i64 c, .slice none 0 0] 24))) :=
    ⟨World.ownsRow_nil _ _ _ _, Blk.grown (Blk.new w _ _) ((Grown.refl _).alloc _ _), blk_new2 w _ _ _, Kp.of G, by simp⟩
  have HR := hide hrow
  clear hZ G hrow
  go_enter Try.func38, Try.ntmps38
  go_wp2_with fail
  generalize (w.alloc (.cells #[.int .i64 0, .int .i64 0, .slice none 0 0] 24)).alloc (.cells #[.int .i64 r, .int .i64 c, .slice none 0 0] 24) = wS at *
  go_loopw [8] (fun i wr => ∃ k : Nat, k ≤ len ∧ i = .int .i64 k ∧ Hid (∃ v, OfI w r c Z k v wr)) (fun i _ => len - (intOf i).toNat)
  case atStart => exact ⟨0, Nat.zero_le _, rfl, _, unhide ST⟩
  case round =>
    obtain ⟨k, hk, rfl, HI0⟩ := hrel
    have wm := unhide w1
    by_cases hlt : k < len
    · obtain ⟨v, hI⟩ := unhide HI0
      have y2 : wr.cell? ⟨w.heap.size + 1, 2, none⟩ = some v := Blk.cell hI.2.2.1 2
      have HI := hide hI
      clear HI0 hI
      by_cases hn : k < n
      · obtain ⟨b, o, rfl, hc0⟩ := ((unhide HR).kp (unhide HI).2.2.2.1).at hn
        obtain ⟨x, ex⟩ : ∃ x, L k = x := ⟨_, rfl⟩
        rw [ex] at hc0
        have PK := hide (fun w => kitPick x 41 (by rw [← ex]; exact unhide hL k hn) (by omega) w)
        have pb : 0 ≤ x % 41 ∧ x % 41 ≤ 40 := by omega
        obtain ⟨y, hy⟩ : ∃ y, x % 41 = y := ⟨_, rfl⟩
        have EK : Hid (Z k = (y - 20) * 4294967296) := by
          show Z k = _
          rw [unhide EZ k]
          unfold smN
          rw [if_pos hn, ex, hy]
        rw [hy] at PK pb
        have i0' : (0 : Int) ≤ (k : Int) := by omega
        have i1' : (k : Int) < (n : Int) := by omega
        clear ex hy
        go_wp2_with fail
        refine (unhide PK _).mono ?_
        rintro e w2 ⟨rfl, k2⟩
        have y2' : w2.cell? ⟨w.heap.size + 1, 2, none⟩ = some v := k2.cell y2
        have HI2 := hide ((unhide HI).kp k2)
        clear k2 HI y2 PK hc0
        have HI := HI2
        clear HI2
        obtain ⟨z, hz⟩ : ∃ z, y - 20 = z := ⟨_, rfl⟩
        have zb : -20 ≤ z ∧ z ≤ 20 := by omega
        rw [hz] at EK
        have wa : wrap64 (y - 20) = z := by rw [hz]; exact wrap_id _ (by omega)
        have wb : wrap64 (z * 4294967296) = z * 4294967296 := wrap_id _ (by omega)
        clear hz pb zb
        have B1 : Hid (k + 1 ≤ maxLen) := by show k + 1 ≤ maxLen; unfold maxLen; omega
        have B2 : Hid ((k + 1) * 8 ≤ 140737488355328) := by show (k + 1) * 8 ≤ 140737488355328; omega
        have B3 : Hid (w.heap.size + 1 + 1 ≤ (w2.alloc (.cells #[.int .i64 (z * 4294967296)] 3)).heap.size) := by
          have := (unhide HI).2.2.2.2
          show _ ≤ _
          simp
          omega
        have B4 : Hid (k + 1 ≤ len) := hlt
        go_wp2_with (at_builtin; refine wpList_append_own _ rfl _ _ 22 rfl (w.heap.size + 1 + 1) 3 i0 (.int .i64 0) 1 8 Try.underlying22 hi hz0 hz1 hz2 rfl (by decide) _ _ _ rfl ((unhide HI).1.alloc _) ⟨w2.heap.size, 0, none⟩ 1 1 [.int .i64 (z * 4294967296)] rfl rfl (news_one _ _ _) (one_cell _) (unhide B1) (unhide B2) (unhide B3) ?_; intro v' w4 hown hgrow _; obtain ⟨g', cap', rfl⟩ := ownsRow_succ hown; have hg4 := And.intro (app_own (unhide EK) hown) hgrow; have P := OfI.app (unhide HI) ((Grown.refl w2).alloc #[.int .i64 (z * 4294967296)] 3) ((unhide HI).1.alloc _) hg4; have q2 : w4.cell? ⟨w.heap.size + 1, 2, none⟩ = some v := (Blk.cell P.1 2); have q3 := Blk.free P.1 2; have HP := hide P.2; clear P hg4 hown hgrow)
        (try clear wa)
        (try clear wb)
        (try clear wm)
        go_roundw
        case rel => exact ⟨k + 1, unhide B4, by go_num, _, unhide HP⟩
        case measure => have := unhide B4; simp [intOf]; omega
      · have EK : Hid (Z k = 0) := by
          show Z k = 0
          rw [unhide EZ k]
          unfold smN
          rw [if_neg hn]
          rfl
        have B1 : Hid (k + 1 ≤ maxLen) := by show k + 1 ≤ maxLen; unfold maxLen; omega
        have B2 : Hid ((k + 1) * 8 ≤ 140737488355328) := by show (k + 1) * 8 ≤ 140737488355328; omega
        have B3 : Hid (w.heap.size + 1 + 1 ≤ (wr.alloc (.cells #[.int .i64 (0)] 3)).heap.size) := by
          have := (unhide HI).2.2.2.2
          show _ ≤ _
          simp
          omega
        have B4 : Hid (k + 1 ≤ len) := hlt
        go_wp2_with (at_builtin; refine wpList_append_own _ rfl _ _ 22 rfl (w.heap.size + 1 + 1) 3 i0 (.int .i64 0) 1 8 Try.underlying22 hi hz0 hz1 hz2 rfl (by decide) _ _ _ rfl ((unhide HI).1.alloc _) ⟨wr.heap.size, 0, none⟩ 1 1 [.int .i64 (0)] rfl rfl (news_one _ _ _) (one_cell _) (unhide B1) (unhide B2) (unhide B3) ?_; intro v' w4 hown hgrow _; obtain ⟨g', cap', rfl⟩ := ownsRow_succ hown; have hg4 := And.intro (app_own (unhide EK) hown) hgrow; have P := OfI.app (unhide HI) ((Grown.refl wr).alloc #[.int .i64 (0)] 3) ((unhide HI).1.alloc _) hg4; have q2 : w4.cell? ⟨w.heap.size + 1, 2, none⟩ = some v := (Blk.cell P.1 2); have q3 := Blk.free P.1 2; have HP := hide P.2; clear P hg4 hown hgrow)
        (try clear wa)
        (try clear wb)
        (try clear wm)
        go_roundw
        case rel => exact ⟨k + 1, unhide B4, by go_num, _, unhide HP⟩
        case measure => have := unhide B4; simp [intOf]; omega
    · obtain rfl : k = len := by omega
      obtain ⟨v, h0, h2, hM, h5, h6⟩ := unhide HI0
      obtain ⟨ao2, cap2, rfl, h1, h3, h4⟩ := owns_rowC h0
      have y0 : wr.cell? ⟨w.heap.size + 1, 0, none⟩ = some (.int .i64 r) := Blk.cell hM 0
      have y1 : wr.cell? ⟨w.heap.size + 1, 1, none⟩ = some (.int .i64 c) := Blk.cell hM 1
      have y2 : wr.cell? ⟨w.heap.size + 1, 2, none⟩ = some (.slice ao2 k cap2) := Blk.cell hM 2
      have e0 : wr.cell? ⟨w.heap.size, 0, none⟩ = some (.int .i64 0) := Blk.cell h2 0
      have e1 : wr.cell? ⟨w.heap.size, 1, none⟩ = some (.int .i64 0) := Blk.cell h2 1
      have e2 : wr.cell? ⟨w.heap.size, 2, none⟩ = some (.slice none 0 0) := Blk.cell h2 2
      have f := Blk.free h2
      have R := hide (And.intro h2 (And.intro h1 (And.intro h3 (And.intro h4 h5))))
      clear h0 h2 hM h1 h3 h4 h5 h6 HI0
      go_wp2
      obtain ⟨h2, h1, h3, h4, h5⟩ := unhide R
      have P := putM h2 (.int .i64 r) (.int .i64 c) (.slice ao2 k cap2)
      generalize (((wr.setCell ⟨w.heap.size, 0, none⟩ (.int .i64 r)).setCell ⟨w.heap.size, 1, none⟩ (.int .i64 c)).setCell ⟨w.heap.size, 2, none⟩ (.slice ao2 k cap2)) = wE at *
      have c0 : wE.cell? ⟨w.heap.size, 0, none⟩ = some (.int .i64 r) := Blk.cell P.1 0
      have c1 : wE.cell? ⟨w.heap.size, 1, none⟩ = some (.int .i64 c) := Blk.cell P.1 1
      have c2 : wE.cell? ⟨w.heap.size, 2, none⟩ = some (.slice ao2 k cap2) := Blk.cell P.1 2
      refine bodyPost_ret (v := .agg #[.int .i64 r, .int .i64 c, .slice ao2 k cap2]) (by simp [results, Try.results38, go_sem, c0, c1, c2]) rfl ?_
      exact ⟨_, _, rfl, h1, h3.mod P.2 (h4 _ (by omega)), fun U hU => h4 U (by omega), h5.mod P.2 (Nat.le_refl _)⟩

end Go.Proofs.Ytcobicnpdmgnjaa

/- Small whole numbers: products of three, of a sum, and what is applied: nothing is cut. -/
namespace Go.Proofs.Wd
set_option linter.unusedVariables false

theorem Wh.more {p q : Int} {n : Nat} {X x : Nat → Int} (h : Wh p n X x) (hpq : p ≤ q) : Wh q n X x := fun i hi => ⟨(h i hi).1, by have := (h i hi).2; omega⟩
theorem wh_eq {p q : Int} {n : Nat} {X Y x y : Nat → Int} (h : Wh p n X x) (k : Wh q n Y y) (e : ∀ i, i < n → x i = y i) : ∀ i, i < n → X i = Y i := fun i hi => by rw [(h i hi).1, (k i hi).1, e i hi]
/-- A product of whole numbers, with plain bounds. -/
theorem whM (A B a b : Nat → Int) (r m c : Nat) (p q s : Int) (hp : 0 ≤ p ∧ p ≤ 1000000) (hq : 0 ≤ q ∧ q ≤ 1000000) (hm : 1 ≤ m ∧ m ≤ 5) (hs : p * q * 5 ≤ s) (hs2 : s ≤ 1000000) (hA : Wh p (r * m) A a) (hB : Wh q (m * c) B b) :
    Wh s (r * c) (mulZ A B m c) (mulW a b m c) ∧ orC (mulG A B m c) (r * c) = false := by
  have hpq : 0 ≤ p * q := Int.mul_nonneg hp.1 hq.1
  have hm5 : p * q * (m : Int) ≤ p * q * 5 := Int.mul_le_mul_of_nonneg_left (by omega) hpq
  obtain ⟨h1, h2⟩ := whole_mat A B a b r m c p q (by omega) (by omega) hA hB (by omega)
  exact ⟨h1.more (by omega), orC_of _ _ h2⟩
theorem whA (A X a x : Nat → Int) (r m : Nat) (p q s : Int) (hp : 0 ≤ p ∧ p ≤ 1000000) (hq : 0 ≤ q ∧ q ≤ 1000000) (hm : 1 ≤ m ∧ m ≤ 5) (hs : p * q * 5 ≤ s) (hs2 : s ≤ 1000000) (hA : Wh p (r * m) A a) (hX : Wh q m X x) :
    Wh s r (appZ A X m) (appW a x m) ∧ orC (appG A X m) r = false := by
  have hpq : 0 ≤ p * q := Int.mul_nonneg hp.1 hq.1
  have hm5 : p * q * (m : Int) ≤ p * q * 5 := Int.mul_le_mul_of_nonneg_left (by omega) hpq
  obtain ⟨h1, h2⟩ := whole_app A X a x r m p q (by omega) (by omega) hA hX (by omega)
  exact ⟨h1.more (by omega), orC_of _ _ h2⟩
theorem whS (A B a b : Nat → Int) (n : Nat) (p q : Int) (hp : 0 ≤ p) (hq : 0 ≤ q) (hs : p + q ≤ 1000000) (hA : Wh p n A a) (hB : Wh q n B b) :
    Wh (p + q) n (fun i => s2N (A i) (B i)) (fun i => a i + b i) ∧ orC (fun i => s2C (A i) (B i)) n = false := by
  obtain ⟨h1, h2⟩ := whole_sum A B a b n p q hp hq (by omega) hA hB
  exact ⟨h1, orC_of _ _ h2⟩

/-- All of it. -/
theorem wholeAll (A B C D X a b c d x : Nat → Int) (r m n k : Nat) (hm : 1 ≤ m ∧ m ≤ 5) (hn : 1 ≤ n ∧ n ≤ 5) (hk : 1 ≤ k ∧ k ≤ 5) (hA : Wh 20 (r * m) A a) (hB : Wh 20 (m * n) B b) (hC : Wh 20 (n * k) C c) (hD : Wh 20 (m * n) D d) (hX : Wh 20 n X x) :
    (orC (mulG A B m n) (r * n) = false ∧ orC (mulG (mulZ A B m n) C n k) (r * k) = false ∧ orC (mulG B C n k) (m * k) = false ∧ orC (mulG A (mulZ B C n k) m k) (r * k) = false ∧ orC (fun p => s2C (B p) (D p)) (m * n) = false ∧ orC (mulG A (fun p => s2N (B p) (D p)) m n) (r * n) = false ∧ orC (mulG A D m n) (r * n) = false ∧ orC (fun p => s2C (mulZ A B m n p) (mulZ A D m n p)) (r * n) = false ∧ orC (appG B X n) m = false ∧ orC (appG A (appZ B X n) m) r = false ∧ orC (appG (mulZ A B m n) X n) r = false) ∧
    (∀ i, i < r * k → mulZ (mulZ A B m n) C n k i = mulZ A (mulZ B C n k) m k i) ∧ (∀ i, i < r * n → mulZ A (fun p => s2N (B p) (D p)) m n i = s2N (mulZ A B m n i) (mulZ A D m n i)) ∧ (∀ i, i < r → appZ A (appZ B X n) m i = appZ (mulZ A B m n) X n i) := by
  have ab := whM A B a b r m n 20 20 2000 (by omega) (by omega) hm (by omega) (by omega) hA hB
  have abc := whM _ C _ c r n k 2000 20 200000 (by omega) (by omega) hn (by omega) (by omega) ab.1 hC
  have bc := whM B C b c m n k 20 20 2000 (by omega) (by omega) hn (by omega) (by omega) hB hC
  have abc2 := whM A _ a _ r m k 20 2000 200000 (by omega) (by omega) hm (by omega) (by omega) hA bc.1
  have bd := whS B D b d (m * n) 20 20 (by omega) (by omega) (by omega) hB hD
  have abd := whM A _ a _ r m n 20 (20 + 20) 4000 (by omega) (by omega) hm (by omega) (by omega) hA bd.1
  have ad := whM A D a d r m n 20 20 2000 (by omega) (by omega) hm (by omega) (by omega) hA hD
  have sm := whS _ _ _ _ (r * n) 2000 2000 (by omega) (by omega) (by omega) ab.1 ad.1
  have bx := whA B X b x m n 20 20 2000 (by omega) (by omega) hn (by omega) (by omega) hB hX
  have abx := whA A _ a _ r m 20 2000 200000 (by omega) (by omega) hm (by omega) (by omega) hA bx.1
  have abx2 := whA _ X _ x r n 2000 20 200000 (by omega) (by omega) hn (by omega) (by omega) ab.1 hX
  refine ⟨⟨ab.2, abc.2, bc.2, abc2.2, bd.2, abd.2, ad.2, sm.2, bx.2, abx.2, abx2.2⟩, ?_, ?_, ?_⟩
  · exact wh_eq abc.1 abc2.1 (fun i hi => mulW_assoc a b c r m n k i hi)
  · exact wh_eq abd.1 sm.1 (fun i hi => mulW_add a b d m n i)
  · exact wh_eq abx.1 abx2.1 (fun i hi => (appW_assoc a b x m n i).symm)

end Go.Proofs.Wd

/- MatWhole. -/
namespace Go.Proofs.Ytcobicnpdmgnjaa
open Go.RowKit Go.Shelf Go.Proofs.Wd
set_option linter.unusedVariables false
set_option linter.unusedSimpArgs false

/-- The shape, the first k of it drawn. -/
def shZ (S : Nat → Int) (k : Nat) : Nat → Int := fun i => if i < k then 1 + S i % 5 else S i
theorem shZ_put (S : Nat → Int) (k : Nat) : ints 4 (fun i => if i = k then 1 + S k % 5 else shZ S k i) = ints 4 (shZ S (k + 1)) := by
  refine ints_congr _ _ _ fun i hi => ?_
  unfold shZ
  by_cases e : i = k
  · subst e; simp
  · by_cases g : i < k
    · rw [if_neg e, if_pos g, if_pos (by omega)]
    · rw [if_neg e, if_neg g, if_neg (by omega)]
theorem smZ_wh (L : Nat → Int) (n len : Nat) : Wh 20 len (smZ L n) (smN L n) := fun i _ => ⟨rfl, smN_bound L n i⟩
theorem smZ_I64 (L : Nat → Int) (n i : Nat) : I64 (smZ L n i) := by
  have := smN_bound L n i
  unfold smZ I64
  omega




theorem rowEq {w : World} {ao : Option Addr} {len : Nat} {Z Y : Nat → Int} (h : Row w ao len Z) (e : ∀ i, i < len → Z i = Y i) : Row w ao len Y := by
  rcases h with h0 | ⟨b, o, rfl, hc⟩
  · exact Or.inl h0
  · exact Or.inr ⟨b, o, rfl, fun i hi => by rw [hc i hi, e i hi]⟩
theorem bnd5 (m j : Nat) (hm : m ≤ 5) (hj : j ≤ 25) : 0 ≤ 2 * (m : Int) * (j : Int) ∧ 2 * (m : Int) * (j : Int) ≤ 1000 := by
  have h1 : 2 * m * j ≤ 10 * 25 := Nat.mul_le_mul (by omega) hj
  have h2 : ((2 * m * j : Nat) : Int) = 2 * (m : Int) * (j : Int) := by rw [Int.natCast_mul, Int.natCast_mul]; rfl
  omega
theorem mul5 (a b : Nat) (ha : 1 ≤ a ∧ a ≤ 5) (hb : 1 ≤ b ∧ b ≤ 5) : 1 ≤ a * b ∧ a * b ≤ 25 := ⟨Nat.mul_pos ha.1 hb.1, Nat.mul_le_mul ha.2 hb.2⟩
theorem orF {G : Bool} (h : G = false) : ∀ c : Bool, c = false → (c || G) = false := by
  rintro c rfl
  rw [h]
  rfl
theorem row4 {w : World} {b : Nat} {Z : Nat → Int} (h : Row w (some ⟨b, 0, none⟩) 4 Z) : w.cell? ⟨b, 0, none⟩ = some (.int .i64 (Z 0)) ∧ w.cell? ⟨b, 1, none⟩ = some (.int .i64 (Z 1)) ∧ w.cell? ⟨b, 2, none⟩ = some (.int .i64 (Z 2)) ∧ w.cell? ⟨b, 3, none⟩ = some (.int .i64 (Z 3)) := by
  rcases h with h | ⟨b', o, e, hc⟩
  · omega
  · cases e
    exact ⟨hc 0 (by omega), hc 1 (by omega), hc 2 (by omega), hc 3 (by omega)⟩

set_option maxRecDepth 50000 in
set_option maxHeartbeats 16000000 in
theorem lawMatWhole (S : Nat → Int) (hS : ∀ i, i < 4 → I64 (S i)) (a1 a2 a3 : Option Addr) (l1 p1 l2 p2 l3 p3 : Nat) (L1 L2 L3 : Nat → Int) (i1 : ∀ i, i < l1 → I64 (L1 i)) (i2 : ∀ i, i < l2 → I64 (L2 i)) (i3 : ∀ i, i < l3 → I64 (L3 i)) (w : World) (r1 : Row w a1 l1 L1) (r2 : Row w a2 l2 L2) (r3 : Row w a3 l3 L3) :
    Calls Try.prog 7 #[.agg #[.int .i64 (S 0), .int .i64 (S 1), .int .i64 (S 2), .int .i64 (S 3)], .slice a1 l1 p1, .slice a2 l2 p2, .slice a3 l3 p3] w fun e w' => e = .returned (.bool true) ∧ Kp w w' := by
  have e4 : #[.int .i64 (S 0), .int .i64 (S 1), .int .i64 (S 2), .int .i64 (S 3)] = ints 4 (shZ S 0) := by
    have : ints 4 (shZ S 0) = ints 4 S := ints_congr _ _ _ (fun i hi => by unfold shZ; rw [if_neg (by omega)])
    rw [this]
    rfl
  have B0 : Hid (Blk w.heap.size (ints 4 (shZ S 0)) 57 (w.alloc (.cells #[.int .i64 (S 0), .int .i64 (S 1), .int .i64 (S 2), .int .i64 (S 3)] 57)) ∧ Kp w (w.alloc (.cells #[.int .i64 (S 0), .int .i64 (S 1), .int .i64 (S 2), .int .i64 (S 3)] 57))) := by
    refine ⟨?_, (Kp.refl w).alloc _ _⟩
    rw [← e4]
    exact Blk.new w _ _
  have HS := hide hS
  have HR := hide (And.intro r1 (And.intro r2 r3))
  have HI := hide (And.intro i1 (And.intro i2 i3))
  clear e4 hS r1 r2 r3 i1 i2 i3
  go_enter Try.func7, Try.ntmps7
  go_wp2_with fail
  generalize w.alloc (.cells #[.int .i64 (S 0), .int .i64 (S 1), .int .i64 (S 2), .int .i64 (S 3)] 57) = w0 at *
  refine (lawMatKnown w0).mono ?_
  rintro e w1 ⟨rfl, k1⟩
  have B1 : Hid (Blk w.heap.size (ints 4 (shZ S 0)) 57 w1 ∧ Kp w w1) := ⟨Blk.kp (unhide B0).1 k1, (unhide B0).2.trans k1⟩
  clear k1 B0
  go_wp2_with fail
  go_loopw [10] (fun i wr => ∃ k : Nat, k ≤ 4 ∧ i = .int .i64 k ∧ Hid (Blk w.heap.size (ints 4 (shZ S k)) 57 wr ∧ Kp w wr)) (fun i _ => 4 - (intOf i).toNat)
  case atStart => exact ⟨0, by omega, rfl, unhide B1⟩
  case round =>
    obtain ⟨k, hk, rfl, HB⟩ := hrel
    by_cases hlt : k < 4
    · obtain ⟨x, ex⟩ : ∃ x, S k = x := ⟨_, rfl⟩
      have ek : shZ S k k = x := by unfold shZ; rw [if_neg (by omega), ex]
      have c0 : wr.cell? ⟨w.heap.size, k, none⟩ = some (.int .i64 x) := by rw [Blk.cell (unhide HB).1, ints_at 4 _ k hlt, ek]
      have PK := hide (fun w => kitPick x 5 (by rw [← ex]; exact unhide HS k hlt) (by omega) w)
      obtain ⟨y, hy⟩ : ∃ y, x % 5 = y := ⟨_, rfl⟩
      have yb : 0 ≤ y ∧ y ≤ 4 := by omega
      rw [hy] at PK
      have EY : Hid (1 + S k % 5 = 1 + y) := by show 1 + S k % 5 = 1 + y; rw [ex, hy]
      have i0 : (0 : Int) ≤ (k : Int) := by omega
      have i4 : (k : Int) < 4 := by omega
      clear ek hy ex
      go_wp2_with fail
      refine (unhide PK _).mono ?_
      rintro e w2 ⟨rfl, k2⟩
      have b2 := Blk.kp (unhide HB).1 k2
      have q2 : w2.cell? ⟨w.heap.size, k, none⟩ = some (.int .i64 x) := k2.cell c0
      have f2 := Blk.free b2 k
      have R : Hid (Blk w.heap.size (ints 4 (shZ S (k + 1))) 57 (w2.setCell ⟨w.heap.size, k, none⟩ (.int .i64 (1 + y))) ∧ Kp w (w2.setCell ⟨w.heap.size, k, none⟩ (.int .i64 (1 + y)))) := by
        have := Blk.setI b2 k (1 + y)
        rw [← unhide EY, shZ_put] at this
        rw [← unhide EY]
        exact ⟨this, ((unhide HB).2.trans k2).mod ((Mod.refl _ _).setCell _ _) (Nat.le_refl _)⟩
      clear b2 k2 c0 PK HB
      go_wp2
      go_roundw
      case rel => exact ⟨k + 1, by omega, by go_num, R⟩
      case measure => simp [intOf]; omega
    · obtain rfl : k = 4 := by omega
      clear B1 hlt hk
      obtain ⟨n0, e0⟩ : ∃ n0 : Nat, 1 + S 0 % 5 = n0 := ⟨(1 + S 0 % 5).toNat, by omega⟩
      obtain ⟨n1, e1⟩ : ∃ n1 : Nat, 1 + S 1 % 5 = n1 := ⟨(1 + S 1 % 5).toNat, by omega⟩
      obtain ⟨n2, e2⟩ : ∃ n2 : Nat, 1 + S 2 % 5 = n2 := ⟨(1 + S 2 % 5).toNat, by omega⟩
      obtain ⟨n3, e3⟩ : ∃ n3 : Nat, 1 + S 3 % 5 = n3 := ⟨(1 + S 3 % 5).toNat, by omega⟩
      have HN : Hid ((1 ≤ n0 ∧ n0 ≤ 5) ∧ (1 ≤ n1 ∧ n1 ≤ 5) ∧ (1 ≤ n2 ∧ n2 ≤ 5) ∧ (1 ≤ n3 ∧ n3 ≤ 5)) := by show _ ∧ _ ∧ _ ∧ _; omega
      have CS : Hid (∀ wx, Row wx (some ⟨w.heap.size, 0, none⟩) 4 (shZ S 4) → wx.cell? ⟨w.heap.size, 0, none⟩ = some (.int .i64 n0) ∧ wx.cell? ⟨w.heap.size, 1, none⟩ = some (.int .i64 n1) ∧ wx.cell? ⟨w.heap.size, 2, none⟩ = some (.int .i64 n2) ∧ wx.cell? ⟨w.heap.size, 3, none⟩ = some (.int .i64 n3)) := by
        intro wx h
        obtain ⟨h0, h1, h2, h3⟩ := row4 h
        exact ⟨by rw [h0, ← e0]; rfl, by rw [h1, ← e1]; rfl, by rw [h2, ← e2]; rfl, by rw [h3, ← e3]; rfl⟩
      clear e0 e1 e2 e3 HS
      go_wp2_with fail
      refine (unitNew wr).mono ?_
      rintro e w2 ⟨rfl, h2, g2⟩
      have K2 : Hid (KS w wr.heap.size (fun g => g = false) 0 [] [(some ⟨w.heap.size, 0, none⟩, 4, shZ S 4), (a3, l3, L3), (a2, l2, L2), (a1, l1, L1)] w2) := by
        have hw := (unhide HB).2
        have hz := hw.2.2.2
        have lb := Blk.lt (unhide HB).1
        have kw := hw.grown g2
        have rs : Row w2 (some ⟨w.heap.size, 0, none⟩) 4 (shZ S 4) := Blk.row (Blk.grown (unhide HB).1 g2)
        have l0 : LS w [wr.heap.size] [] [] w2 := ⟨kw, fun e he => (by simp at he; subst he; exact ⟨hz, Blk.lt h2⟩), fun _ h => absurd h List.not_mem_nil, fun _ h => absurd h List.not_mem_nil⟩
        obtain ⟨r1, r2, r3⟩ := unhide HR
        exact ⟨⟨false, 0, rfl, by omega, by omega, h2⟩, (((l0.row (r1.kp kw) (fun e he => (by simp at he; subst he; exact r1.off hz))).row (r2.kp kw) (fun e he => (by simp at he; subst he; exact r2.off hz))).row (r3.kp kw) (fun e he => (by simp at he; subst he; exact r3.off hz))).row rs (fun e he => (by simp at he; subst he; exact off_blk (by omega)))⟩
      clear h2 g2 HB HR
      generalize wr.heap.size = U at *
      have SA : Hid (∀ wx, Row wx a1 l1 L1 → Calls Try.prog 38 #[.int .i64 n0, .int .i64 n1, .slice a1 l1 p1] wx fun e w' => CopyM n0 n1 (n0 * n1) (smZ L1 l1) wx e w') := fun wx h => by have hh := unhide HN; have ii := unhide HI; exact lawSmall n0 n1 (by omega) (by omega) a1 l1 p1 L1 ii.1 wx h
      have SB : Hid (∀ wx, Row wx a2 l2 L2 → Calls Try.prog 38 #[.int .i64 n1, .int .i64 n2, .slice a2 l2 p2] wx fun e w' => CopyM n1 n2 (n1 * n2) (smZ L2 l2) wx e w') := fun wx h => by have hh := unhide HN; have ii := unhide HI; exact lawSmall n1 n2 (by omega) (by omega) a2 l2 p2 L2 ii.2.1 wx h
      have SC : Hid (∀ wx, Row wx a3 l3 L3 → Calls Try.prog 38 #[.int .i64 n2, .int .i64 n3, .slice a3 l3 p3] wx fun e w' => CopyM n2 n3 (n2 * n3) (smZ L3 l3) wx e w') := fun wx h => by have hh := unhide HN; have ii := unhide HI; exact lawSmall n2 n3 (by omega) (by omega) a3 l3 p3 L3 ii.2.2 wx h
      have SD : Hid (∀ wx, Row wx a3 l3 L3 → Calls Try.prog 38 #[.int .i64 n1, .int .i64 n2, .slice a3 l3 p3] wx fun e w' => CopyM n1 n2 (n1 * n2) (smZ L3 l3) wx e w') := fun wx h => by have hh := unhide HN; have ii := unhide HI; exact lawSmall n1 n2 (by omega) (by omega) a3 l3 p3 L3 ii.2.2 wx h
      have SX : Hid (∀ wx, Row wx a1 l1 L1 → Calls Try.prog 38 #[.int .i64 1, .int .i64 n2, .slice a1 l1 p1] wx fun e w' => CopyM 1 n2 n2 (smZ L1 l1) wx e w') := fun wx h => by have hh := unhide HN; have ii := unhide HI; have q := lawSmall 1 n2 (by omega) (by omega) a1 l1 p1 L1 ii.1 wx h; rw [Nat.one_mul] at q; exact q
      have WA : Hid (_ ∧ _) := wholeAll (smZ L1 l1) (smZ L2 l2) (smZ L3 l3) (smZ L3 l3) (rowZ (smZ L1 l1) n2 0) (smN L1 l1) (smN L2 l2) (smN L3 l3) (smN L3 l3) (rowZ (smN L1 l1) n2 0) n0 n1 n2 n3 (unhide HN).2.1 (unhide HN).2.2.1 (unhide HN).2.2.2 (smZ_wh _ _ _) (smZ_wh _ _ _) (smZ_wh _ _ _) (smZ_wh _ _ _) (fun i _ => smZ_wh L1 l1 (0 * n2 + i + 1) (0 * n2 + i) (Nat.lt_succ_self _))
      have I1 : Hid (∀ j, I64 (smZ L1 l1 j)) := fun j => smZ_I64 _ _ _
      have I2 : Hid (∀ j, I64 (smZ L2 l2 j)) := fun j => smZ_I64 _ _ _
      have I3 : Hid (∀ j, I64 (smZ L3 l3 j)) := fun j => smZ_I64 _ _ _
      have M5 : Hid (n0 * n1 ≤ 25 ∧ n1 * n2 ≤ 25 ∧ n2 * n3 ≤ 25 ∧ n0 * n2 ≤ 25 ∧ n0 * n3 ≤ 25 ∧ n1 * n3 ≤ 25) := by
        obtain ⟨h0, h1, h2, h3⟩ := unhide HN
        exact ⟨(mul5 _ _ h0 h1).2, (mul5 _ _ h1 h2).2, (mul5 _ _ h2 h3).2, (mul5 _ _ h0 h2).2, (mul5 _ _ h0 h3).2, (mul5 _ _ h1 h3).2⟩
      have R12 : Hid ((1 ≤ n0 ∧ n0 ≤ 12) ∧ (1 ≤ n1 ∧ n1 ≤ 12) ∧ (1 ≤ n2 ∧ n2 ≤ 12) ∧ (1 ≤ n3 ∧ n3 ≤ 12)) := by have := unhide HN; show _ ∧ _ ∧ _ ∧ _; omega
      have hU : Hid (U < w2.heap.size) := ((unhide K2).2.2.1 U (by simp)).2
      have XK : Hid (∀ a b, Kp a b → (fun wx => ∃ c n, c = false ∧ 0 ≤ n ∧ n ≤ (0 : Int) ∧ UC U c n wx) a → (fun wx => ∃ c n, c = false ∧ 0 ≤ n ∧ n ≤ (0 : Int) ∧ UC U c n wx) b) := fun a b k x => let ⟨c, n, h1, h2, h3, h4⟩ := x; ⟨c, n, h1, h2, h3, Blk.kp h4 k⟩
      have XM : Hid (∀ A a b, w2.heap.size ≤ A → Mk A a b → (fun wx => ∃ c n, c = false ∧ 0 ≤ n ∧ n ≤ (0 : Int) ∧ UC U c n wx) a → (fun wx => ∃ c n, c = false ∧ 0 ≤ n ∧ n ≤ (0 : Int) ∧ UC U c n wx) b) := fun A a b hA m x => let ⟨c, n, h1, h2, h3, h4⟩ := x; ⟨c, n, h1, h2, h3, Blk.mk h4 m (by have := unhide hU; omega)⟩
      go_wp2
      refine regN (w := w2) [.pure 45 (.pointer (some ⟨w.heap.size, 0, none⟩)), .pure 46 (.int .i64 n0), .pure 47 (.pointer (some ⟨w.heap.size, 1, none⟩)), .pure 48 (.int .i64 n1), .pure 49 (.slice a1 l1 p1), .call 50 (GM n0 n1 (n0 * n1) (smZ L1 l1) w2.heap.size), .pure 51 (.pointer (some ⟨w.heap.size, 1, none⟩)), .pure 52 (.int .i64 n1), .pure 53 (.pointer (some ⟨w.heap.size, 2, none⟩)), .pure 54 (.int .i64 n2), .pure 55 (.slice a2 l2 p2), .call 56 (GM n1 n2 (n1 * n2) (smZ L2 l2) w2.heap.size), .pure 57 (.pointer (some ⟨w.heap.size, 2, none⟩)), .pure 58 (.int .i64 n2), .pure 59 (.pointer (some ⟨w.heap.size, 3, none⟩)), .pure 60 (.int .i64 n3), .pure 61 (.slice a3 l3 p3), .call 62 (GM n2 n3 (n2 * n3) (smZ L3 l3) w2.heap.size), .alloc 12 #[.int .i64 0, .int .i64 0, .slice none 0 0] 24, .alloc 13 #[.int .i64 0, .int .i64 0, .slice none 0 0] 24, .alloc 14 #[.int .i64 0, .int .i64 0, .slice none 0 0] 24, .store 18 5 aggOf, .store 19 11 aggOf, .store 20 17 aggOf] (SL w2.heap.size w [U] [] [(some ⟨w.heap.size, 0, none⟩, 4, shZ S 4), (a3, l3, L3), (a2, l2, L2), (a1, l1, L1)] (fun wx => ∃ c n, c = false ∧ 0 ≤ n ∧ n ≤ (0 : Int) ∧ UC U c n wx)) (by kernel_rfl) rfl (by kernel_rfl) (by kernel_rfl) (by kernel_rfl) (by kernel_rfl) ?_ (SL.of (X := (fun wx => ∃ c n, c = false ∧ 0 ≤ n ∧ n ≤ (0 : Int) ∧ UC U c n wx)) (unhide K2).2 (unhide K2).1) (fun a b k h => SL.kp (unhide XK) k h) (fun A a b hA m h => SL.mk (unhide XM) hA m h) ?_
      · clear K2 XK XM
        refine And.intro (okY0 (k := 4) rfl rfl rfl (by kernel_rfl) rfl (fun a ev w' => by simp [go_sem, ev])) ?_
        refine And.intro (okYJ (j := 0) rfl rfl rfl rfl (by kernel_rfl) (fun a ev w' hs => by obtain ⟨c0, c1, c2, c3⟩ := unhide CS w' (hs.1.2.2.2 (some ⟨w.heap.size, 0, none⟩, 4, shZ S 4) (by simp)).1; simp [go_sem, ev, c0])) ?_
        refine And.intro (okY0 (k := 4) rfl rfl rfl (by kernel_rfl) rfl (fun a ev w' => by simp [go_sem, ev])) ?_
        refine And.intro (okYJ (j := 2) rfl rfl rfl rfl (by kernel_rfl) (fun a ev w' hs => by obtain ⟨c0, c1, c2, c3⟩ := unhide CS w' (hs.1.2.2.2 (some ⟨w.heap.size, 0, none⟩, 4, shZ S 4) (by simp)).1; simp [go_sem, ev, c1])) ?_
        refine And.intro (okMove (k := 1) rfl (by kernel_rfl) rfl) ?_
        refine And.intro (okCall3 (j1 := 1) (j2 := 3) (j3 := 4) rfl rfl rfl rfl (by kernel_rfl) (by kernel_rfl) (by kernel_rfl) (fun w => enters_of Try.func38 (by kernel_rfl) rfl _ w) (fun wx h hH => (unhide SA wx (h.1.2.2.2 (a1, l1, L1) (by simp)).1).mono (fun e w' hc => copyM_dep hc hH))) ?_
        refine And.intro (okY0 (k := 4) rfl rfl rfl (by kernel_rfl) rfl (fun a ev w' => by simp [go_sem, ev])) ?_
        refine And.intro (okYJ (j := 6) rfl rfl rfl rfl (by kernel_rfl) (fun a ev w' hs => by obtain ⟨c0, c1, c2, c3⟩ := unhide CS w' (hs.1.2.2.2 (some ⟨w.heap.size, 0, none⟩, 4, shZ S 4) (by simp)).1; simp [go_sem, ev, c1])) ?_
        refine And.intro (okY0 (k := 4) rfl rfl rfl (by kernel_rfl) rfl (fun a ev w' => by simp [go_sem, ev])) ?_
        refine And.intro (okYJ (j := 8) rfl rfl rfl rfl (by kernel_rfl) (fun a ev w' hs => by obtain ⟨c0, c1, c2, c3⟩ := unhide CS w' (hs.1.2.2.2 (some ⟨w.heap.size, 0, none⟩, 4, shZ S 4) (by simp)).1; simp [go_sem, ev, c2])) ?_
        refine And.intro (okMove (k := 2) rfl (by kernel_rfl) rfl) ?_
        refine And.intro (okCall3 (j1 := 7) (j2 := 9) (j3 := 10) rfl rfl rfl rfl (by kernel_rfl) (by kernel_rfl) (by kernel_rfl) (fun w => enters_of Try.func38 (by kernel_rfl) rfl _ w) (fun wx h hH => (unhide SB wx (h.1.2.2.2 (a2, l2, L2) (by simp)).1).mono (fun e w' hc => copyM_dep hc hH))) ?_
        refine And.intro (okY0 (k := 4) rfl rfl rfl (by kernel_rfl) rfl (fun a ev w' => by simp [go_sem, ev])) ?_
        refine And.intro (okYJ (j := 12) rfl rfl rfl rfl (by kernel_rfl) (fun a ev w' hs => by obtain ⟨c0, c1, c2, c3⟩ := unhide CS w' (hs.1.2.2.2 (some ⟨w.heap.size, 0, none⟩, 4, shZ S 4) (by simp)).1; simp [go_sem, ev, c2])) ?_
        refine And.intro (okY0 (k := 4) rfl rfl rfl (by kernel_rfl) rfl (fun a ev w' => by simp [go_sem, ev])) ?_
        refine And.intro (okYJ (j := 14) rfl rfl rfl rfl (by kernel_rfl) (fun a ev w' hs => by obtain ⟨c0, c1, c2, c3⟩ := unhide CS w' (hs.1.2.2.2 (some ⟨w.heap.size, 0, none⟩, 4, shZ S 4) (by simp)).1; simp [go_sem, ev, c3])) ?_
        refine And.intro (okMove (k := 3) rfl (by kernel_rfl) rfl) ?_
        refine And.intro (okCall3 (j1 := 13) (j2 := 15) (j3 := 16) rfl rfl rfl rfl (by kernel_rfl) (by kernel_rfl) (by kernel_rfl) (fun w => enters_of Try.func38 (by kernel_rfl) rfl _ w) (fun wx h hH => (unhide SC wx (h.1.2.2.2 (a3, l3, L3) (by simp)).1).mono (fun e w' hc => copyM_dep hc hH))) ?_
        refine And.intro (okAlloc rfl) ?_
        refine And.intro (okAlloc rfl) ?_
        refine And.intro (okAlloc rfl) ?_
        refine And.intro (okStore (ia := 18) (ic := 5) rfl rfl rfl (by kernel_rfl) (by kernel_rfl) (by kernel_rfl)) ?_
        refine And.intro (okStore (ia := 19) (ic := 11) rfl rfl rfl (by kernel_rfl) (by kernel_rfl) (by kernel_rfl)) ?_
        refine And.intro (okStore (ia := 20) (ic := 17) rfl rfl rfl (by kernel_rfl) (by kernel_rfl) (by kernel_rfl)) ?_
        exact trivial
      intro vals addr w5 hS hsz fin
      obtain ⟨aa, pa, ea, hpa, r5, o5⟩ : GM n0 n1 (n0 * n1) (smZ L1 l1) w2.heap.size (vals 5) w5 := fin 5 _ rfl
      obtain ⟨ab, pb, eb, hpb, r6, o6⟩ : GM n1 n2 (n1 * n2) (smZ L2 l2) w2.heap.size (vals 11) w5 := fin 11 _ rfl
      obtain ⟨ac, pc, ec, hpc, r7, o7⟩ : GM n2 n3 (n2 * n3) (smZ L3 l3) w2.heap.size (vals 17) w5 := fin 17 _ rfl
      have f1 : w2.heap.size ≤ addr 18 ∧ addr 18 < w5.heap.size := fin 18 _ rfl
      have f2 : w2.heap.size ≤ addr 19 ∧ addr 19 < w5.heap.size := fin 19 _ rfl
      have f3 : w2.heap.size ≤ addr 20 ∧ addr 20 < w5.heap.size := fin 20 _ rfl
      have g1 : Blk (addr 18) (aggOf (vals 5)) 24 w5 := fin 21 _ rfl _ _ _ rfl
      have g2 : Blk (addr 19) (aggOf (vals 11)) 24 w5 := fin 22 _ rfl _ _ _ rfl
      have g3 : Blk (addr 20) (aggOf (vals 17)) 24 w5 := fin 23 _ rfl _ _ _ rfl
      simp only [putsL, OpK.dst, OpK.val, List.foldl]
      rw [ea] at g1
      rw [eb] at g2
      rw [ec] at g3
      rw [ea, eb, ec]
      generalize addr 18 = A1 at *
      generalize addr 19 = A2 at *
      generalize addr 20 = A3 at *
      have K5 : Hid (KS w U (fun g => g = false) 0 [(A3, #[.int .i64 n2, .int .i64 n3, .slice ac (n2 * n3) pc]), (A2, #[.int .i64 n1, .int .i64 n2, .slice ab (n1 * n2) pb]), (A1, #[.int .i64 n0, .int .i64 n1, .slice aa (n0 * n1) pa])] [(ac, n2 * n3, (smZ L3 l3)), (ab, n1 * n2, (smZ L2 l2)), (aa, n0 * n1, (smZ L1 l1)), (some ⟨w.heap.size, 0, none⟩, 4, shZ S 4), (a3, l3, L3), (a2, l2, L2), (a1, l1, L1)] w5) := by
        have nU := unhide hU
        have oE : ∀ (n : Nat) (ao : Option Addr), (∀ U, U < w2.heap.size → Off U n ao) → ∀ e ∈ [U], Off e n ao := fun n ao h e he => by
          rcases List.mem_singleton.1 he with rfl
          exact h _ nU
        refine ⟨hS.2.1, (((((hS.1.boxA g1 ?_).boxA g2 ?_).boxA g3 ?_).row r5 (oE _ _ o5)).row r6 (oE _ _ o6)).row r7 (oE _ _ o7)⟩
        · simp; omega
        · simp; omega
        · simp; omega
      have HPA := hide (And.intro hpa (And.intro hpb hpc))
      clear hS hsz fin ea eb ec r5 r6 r7 o5 o6 o7 f1 f2 f3 g1 g2 g3 K2 XK XM SA SB SC hpa hpb hpc hU
      simp only [List.setIfInBounds_toArray, List.set_cons_zero, List.set_cons_succ]
      obtain ⟨c0, c1, c2, c3⟩ := unhide CS w5 ((unhide K5).row (ao := some ⟨w.heap.size, 0, none⟩) (len := 4) (Z := shZ S 4) (by simp)).1
      go_wp2_with fail
      refine (unhide SD _ ((unhide K5).row (ao := a3) (len := l3) (Z := L3) (by simp)).1).mono ?_
      intro e v0 hm
      obtain ⟨ad, pd, rfl, hpd, T0⟩ := (unhide K5).copy hm
      have K6 := hide (T0.box #[.int .i64 n1, .int .i64 n2, .slice ad (n1 * n2) pd])
      clear hm T0 K5 SD c0 c1 c2 c3
      obtain ⟨k00, k01, k02⟩ := (unhide K6).cells (b := A1) (x := .int .i64 n0) (y := .int .i64 n1) (z := .slice aa (n0 * n1) pa) (by simp)
      obtain ⟨k10, k11, k12⟩ := (unhide K6).cells (b := A2) (x := .int .i64 n1) (y := .int .i64 n2) (z := .slice ab (n1 * n2) pb) (by simp)
      go_wp2_with fail
      have BD1 := (bnd5 n1 (n0 * n2) (unhide HN).2.1.2 (unhide M5).2.2.2.1)
      refine (KS.toldU 1000 (unhide K6) (by decide) ⟨BD1.1, by have := BD1.2; omega⟩ (orF (unhide WA).1.1) (fun c0 nn hn hu => mulR U n0 n1 n2 (unhide R12).1 (unhide R12).2.1 (unhide R12).2.2.1 aa ab pa pb (smZ L1 l1) (smZ L2 l2) (unhide HPA).1 (fun j _ => unhide I1 j) (fun j _ => unhide I2 j) _ ((unhide K6).row (ao := aa) (len := (n0 * n1)) (Z := (smZ L1 l1)) (by simp)) ((unhide K6).row (ao := ab) (len := (n1 * n2)) (Z := (smZ L2 l2)) (by simp)) c0 nn hn hu)).mono ?_
      rintro e v1 ⟨s1, t1, rfl, hc1, T1⟩
      have N1 := hide (T1.box #[.int .i64 n0, .int .i64 n2, .slice s1 (n0 * n2) t1])
      clear T1 K6 k00 k01 k02 k10 k11 k12 BD1
      obtain ⟨k00, k01, k02⟩ := (unhide N1).cells (b := v1.heap.size) (x := .int .i64 n0) (y := .int .i64 n2) (z := .slice s1 (n0 * n2) t1) (by simp)
      obtain ⟨k10, k11, k12⟩ := (unhide N1).cells (b := A3) (x := .int .i64 n2) (y := .int .i64 n3) (z := .slice ac (n2 * n3) pc) (by simp)
      go_wp2_with fail
      have BD2 := (bnd5 n2 (n0 * n3) (unhide HN).2.2.1.2 (unhide M5).2.2.2.2.1)
      refine (KS.toldU 2000 (unhide N1) (by decide) ⟨BD2.1, by have := BD2.2; omega⟩ (orF (unhide WA).1.2.1) (fun c0 nn hn hu => mulR U n0 n2 n3 (unhide R12).1 (unhide R12).2.2.1 (unhide R12).2.2.2 s1 ac t1 pc (mulZ (smZ L1 l1) (smZ L2 l2) n1 n2) (smZ L3 l3) hc1 (fun j _ => mulZ_I64 _ _ _ _ _) (fun j _ => unhide I3 j) _ ((unhide N1).row (ao := s1) (len := (n0 * n2)) (Z := (mulZ (smZ L1 l1) (smZ L2 l2) n1 n2)) (by simp)) ((unhide N1).row (ao := ac) (len := (n2 * n3)) (Z := (smZ L3 l3)) (by simp)) c0 nn hn hu)).mono ?_
      rintro e v2 ⟨s2, t2, rfl, hc2, T2⟩
      have N2 := hide (T2.box #[.int .i64 n0, .int .i64 n3, .slice s2 (n0 * n3) t2])
      clear T2 N1 k00 k01 k02 k10 k11 k12 BD2
      obtain ⟨k00, k01, k02⟩ := (unhide N2).cells (b := A2) (x := .int .i64 n1) (y := .int .i64 n2) (z := .slice ab (n1 * n2) pb) (by simp)
      obtain ⟨k10, k11, k12⟩ := (unhide N2).cells (b := A3) (x := .int .i64 n2) (y := .int .i64 n3) (z := .slice ac (n2 * n3) pc) (by simp)
      go_wp2_with fail
      have BD3 := (bnd5 n2 (n1 * n3) (unhide HN).2.2.1.2 (unhide M5).2.2.2.2.2)
      refine (KS.toldU 3000 (unhide N2) (by decide) ⟨BD3.1, by have := BD3.2; omega⟩ (orF (unhide WA).1.2.2.1) (fun c0 nn hn hu => mulR U n1 n2 n3 (unhide R12).2.1 (unhide R12).2.2.1 (unhide R12).2.2.2 ab ac pb pc (smZ L2 l2) (smZ L3 l3) (unhide HPA).2.1 (fun j _ => unhide I2 j) (fun j _ => unhide I3 j) _ ((unhide N2).row (ao := ab) (len := (n1 * n2)) (Z := (smZ L2 l2)) (by simp)) ((unhide N2).row (ao := ac) (len := (n2 * n3)) (Z := (smZ L3 l3)) (by simp)) c0 nn hn hu)).mono ?_
      rintro e v3 ⟨s3, t3, rfl, hc3, T3⟩
      have N3 := hide (T3.box #[.int .i64 n1, .int .i64 n3, .slice s3 (n1 * n3) t3])
      clear T3 N2 k00 k01 k02 k10 k11 k12 BD3
      obtain ⟨k00, k01, k02⟩ := (unhide N3).cells (b := A1) (x := .int .i64 n0) (y := .int .i64 n1) (z := .slice aa (n0 * n1) pa) (by simp)
      obtain ⟨k10, k11, k12⟩ := (unhide N3).cells (b := v3.heap.size) (x := .int .i64 n1) (y := .int .i64 n3) (z := .slice s3 (n1 * n3) t3) (by simp)
      go_wp2_with fail
      have BD4 := (bnd5 n1 (n0 * n3) (unhide HN).2.1.2 (unhide M5).2.2.2.2.1)
      refine (KS.toldU 4000 (unhide N3) (by decide) ⟨BD4.1, by have := BD4.2; omega⟩ (orF (unhide WA).1.2.2.2.1) (fun c0 nn hn hu => mulR U n0 n1 n3 (unhide R12).1 (unhide R12).2.1 (unhide R12).2.2.2 aa s3 pa t3 (smZ L1 l1) (mulZ (smZ L2 l2) (smZ L3 l3) n2 n3) (unhide HPA).1 (fun j _ => unhide I1 j) (fun j _ => mulZ_I64 _ _ _ _ _) _ ((unhide N3).row (ao := aa) (len := (n0 * n1)) (Z := (smZ L1 l1)) (by simp)) ((unhide N3).row (ao := s3) (len := (n1 * n3)) (Z := (mulZ (smZ L2 l2) (smZ L3 l3) n2 n3)) (by simp)) c0 nn hn hu)).mono ?_
      rintro e v4 ⟨s4, t4, rfl, hc4, T4⟩
      have N4 := hide (T4.box #[.int .i64 n0, .int .i64 n3, .slice s4 (n0 * n3) t4])
      clear T4 N3 k00 k01 k02 k10 k11 k12 BD4
      obtain ⟨k00, k01, k02⟩ := (unhide N4).cells (b := v2.heap.size) (x := .int .i64 n0) (y := .int .i64 n3) (z := .slice s2 (n0 * n3) t2) (by simp)
      obtain ⟨k10, k11, k12⟩ := (unhide N4).cells (b := v4.heap.size) (x := .int .i64 n0) (y := .int .i64 n3) (z := .slice s4 (n0 * n3) t4) (by simp)
      go_wp2_with fail
      refine (kitSameM n0 n3 s2 s4 (n0 * n3) t2 t4 (mulZ (smZ L1 l1) (mulZ (smZ L2 l2) (smZ L3 l3) n2 n3) n1 n3) (by have := (unhide M5).2.2.2.2.1; omega) _ (rowEq ((unhide N4).row (ao := s2) (len := (n0 * n3)) (Z := (mulZ (mulZ (smZ L1 l1) (smZ L2 l2) n1 n2) (smZ L3 l3) n2 n3)) (by simp)).1 (unhide WA).2.1) ((unhide N4).row (ao := s4) (len := (n0 * n3)) (Z := (mulZ (smZ L1 l1) (mulZ (smZ L2 l2) (smZ L3 l3) n2 n3) n1 n3)) (by simp)).1).mono ?_
      rintro e y1 ⟨rfl, kk⟩
      have O1 := hide ((unhide N4).kp kk)
      clear kk N4 k00 k01 k02 k10 k11 k12
      obtain ⟨k00, k01, k02⟩ := (unhide O1).cells (b := A2) (x := .int .i64 n1) (y := .int .i64 n2) (z := .slice ab (n1 * n2) pb) (by simp)
      obtain ⟨k10, k11, k12⟩ := (unhide O1).cells (b := v0.heap.size) (x := .int .i64 n1) (y := .int .i64 n2) (z := .slice ad (n1 * n2) pd) (by simp)
      go_wp2_with fail
      have BD5 := (by have := (unhide M5).2.1; exact ⟨by omega, by omega⟩ : 0 ≤ 2 * ((n1 * n2 : Nat) : Int) ∧ 2 * ((n1 * n2 : Nat) : Int) ≤ 1000)
      refine (KS.toldU 5000 (unhide O1) (by decide) ⟨BD5.1, by have := BD5.2; omega⟩ (orF (unhide WA).1.2.2.2.2.1) (fun c0 nn hn hu => sumR U n1 n2 (unhide R12).2.1 (unhide R12).2.2.1 ab ad pb pd (smZ L2 l2) (smZ L3 l3) (fun j _ => unhide I2 j) (fun j _ => unhide I3 j) _ ((unhide O1).row (ao := ab) (len := (n1 * n2)) (Z := (smZ L2 l2)) (by simp)) ((unhide O1).row (ao := ad) (len := (n1 * n2)) (Z := (smZ L3 l3)) (by simp)) c0 nn hn hu)).mono ?_
      rintro e v5 ⟨s5, t5, rfl, hc5, T5⟩
      have N5 := hide (T5.box #[.int .i64 n1, .int .i64 n2, .slice s5 (n1 * n2) t5])
      clear T5 O1 k00 k01 k02 k10 k11 k12 BD5
      obtain ⟨k00, k01, k02⟩ := (unhide N5).cells (b := A1) (x := .int .i64 n0) (y := .int .i64 n1) (z := .slice aa (n0 * n1) pa) (by simp)
      obtain ⟨k10, k11, k12⟩ := (unhide N5).cells (b := v5.heap.size) (x := .int .i64 n1) (y := .int .i64 n2) (z := .slice s5 (n1 * n2) t5) (by simp)
      go_wp2_with fail
      have BD6 := (bnd5 n1 (n0 * n2) (unhide HN).2.1.2 (unhide M5).2.2.2.1)
      refine (KS.toldU 6000 (unhide N5) (by decide) ⟨BD6.1, by have := BD6.2; omega⟩ (orF (unhide WA).1.2.2.2.2.2.1) (fun c0 nn hn hu => mulR U n0 n1 n2 (unhide R12).1 (unhide R12).2.1 (unhide R12).2.2.1 aa s5 pa t5 (smZ L1 l1) (fun p => s2N ((smZ L2 l2) p) ((smZ L3 l3) p)) (unhide HPA).1 (fun j _ => unhide I1 j) (fun j _ => s2N_I64 _ _) _ ((unhide N5).row (ao := aa) (len := (n0 * n1)) (Z := (smZ L1 l1)) (by simp)) ((unhide N5).row (ao := s5) (len := (n1 * n2)) (Z := (fun p => s2N ((smZ L2 l2) p) ((smZ L3 l3) p))) (by simp)) c0 nn hn hu)).mono ?_
      rintro e v6 ⟨s6, t6, rfl, hc6, T6⟩
      have N6 := hide (T6.box #[.int .i64 n0, .int .i64 n2, .slice s6 (n0 * n2) t6])
      clear T6 N5 k00 k01 k02 k10 k11 k12 BD6
      obtain ⟨k00, k01, k02⟩ := (unhide N6).cells (b := A1) (x := .int .i64 n0) (y := .int .i64 n1) (z := .slice aa (n0 * n1) pa) (by simp)
      obtain ⟨k10, k11, k12⟩ := (unhide N6).cells (b := v0.heap.size) (x := .int .i64 n1) (y := .int .i64 n2) (z := .slice ad (n1 * n2) pd) (by simp)
      go_wp2_with fail
      have BD7 := (bnd5 n1 (n0 * n2) (unhide HN).2.1.2 (unhide M5).2.2.2.1)
      refine (KS.toldU 7000 (unhide N6) (by decide) ⟨BD7.1, by have := BD7.2; omega⟩ (orF (unhide WA).1.2.2.2.2.2.2.1) (fun c0 nn hn hu => mulR U n0 n1 n2 (unhide R12).1 (unhide R12).2.1 (unhide R12).2.2.1 aa ad pa pd (smZ L1 l1) (smZ L3 l3) (unhide HPA).1 (fun j _ => unhide I1 j) (fun j _ => unhide I3 j) _ ((unhide N6).row (ao := aa) (len := (n0 * n1)) (Z := (smZ L1 l1)) (by simp)) ((unhide N6).row (ao := ad) (len := (n1 * n2)) (Z := (smZ L3 l3)) (by simp)) c0 nn hn hu)).mono ?_
      rintro e v7 ⟨s7, t7, rfl, hc7, T7⟩
      have N7 := hide (T7.box #[.int .i64 n0, .int .i64 n2, .slice s7 (n0 * n2) t7])
      clear T7 N6 k00 k01 k02 k10 k11 k12 BD7
      obtain ⟨k00, k01, k02⟩ := (unhide N7).cells (b := v1.heap.size) (x := .int .i64 n0) (y := .int .i64 n2) (z := .slice s1 (n0 * n2) t1) (by simp)
      obtain ⟨k10, k11, k12⟩ := (unhide N7).cells (b := v7.heap.size) (x := .int .i64 n0) (y := .int .i64 n2) (z := .slice s7 (n0 * n2) t7) (by simp)
      go_wp2_with fail
      have BD8 := (by have := (unhide M5).2.2.2.1; exact ⟨by omega, by omega⟩ : 0 ≤ 2 * ((n0 * n2 : Nat) : Int) ∧ 2 * ((n0 * n2 : Nat) : Int) ≤ 1000)
      refine (KS.toldU 8000 (unhide N7) (by decide) ⟨BD8.1, by have := BD8.2; omega⟩ (orF (unhide WA).1.2.2.2.2.2.2.2.1) (fun c0 nn hn hu => sumR U n0 n2 (unhide R12).1 (unhide R12).2.2.1 s1 s7 t1 t7 (mulZ (smZ L1 l1) (smZ L2 l2) n1 n2) (mulZ (smZ L1 l1) (smZ L3 l3) n1 n2) (fun j _ => mulZ_I64 _ _ _ _ _) (fun j _ => mulZ_I64 _ _ _ _ _) _ ((unhide N7).row (ao := s1) (len := (n0 * n2)) (Z := (mulZ (smZ L1 l1) (smZ L2 l2) n1 n2)) (by simp)) ((unhide N7).row (ao := s7) (len := (n0 * n2)) (Z := (mulZ (smZ L1 l1) (smZ L3 l3) n1 n2)) (by simp)) c0 nn hn hu)).mono ?_
      rintro e v8 ⟨s8, t8, rfl, hc8, T8⟩
      have N8 := hide (T8.box #[.int .i64 n0, .int .i64 n2, .slice s8 (n0 * n2) t8])
      clear T8 N7 k00 k01 k02 k10 k11 k12 BD8
      obtain ⟨k00, k01, k02⟩ := (unhide N8).cells (b := v6.heap.size) (x := .int .i64 n0) (y := .int .i64 n2) (z := .slice s6 (n0 * n2) t6) (by simp)
      obtain ⟨k10, k11, k12⟩ := (unhide N8).cells (b := v8.heap.size) (x := .int .i64 n0) (y := .int .i64 n2) (z := .slice s8 (n0 * n2) t8) (by simp)
      go_wp2_with fail
      refine (kitSameM n0 n2 s6 s8 (n0 * n2) t6 t8 (fun p => s2N ((mulZ (smZ L1 l1) (smZ L2 l2) n1 n2) p) ((mulZ (smZ L1 l1) (smZ L3 l3) n1 n2) p)) (by have := (unhide M5).2.2.2.1; omega) _ (rowEq ((unhide N8).row (ao := s6) (len := (n0 * n2)) (Z := (mulZ (smZ L1 l1) (fun p => s2N ((smZ L2 l2) p) ((smZ L3 l3) p)) n1 n2)) (by simp)).1 (unhide WA).2.2.1) ((unhide N8).row (ao := s8) (len := (n0 * n2)) (Z := (fun p => s2N ((mulZ (smZ L1 l1) (smZ L2 l2) n1 n2) p) ((mulZ (smZ L1 l1) (smZ L3 l3) n1 n2) p))) (by simp)).1).mono ?_
      rintro e y2 ⟨rfl, kk⟩
      have O2 := hide ((unhide N8).kp kk)
      clear kk N8 k00 k01 k02 k10 k11 k12
      obtain ⟨c0, c1, c2, c3⟩ := unhide CS _ ((unhide O2).row (ao := some ⟨w.heap.size, 0, none⟩) (len := 4) (Z := shZ S 4) (by simp)).1
      go_wp2_with fail
      refine (unhide SX _ ((unhide O2).row (ao := a1) (len := l1) (Z := L1) (by simp)).1).mono ?_
      intro e v9 hm
      obtain ⟨s9, t9, rfl, hc9, T9⟩ := (unhide O2).copy hm
      have N9 := hide T9
      have RO : Hid (rowO 1 n2 n2 (smZ L1 l1) 0 = ⟨0, 0, n2, rowZ (smZ L1 l1) n2 0, 0, false, 0⟩) := by
        have hh := (unhide R12).2.2.1
        exact if_pos ⟨⟨by omega, by omega, by rw [Int.one_mul]⟩, by omega, by omega⟩
      clear hm T9 O2 SX c0 c1 c2 c3
      go_wp2_with fail
      refine (rowAny 1 n2 s9 n2 t9 (smZ L1 l1) 0 hc9 _ ((unhide N9).row (ao := s9) (len := n2) (Z := (smZ L1 l1)) (by simp)).1 _ (unhide RO)).mono ?_
      intro e v10 hm
      obtain ⟨s10, t10, rfl, T10⟩ := (unhide N9).rowK hm
      have N10 : Hid (KS _ _ _ _ _ ((s10, n2, rowZ (smZ L1 l1) n2 0) :: _) _) := T10
      clear hm T10 N9 RO
      obtain ⟨k00, k01, k02⟩ := (unhide N10).cells (b := A2) (x := .int .i64 n1) (y := .int .i64 n2) (z := .slice ab (n1 * n2) pb) (by simp)
      go_wp2_with fail
      have BD11 := bnd5 n2 n1 (unhide HN).2.2.1.2 (Nat.le_trans (unhide HN).2.1.2 (by omega))
      refine (KS.listU 9000 (unhide N10) (by decide) ⟨BD11.1, by have := BD11.2; omega⟩ (orF (unhide WA).1.2.2.2.2.2.2.2.2.1) (fun c0 nn hn hu => appR U n1 n2 (unhide R12).2.1 (unhide R12).2.2.1 ab s10 pb t10 (smZ L2 l2) (rowZ (smZ L1 l1) n2 0) (unhide HPA).2.1 (fun j _ => unhide I2 j) (fun j _ => unhide I1 _) _ ((unhide N10).row (ao := ab) (len := (n1 * n2)) (Z := (smZ L2 l2)) (by simp)) ((unhide N10).row (ao := s10) (len := n2) (Z := (rowZ (smZ L1 l1) n2 0)) (by simp)) c0 nn hn hu)).mono ?_
      rintro e v11 ⟨s11, t11, rfl, hc11, T11⟩
      have N11 := hide T11
      clear T11 N10 k00 k01 k02 BD11
      obtain ⟨k00, k01, k02⟩ := (unhide N11).cells (b := A1) (x := .int .i64 n0) (y := .int .i64 n1) (z := .slice aa (n0 * n1) pa) (by simp)
      go_wp2_with fail
      have BD12 := bnd5 n1 n0 (unhide HN).2.1.2 (Nat.le_trans (unhide HN).1.2 (by omega))
      refine (KS.listU 10000 (unhide N11) (by decide) ⟨BD12.1, by have := BD12.2; omega⟩ (orF (unhide WA).1.2.2.2.2.2.2.2.2.2.1) (fun c0 nn hn hu => appR U n0 n1 (unhide R12).1 (unhide R12).2.1 aa s11 pa t11 (smZ L1 l1) (appZ (smZ L2 l2) (rowZ (smZ L1 l1) n2 0) n2) (unhide HPA).1 (fun j _ => unhide I1 j) (fun j _ => appZ_I64 _ _ _ _) _ ((unhide N11).row (ao := aa) (len := (n0 * n1)) (Z := (smZ L1 l1)) (by simp)) ((unhide N11).row (ao := s11) (len := n1) (Z := (appZ (smZ L2 l2) (rowZ (smZ L1 l1) n2 0) n2)) (by simp)) c0 nn hn hu)).mono ?_
      rintro e v12 ⟨s12, t12, rfl, hc12, T12⟩
      have N12 := hide T12
      clear T12 N11 k00 k01 k02 BD12
      obtain ⟨k00, k01, k02⟩ := (unhide N12).cells (b := v1.heap.size) (x := .int .i64 n0) (y := .int .i64 n2) (z := .slice s1 (n0 * n2) t1) (by simp)
      go_wp2_with fail
      have BD13 := bnd5 n2 n0 (unhide HN).2.2.1.2 (Nat.le_trans (unhide HN).1.2 (by omega))
      refine (KS.listU 11000 (unhide N12) (by decide) ⟨BD13.1, by have := BD13.2; omega⟩ (orF (unhide WA).1.2.2.2.2.2.2.2.2.2.2) (fun c0 nn hn hu => appR U n0 n2 (unhide R12).1 (unhide R12).2.2.1 s1 s10 t1 t10 (mulZ (smZ L1 l1) (smZ L2 l2) n1 n2) (rowZ (smZ L1 l1) n2 0) hc1 (fun j _ => mulZ_I64 _ _ _ _ _) (fun j _ => unhide I1 _) _ ((unhide N12).row (ao := s1) (len := (n0 * n2)) (Z := (mulZ (smZ L1 l1) (smZ L2 l2) n1 n2)) (by simp)) ((unhide N12).row (ao := s10) (len := n2) (Z := (rowZ (smZ L1 l1) n2 0)) (by simp)) c0 nn hn hu)).mono ?_
      rintro e v13 ⟨s13, t13, rfl, hc13, T13⟩
      have N13 := hide T13
      clear T13 N12 k00 k01 k02 BD13
      go_wp2_with fail
      refine (kitSameK s12 s13 n0 t12 t13 (appZ (mulZ (smZ L1 l1) (smZ L2 l2) n1 n2) (rowZ (smZ L1 l1) n2 0) n2) (by have := unhide HN; omega) _ (rowEq ((unhide N13).row (ao := s12) (len := n0) (Z := (appZ (smZ L1 l1) (appZ (smZ L2 l2) (rowZ (smZ L1 l1) n2 0) n2) n1)) (by simp)).1 (unhide WA).2.2.2) ((unhide N13).row (ao := s13) (len := n0) (Z := (appZ (mulZ (smZ L1 l1) (smZ L2 l2) n1 n2) (rowZ (smZ L1 l1) n2 0) n2)) (by simp)).1).mono ?_
      rintro e y3 ⟨rfl, kk⟩
      have O3 := hide ((unhide N13).kp kk)
      clear kk N13
      obtain ⟨⟨cf, nf, hcf, _, _, hu⟩, hls⟩ := unhide O3
      subst hcf
      have HU := hide hu
      have HLs := hide hls.1
      clear hu hls O3
      go_wp2_with fail
      refine (unitCut U _ _ _ (unhide HU)).mono ?_
      rintro e y4 ⟨rfl, rfl⟩
      go_wp2
      go_ret
      exact ⟨rfl, unhide HLs⟩


end Go.Proofs.Ytcobicnpdmgnjaa

/- How four ints that are handed in lie in memory. -/
namespace Go.Proofs.Ytcobicnpdmgnjaa
open Go.ChangeShapes Go.WideShapes Go.ChangeAt Go.RowKit Go.Joins Go.Proofs.Wd Go.Deep
set_option linter.unusedVariables false
set_option linter.unusedSimpArgs false

theorem okWide_arr {P : Program} {w : World} {r : Reach} {base : Nat} {t e : TypeId} {v : Value} {n : Nat} (ht : P.underlying t = some (.array n e)) (h : Value.okWide P w r base t v) : ∃ cs, v = .agg cs := by
  simp only [Value.okWide, ht] at h
  obtain ⟨cs, h1, _⟩ := h
  exact ⟨cs, h1⟩
/-- Four numbers, by their place. -/
def fourZ (a b c d : Int) : Nat → Int
  | 0 => a
  | 1 => b
  | 2 => c
  | _ => d
set_option maxRecDepth 20000 in
theorem open_four {H : Type} {enc : TypeId × Value → H} {W : World} {n : Nat} {cs : List Value} {y : DataW H × List MemPlace} (h : DataW.trod enc Try.prog W 0 (fun _ => true) true n 57 cs = some y) :
    ∃ S : Nat → Int, cs = [.int .i64 (S 0), .int .i64 (S 1), .int .i64 (S 2), .int .i64 (S 3)] ∧ ∀ i, i < 4 → I64 (S i) := by
  obtain ⟨xs, m, _, _, hlen, hxl, hf⟩ := DataW.trod_array Try.underlying57 h
  rw [show Try.prog.cellsOf 57 = 4 by kernel_rfl] at hlen
  rw [cellsInt] at hf
  match cs, hlen with
  | [v0, v1, v2, v3], _ =>
  match xs, hxl with
  | [x0, x1, x2, x3], _ =>
  obtain ⟨a, e0, _, w0⟩ := DataW.trod_int Try.underlying3 (show DataW.trod enc Try.prog W 0 (fun _ => true) true m 3 [v0] = some x0 from hf 0 (by omega))
  obtain ⟨b, e1, _, w1⟩ := DataW.trod_int Try.underlying3 (show DataW.trod enc Try.prog W 0 (fun _ => true) true m 3 [v1] = some x1 from hf 1 (by omega))
  obtain ⟨c, e2, _, w2⟩ := DataW.trod_int Try.underlying3 (show DataW.trod enc Try.prog W 0 (fun _ => true) true m 3 [v2] = some x2 from hf 2 (by omega))
  obtain ⟨d, e3, _, w3⟩ := DataW.trod_int Try.underlying3 (show DataW.trod enc Try.prog W 0 (fun _ => true) true m 3 [v3] = some x3 from hf 3 (by omega))
  simp at e0 e1 e2 e3
  subst e0 e1 e2 e3
  refine ⟨fourZ a b c d, rfl, fun i hi => ?_⟩
  match i, hi with
  | 0, _ => exact i64_wf w0
  | 1, _ => exact i64_wf w1
  | 2, _ => exact i64_wf w2
  | 3, _ => exact i64_wf w3

end Go.Proofs.Ytcobicnpdmgnjaa

/- The statement MatWhole holds for every input: the law returns true, and its arguments read afterwards as before. No condition. -/
namespace Go.Proofs.Ytcobicnpdmgnjaa.matWhole
open Go.ChangeShapes Go.WideShapes Go.ChangeAt Go.RowKit Go.Joins Go.Proofs.Wd
set_option linter.unusedVariables false
set_option linter.unusedSimpArgs false

theorem own : ownKnob Try.prog.godebug = none := by kernel_rfl

set_option maxRecDepth 100000 in
theorem lifted (os : Os) (started : os.Started) (H : Type) (enc : TypeId × Value → H) :
    ReturnsInHanded {} Try.checked os 7 .any (Rows.matWholeSpec.pre6 enc Try.prog Try.f7 Rows.matWholeRow.domain false) (Rows.matWholeSpec.post enc Try.prog Try.f7 false true false false) := by
  refine returnsInHanded_of_change (C := Try.checked) own started (by kernel_rfl) Try.func7
    (ChangeSpec.witness6 (enc := enc) (C := Try.checked) false ⟨#[], #[.agg #[.int .i64 0, .int .i64 0, .int .i64 0, .int .i64 0], .slice none 0 0, .slice none 0 0, .slice none 0 0], []⟩ 8 (by kernel_rfl) (by kernel_rfl) (by kernel_rfl) (by kernel_rfl)) ?_
  intro W base args ds gs before hval0 hW hcnd _
  have hval : ∀ (j : Nat) t v, Try.f7.params[j]? = some t → args[j]? = some v → Value.okWide Try.prog W .any base t v := hval0
  have hW' := hW
  obtain ⟨p, q, hA0, hV, rfl, hfz, hnd⟩ := hW
  have hA : DataW.TrodAll enc Try.prog W 0 (fun _ => true) true Try.f7.params.toList args.toList ds p := hA0
  rw [Try.params7] at hA hval
  obtain ⟨v0, vs0, d0, ds0, p0, q0, hargs, rfl, rfl, h0, r0⟩ := trodAll_cons hA
  obtain ⟨v1, vs1, d1, ds1, p1, q1, rfl, rfl, rfl, h1, r1⟩ := trodAll_cons r0
  obtain ⟨v2, vs2, d2, ds2, p2, q2, rfl, rfl, rfl, h2, r2⟩ := trodAll_cons r1
  obtain ⟨v3, vs3, d3, ds3, p3, q3, rfl, rfl, rfl, h3, r3⟩ := trodAll_cons r2
  obtain ⟨rfl, rfl, rfl⟩ := trodAll_nil r3
  obtain rfl : args = #[v0, v1, v2, v3] := by cases args; simp_all
  obtain ⟨rfl, rfl⟩ := trodVars_none hV
  have hlt := hW'.lt
  have k0 := h0
  obtain ⟨fuel0, t0⟩ := h0
  obtain ⟨cs0, rfl⟩ := okWide_arr Try.underlying57 (hval 0 57 v0 rfl rfl)
  obtain ⟨S0, e0, iS0⟩ := open_four t0
  obtain rfl : cs0 = #[.int .i64 (S0 0), .int .i64 (S0 1), .int .i64 (S0 2), .int .i64 (S0 3)] := Array.ext' (by simpa [Value.cells] using e0)
  have k1 := h1
  obtain ⟨fuel1, t1⟩ := h1
  obtain ⟨ao1, ln1, lc1, rfl⟩ := okWide_slice Try.underlying22 (hval 1 22 v1 rfl rfl)
  obtain ⟨ya1, yl1, yc1, Z1, e1, le1, lm1, row1, num1, nil1⟩ := open_row0 t1
  cases e1
  have k2 := h2
  obtain ⟨fuel2, t2⟩ := h2
  obtain ⟨ao2, ln2, lc2, rfl⟩ := okWide_slice Try.underlying22 (hval 2 22 v2 rfl rfl)
  obtain ⟨ya2, yl2, yc2, Z2, e2, le2, lm2, row2, num2, nil2⟩ := open_row0 t2
  cases e2
  have k3 := h3
  obtain ⟨fuel3, t3⟩ := h3
  obtain ⟨ao3, ln3, lc3, rfl⟩ := okWide_slice Try.underlying22 (hval 3 22 v3 rfl rfl)
  obtain ⟨ya3, yl3, yc3, Z3, e3, le3, lm3, row3, num3, nil3⟩ := open_row0 t3
  cases e3
  clear hA0 hval0
  refine (lawMatWhole S0 iS0 ao1 ao2 ao3 ln1 lc1 ln2 lc2 ln3 lc3 Z1 Z2 Z3 num1 num2 num3 W row1 row2 row3).mono fun e W' ⟨he, hg⟩ => ?_
  subst he
  exact ⟨_, rfl, post_of_kp (pa := p0 ++ (p1 ++ (p2 ++ (p3 ++ ([]))))) (pv := []) hW' (fun _ => (trodAll_cons_mk (shut_bool Try.underlying4 _) trodAll_mk0)) (trodAll_cons_mk (WideElems.Trod_stays laid (by kernel_rfl) (of_decide_eq_true (by kernel_rfl)) k0 (fun x hx => hg.same (hlt x (by simp [hx]))) (fun x hx => by simpa using hlt x (by simp [hx]))) (trodAll_cons_mk (WideElems.Trod_stays laid (by kernel_rfl) (of_decide_eq_true (by kernel_rfl)) k1 (fun x hx => hg.same (hlt x (by simp [hx]))) (fun x hx => by simpa using hlt x (by simp [hx]))) (trodAll_cons_mk (WideElems.Trod_stays laid (by kernel_rfl) (of_decide_eq_true (by kernel_rfl)) k2 (fun x hx => hg.same (hlt x (by simp [hx]))) (fun x hx => by simpa using hlt x (by simp [hx]))) (trodAll_cons_mk (WideElems.Trod_stays laid (by kernel_rfl) (of_decide_eq_true (by kernel_rfl)) k3 (fun x hx => hg.same (hlt x (by simp [hx]))) (fun x hx => by simpa using hlt x (by simp [hx]))) trodAll_mk0)))) rfl hg⟩

end Go.Proofs.Ytcobicnpdmgnjaa.matWhole
namespace Go.Proofs.Ytcobicnpdmgnjaa
theorem matWhole_holds : Rows.MatWholeSaid :=
  OpenClaim.holds_of_wide 7 Try.f7 rfl rfl rfl rfl rfl rfl rfl ⟨rfl, rfl, rfl, rfl, rfl⟩ rfl rfl rfl rfl rfl (by kernel_rfl) Try.func7 (by kernel_rfl)
    (of_decide_eq_true (by kernel_rfl)) (by unfold Func.isWrapper; first | (rw [if_pos (by decide +kernel)]; kernel_rfl) | (rw [if_neg (by decide +kernel)]; exact ⟨rfl, rfl⟩))
    (fun os started H enc _ => matWhole.lifted os started H enc)
#print axioms matWhole_holds
end Go.Proofs.Ytcobicnpdmgnjaa
