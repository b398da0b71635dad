/- MatAw MatRL MatTS RegJ RegG RegM MatOv RegN MatRa MatRc AppB MatRd MatRe MatTD MatSh MatShapesLaw, one after another. -/
import Derived.Test.YtcobicnpdmgnjaaMatO
import Derived.Test.YtcobicnpdmgnjaaMatN
import Derived.Test.YtcobicnpdmgnjaaRowL
import Derived.Orders
import Derived.OrdersHeld
import Derived.Deep.RegionHeld3
import Derived.Test.YtcobicnpdmgnjaaMatShapesDoc
import Derived.Test.YtcobicnpdmgnjaaAppA
import Derived.Test.YtcobicnpdmgnjaaMatF
import Derived.Deep.RegionLaw
import Derived.Test.YtcobicnpdmgnjaaRows
import Derived.ProofKit
import Derived.OpenShut
import Derived.Lib.SmallJoins
/- The laws' helper awake: some of the chapter's examples. -/
namespace Go.Proofs.Ytcobicnpdmgnjaa
open Go.RowKit Go.Shelf Go.Proofs.Wd
set_option linter.unusedVariables false
set_option linter.unusedSimpArgs false

/-- A list of whole numbers, as it is written, times One. -/
def oneL (l : List Int) : Nat → Int := fun i => ix l i * 4294967296
theorem lits_small {l : List Int} (h : ∀ x ∈ l, -1000000 ≤ x ∧ x ≤ 1000000) : ∀ i, i < l.length → -1000000 ≤ ix l i ∧ ix l i ≤ 1000000 := by
  intro i hi
  have : ix l i = l[i] := by simp [ix, hi]
  rw [this]
  exact h _ (List.getElem_mem _)
theorem oneL_I64 {l : List Int} (h : ∀ x ∈ l, -1000000 ≤ x ∧ x ≤ 1000000) : ∀ i, i < l.length → I64 (oneL l i) := by
  intro i hi
  have := lits_small h i hi
  unfold oneL I64
  omega
/-- A list that is written out, and the matrix of it. -/
theorem lawOfL (l : List Int) (n : Nat) (hl : l.length = n) (hn : n ≤ 1000000) (h : ∀ x ∈ l, -1000000 ≤ x ∧ x ≤ 1000000) (r c : Int) (b cap : Nat) (w : World) (hb : Blk b (l.map (Value.int .i64)).toArray 3 w) :
    Calls Try.prog 33 #[.int .i64 r, .int .i64 c, .slice (some ⟨b, 0, none⟩) n cap] w fun e w' => CopyM r c n (oneL l) w e w' := by
  subst hl
  exact lawOf r c _ _ cap (ix l) hn (lits_small h) w (row_lit hb)

theorem ok22 : okM 2 2 4 := ⟨⟨by omega, by omega⟩, ⟨by omega, by omega⟩, by decide⟩
theorem mul22 : ∀ i, i < 4 → mulZ (oneL [1, 2, 3, 4]) (oneL [0, 1, 1, 0]) 2 2 i = oneL [2, 1, 4, 3] i := by decide +kernel
theorem mul22c : (false || orC (mulG (oneL [1, 2, 3, 4]) (oneL [0, 1, 1, 0]) 2 2) 4) = false := by decide +kernel
theorem turn22 : ∀ i, i < 4 → turnZ (oneL [1, 2, 3, 4]) 2 2 i = oneL [1, 3, 2, 4] i := by decide +kernel

set_option maxRecDepth 20000 in
set_option maxHeartbeats 4000000 in
theorem lawMatAwake (w : World) : Calls Try.prog 9 #[] w fun e w' => e = .returned (.bool true) ∧ Kp w w' := by
  have N1 := hide (unitNew w)
  have hU := Nat.le_refl w.heap.size
  generalize e : w.heap.size = U at N1 hU
  replace hU : w.heap.size ≤ U := by omega
  have HE := hide hU
  clear e hU
  go_enter Try.func9, Try.ntmps9
  go_wp2_with fail
  refine (unhide N1).mono ?_
  rintro e w1 ⟨rfl, h1, g1⟩
  have S1 : Hid (UC U false 0 w1 ∧ LS w [U] [] [] w1) := ⟨h1, Kp.of g1, fun e he => (by simp at he; subst he; exact ⟨unhide HE, Blk.lt h1⟩), fun _ h => absurd h List.not_mem_nil, fun _ h => absurd h List.not_mem_nil⟩
  clear h1 g1 N1
  have b1 := Blk.new w1 #[.int .i64 1, .int .i64 2, .int .i64 3, .int .i64 4] 3
  have O1 := hide (lawOfL [1, 2, 3, 4] 4 rfl (by omega) (by simp) 2 2 w1.heap.size 4 _ b1)
  have K1 : Hid (Kp w1 (w1.alloc (.cells #[.int .i64 1, .int .i64 2, .int .i64 3, .int .i64 4] 3))) := (Kp.refl _).alloc _ _
  clear b1
  go_wp2_with fail
  generalize w1.alloc (.cells #[.int .i64 1, .int .i64 2, .int .i64 3, .int .i64 4] 3) = w2 at *
  refine (unhide O1).mono ?_
  intro e w3 hv
  have S3 : Hid (UC U false 0 w3) := Blk.kp (unhide S1).1 ((unhide K1).trans (let ⟨_, _, _, _, _, _, k⟩ := hv; k))
  obtain ⟨a1, p1, rfl, hp1, s3⟩ := ((unhide S1).2.kp (unhide K1)).copy hv
  have L3 := hide (And.intro hp1 s3)
  clear hv hp1 s3 O1 K1 S1
  have b1 := Blk.new w3 #[.int .i64 0, .int .i64 1, .int .i64 1, .int .i64 0] 3
  have O1 := hide (lawOfL [0, 1, 1, 0] 4 rfl (by omega) (by simp) 2 2 w3.heap.size 4 _ b1)
  have K1 : Hid (Kp w3 (w3.alloc (.cells #[.int .i64 0, .int .i64 1, .int .i64 1, .int .i64 0] 3))) := (Kp.refl _).alloc _ _
  clear b1
  go_wp2_with fail
  generalize w3.alloc (.cells #[.int .i64 0, .int .i64 1, .int .i64 1, .int .i64 0] 3) = w4 at *
  refine (unhide O1).mono ?_
  intro e w5 hv
  have S5 : Hid (UC U false 0 w5) := Blk.kp (unhide S3) ((unhide K1).trans (let ⟨_, _, _, _, _, _, k⟩ := hv; k))
  obtain ⟨a2, p2, rfl, hp2, s5⟩ := ((unhide L3).2.kp (unhide K1)).copy hv
  have L5 := hide (And.intro (unhide L3).1 (And.intro hp2 s5))
  clear hv hp2 s5 O1 K1 S3 L3
  have L6 := hide ((unhide L5).2.2.box2 #[.int .i64 2, .int .i64 2, .slice a1 4 p1] #[.int .i64 2, .int .i64 2, .slice a2 4 p2])
  have K6 : Hid (Kp w5 ((w5.alloc (.cells #[.int .i64 2, .int .i64 2, .slice a1 4 p1] 24)).alloc (.cells #[.int .i64 2, .int .i64 2, .slice a2 4 p2] 24))) := ((Kp.refl _).alloc _ _).alloc _ _
  go_wp2_with fail
  generalize (w5.alloc (.cells #[.int .i64 2, .int .i64 2, .slice a1 4 p1] 24)).alloc (.cells #[.int .i64 2, .int .i64 2, .slice a2 4 p2] 24) = w6 at *
  have U6 : Hid (UC U false 0 w6) := Blk.kp (unhide S5) (unhide K6)
  have r1 := (unhide L6).at (ao := a1) (len := 4) (Z := oneL [1, 2, 3, 4]) (by simp)
  have r2 := (unhide L6).at (ao := a2) (len := 4) (Z := oneL [0, 1, 1, 0]) (by simp)
  refine (mulAny U false 0 ⟨by omega, by omega⟩ 2 2 2 2 a1 a2 4 p1 4 p2 (oneL [1, 2, 3, 4]) (oneL [0, 1, 1, 0]) (unhide L5).1 (oneL_I64 (l := [1, 2, 3, 4]) (by simp)) (oneL_I64 (l := [0, 1, 1, 0]) (by simp)) w6 (unhide U6) r1.1 (r1.2 U (by simp)) r2.1 (r2.2 U (by simp)) _ (mulO_of ok22 ok22 rfl)).mono ?_
  intro e w7 hv
  have ls7 : LS w [U] _ _ w7 := (unhide L6).mk (by simp) (let ⟨_, _, _, _, _, _, _, x⟩ := hv; x.2)
  obtain ⟨ac, pc, B7, rfl, _, _, _, s7, u7⟩ := (unhide L6).told ls7 hv
  have s7' := s7.congr (Y := oneL [2, 1, 4, 3]) mul22
  have L7 := hide s7'
  have d0 : w7.cell? ⟨w5.heap.size, 0, none⟩ = some (.int .i64 2) := s7'.cell (b := w5.heap.size) (cs := #[.int .i64 2, .int .i64 2, .slice a1 4 p1]) (by simp) 0
  have d1 : w7.cell? ⟨w5.heap.size, 1, none⟩ = some (.int .i64 2) := s7'.cell (b := w5.heap.size) (cs := #[.int .i64 2, .int .i64 2, .slice a1 4 p1]) (by simp) 1
  have d2 : w7.cell? ⟨w5.heap.size, 2, none⟩ = some (.slice a1 4 p1) := s7'.cell (b := w5.heap.size) (cs := #[.int .i64 2, .int .i64 2, .slice a1 4 p1]) (by simp) 2
  have hlt := s7'.lt (b := w5.heap.size) (cs := #[.int .i64 2, .int .i64 2, .slice a1 4 p1]) (by simp)
  clear hv ls7 s7 s7' u7 r1 r2 U6 K6 S5
  have L8 := hide ((unhide L7).box #[.int .i64 2, .int .i64 2, .slice ac 4 pc])
  simp only [show Int.toNat 2 = 2 from rfl, show 2 * 2 = 4 from rfl]
  go_wp2_with fail
  generalize w7.alloc (.cells #[.int .i64 2, .int .i64 2, .slice ac 4 pc] 24) = w8 at *
  have r1 := (unhide L8).at (ao := a1) (len := 4) (Z := oneL [1, 2, 3, 4]) (by simp)
  refine (turnAny 2 2 a1 4 p1 (oneL [1, 2, 3, 4]) w8 r1.1 _ (turnO_of ok22)).mono ?_
  intro e w9 hv
  obtain ⟨ad, pd, B9, rfl, _, _, _, s9, _⟩ := (unhide L8).told ((unhide L8).kp (let ⟨_, _, _, _, _, _, _, x⟩ := hv; x)) hv
  have L9 := hide (s9.congr (Y := oneL [1, 3, 2, 4]) turn22)
  clear hv s9 r1 d0 d1 d2 hlt
  have L10 := hide ((unhide L9).box #[.int .i64 2, .int .i64 2, .slice ad 4 pd])
  simp only [show Int.toNat 2 = 2 from rfl, show 2 * 2 = 4 from rfl]
  go_wp2_with fail
  generalize w9.alloc (.cells #[.int .i64 2, .int .i64 2, .slice ad 4 pd] 24) = w10 at *
  have CW : Hid (∀ wx, Kp w10 wx → wx.cell? ⟨w7.heap.size, 0, none⟩ = some (.int .i64 2) ∧ wx.cell? ⟨w7.heap.size, 1, none⟩ = some (.int .i64 2) ∧ wx.cell? ⟨w7.heap.size, 2, none⟩ = some (.slice ac 4 pc) ∧ wx.cell? ⟨w9.heap.size, 0, none⟩ = some (.int .i64 2) ∧ wx.cell? ⟨w9.heap.size, 1, none⟩ = some (.int .i64 2) ∧ wx.cell? ⟨w9.heap.size, 2, none⟩ = some (.slice ad 4 pd)) := fun wx k => by
    have h := (unhide L10).kp k
    exact ⟨h.cell (b := w7.heap.size) (cs := #[.int .i64 2, .int .i64 2, .slice ac 4 pc]) (by simp) 0, h.cell (b := w7.heap.size) (cs := #[.int .i64 2, .int .i64 2, .slice ac 4 pc]) (by simp) 1, h.cell (b := w7.heap.size) (cs := #[.int .i64 2, .int .i64 2, .slice ac 4 pc]) (by simp) 2, h.cell (b := w9.heap.size) (cs := #[.int .i64 2, .int .i64 2, .slice ad 4 pd]) (by simp) 0, h.cell (b := w9.heap.size) (cs := #[.int .i64 2, .int .i64 2, .slice ad 4 pd]) (by simp) 1, h.cell (b := w9.heap.size) (cs := #[.int .i64 2, .int .i64 2, .slice ad 4 pd]) (by simp) 2⟩
  have Rc : Hid (∀ wx, Kp w10 wx → Row wx ac 4 (oneL [2, 1, 4, 3])) := fun wx k => (((unhide L10).kp k).at (ao := ac) (len := 4) (Z := oneL [2, 1, 4, 3]) (by simp)).1
  have Rd : Hid (∀ wx, Kp w10 wx → Row wx ad 4 (oneL [1, 3, 2, 4])) := fun wx k => (((unhide L10).kp k).at (ao := ad) (len := 4) (Z := oneL [1, 3, 2, 4]) (by simp)).1
  obtain ⟨x1, x2, x3, x4, x5, x6⟩ := unhide CW w10 (Kp.refl _)
  have hz1 : w7.heap.size < w10.heap.size := heap_gt x1
  have hz2 : w9.heap.size < w10.heap.size := heap_gt x4
  have O1 : Hid (∀ wx b, Blk b #[.int .i64 2, .int .i64 1, .int .i64 4, .int .i64 3] 3 wx → Calls Try.prog 33 #[.int .i64 2, .int .i64 2, .slice (some ⟨b, 0, none⟩) 4 4] wx fun e w' => CopyM 2 2 4 (oneL [2, 1, 4, 3]) wx e w') := fun wx b hb => lawOfL [2, 1, 4, 3] 4 rfl (by omega) (by simp) 2 2 b 4 wx hb
  have O2 : Hid (∀ wx b, Blk b #[.int .i64 1, .int .i64 3, .int .i64 2, .int .i64 4] 3 wx → Calls Try.prog 33 #[.int .i64 2, .int .i64 2, .slice (some ⟨b, 0, none⟩) 4 4] wx fun e w' => CopyM 2 2 4 (oneL [1, 3, 2, 4]) wx e w') := fun wx b hb => lawOfL [1, 3, 2, 4] 4 rfl (by omega) (by simp) 2 2 b 4 wx hb
  have KD : Hid (Kp w10 (w10.alloc (.cells #[.int .i64 2, .int .i64 1, .int .i64 4, .int .i64 3] 3)).drew) := (Kp.refl w10).alloc _ _
  have KW := hide (unhide L10).1
  clear L10 L9 L8 L7 L6 L5
  go_region_held3 (fun w' => w'.cell? ⟨w7.heap.size, 0, none⟩ = some (.int .i64 2) ∧ w'.cell? ⟨w7.heap.size, 1, none⟩ = some (.int .i64 2) ∧ w'.cell? ⟨w7.heap.size, 2, none⟩ = some (.slice ac 4 pc) ∧ w'.cell? ⟨w9.heap.size, 0, none⟩ = some (.int .i64 2) ∧ w'.cell? ⟨w9.heap.size, 1, none⟩ = some (.int .i64 2) ∧ w'.cell? ⟨w9.heap.size, 2, none⟩ = some (.slice ad 4 pd))
      (simp [go_sem, *])
      (first
        | (go_at_call 33; refine (unhide O1 _ w10.heap.size (show Blk w10.heap.size #[.int .i64 2, .int .i64 1, .int .i64 4, .int .i64 3] 3 (w10.alloc (.cells #[.int .i64 2, .int .i64 1, .int .i64 4, .int .i64 3] 3)).drew from Blk.new w10 _ _)).mono ?_; clear O1; rintro e w11 ⟨a3, p3, rfl, hp3, r3, _, k3⟩; have K11 : Hid (Kp w10 w11) := ((unhide KD).trans k3); have R3 := hide r3; obtain ⟨y1, y2, y3, y4, y5, y6⟩ := unhide CW w11 (unhide K11); have hz3 := heap_gt y1; have hz4 := heap_gt y4; clear r3 k3 KD hp3)
        | (go_at_call 20; refine (kitSameM 2 2 ac a3 4 pc p3 (oneL [2, 1, 4, 3]) (by omega) _ (unhide Rc _ (unhide K11)) (unhide R3)).mono ?_; clear R3 Rc; rintro e w12 ⟨rfl, k12⟩; have K12 : Hid (Kp w10 w12) := ((unhide K11).trans k12); obtain ⟨z1, z2, z3, z4, z5, z6⟩ := unhide CW w12 (unhide K12); have hz5 := heap_gt z1; have hz6 := heap_gt z4; have KE : Hid (Kp w10 (w12.alloc (.cells #[.int .i64 1, .int .i64 3, .int .i64 2, .int .i64 4] 3))) := ((unhide K12).alloc _ _); clear k12)
        | (go_at_call 33; refine (unhide O2 _ _ (Blk.new _ _ _)).mono ?_; clear O2; rintro e w13 ⟨a4, p4, rfl, hp4, r4, _, k4⟩; have K13 : Hid (Kp w10 w13) := ((unhide KE).trans k4); have R4 := hide r4; obtain ⟨v1, v2, v3, v4, v5, v6⟩ := unhide CW w13 (unhide K13); clear r4 k4 hp4 KE)
        | (go_at_call 20; refine (kitSameM 2 2 ad a4 4 pd p4 (oneL [1, 3, 2, 4]) (by omega) _ (unhide Rd _ (unhide K13)) (unhide R4)).mono ?_; clear R4 Rd; rintro e w14 ⟨rfl, k14⟩; have K14 : Hid (Kp w10 w14) := ((unhide K13).trans k14); obtain ⟨t1, t2, t3, t4, t5, t6⟩ := unhide CW w14 (unhide K14); clear k14))
  go_wp2
  go_ret
  exact ⟨rfl, (unhide KW).trans (unhide K14)⟩

end Go.Proofs.Ytcobicnpdmgnjaa

/- How matrices that are handed in lie in memory. -/
namespace Go.Proofs.Ytcobicnpdmgnjaa
open Go.ChangeShapes Go.WideShapes Go.ChangeAt Go.RowKit Go.Joins Go.Proofs.Wd Go.Deep
set_option linter.unusedVariables false
set_option linter.unusedSimpArgs false

set_option maxRecDepth 20000 in
theorem open_mat {H : Type} {enc : TypeId × Value → H} {W : World} {n : Nat} {cs : List Value} {y : DataW H × List MemPlace} (h : DataW.trod enc Try.prog W 0 (fun _ => true) true n 24 cs = some y) :
    ∃ (R C : Int) (ao : Option Addr) (ln lc : Nat) (Z : Nat → Int), cs = [.int .i64 R, .int .i64 C, .slice ao ln lc] ∧ I64 R ∧ I64 C ∧ ln ≤ lc ∧ lc ≤ 9223372036854775807 ∧ Row W ao ln Z ∧ (∀ i, i < ln → I64 (Z i)) ∧ (ao = none → ln = 0 ∧ lc = 0) := by
  obtain ⟨xs, m, _, _, hlen, hxl, hf⟩ := DataW.trod_struct Try.underlying24 h
  rw [show Try.prog.cellsOf 24 = 3 by kernel_rfl] at hlen
  match cs, hlen with
  | [v0, v1, v2], _ =>
  match xs, hxl with
  | [x0, x1, x2], _ =>
  have f0 : DataW.trod enc Try.prog W 0 (fun _ => true) true m 3 (([v0, v1, v2].drop 0).take (Try.prog.cellsOf 3)) = some x0 := hf 0 _ rfl
  rw [cellsInt] at f0
  have f1 : DataW.trod enc Try.prog W 0 (fun _ => true) true m 3 (([v0, v1, v2].drop 1).take (Try.prog.cellsOf 3)) = some x1 := hf 1 _ rfl
  rw [cellsInt] at f1
  have f2 : DataW.trod enc Try.prog W 0 (fun _ => true) true m 22 (([v0, v1, v2].drop 2).take (Try.prog.cellsOf 22)) = some x2 := hf 2 _ rfl
  rw [cellsInts] at f2
  obtain ⟨R, e0, _, w0⟩ := DataW.trod_int Try.underlying3 f0
  obtain ⟨C, e1, _, w1⟩ := DataW.trod_int Try.underlying3 f1
  obtain ⟨lo, ln, lc, lz, rfl, l1, l2, l3, l4, l5⟩ := open_row0 f2
  simp at e0 e1
  subst e0 e1
  exact ⟨R, C, lo, ln, lc, lz, rfl, i64_wf w0, i64_wf w1, l1, l2, l3, l4, l5⟩

end Go.Proofs.Ytcobicnpdmgnjaa

/- Laws with two units under way. -/
namespace Go.Proofs.Ytcobicnpdmgnjaa
open Go.RowKit Go.Shelf Go.Proofs.Wd
set_option linter.unusedVariables false
set_option linter.unusedSimpArgs false

def TS (w : World) (U V : Nat) (cu : Array Value) (tu : TypeId) (cv : Array Value) (tv : TypeId) (bx : List (Nat × Array Value)) (rows : List (Option Addr × Nat × (Nat → Int))) (wx : World) : Prop :=
  Blk U cu tu wx ∧ Blk V cv tv wx ∧ U ≠ V ∧ LS w [U, V] bx rows wx
theorem LS.unit {w : World} {E : List Nat} {bx : List (Nat × Array Value)} {rows : List (Option Addr × Nat × (Nat → Int))} {wx w1 : World} {cs : Array Value} {T : TypeId} (h : LS w E bx rows wx) (g : Grown wx w1) (hu : Blk wx.heap.size cs T w1) : LS w (wx.heap.size :: E) bx rows w1 := by
  have k := h.kp (Kp.of g)
  refine ⟨k.1, fun e he => ?_, fun b hb => ⟨(k.2.2.1 b hb).1, fun he => ?_⟩, fun r hr => ⟨(k.2.2.2 r hr).1, fun e he => ?_⟩⟩
  · rcases List.mem_cons.1 he with rfl | he
    · exact ⟨h.1.2.2.2, Blk.lt hu⟩
    · exact k.2.1 e he
  · rcases List.mem_cons.1 he with e | he
    · have := Blk.lt (h.2.2.1 b hb).1; omega
    · exact (k.2.2.1 b hb).2 he
  · rcases List.mem_cons.1 he with rfl | he
    · exact (h.2.2.2 r hr).1.off (Nat.le_refl _)
    · exact (k.2.2.2 r hr).2 e he
section
variable {w : World} {U V : Nat} {cu cv : Array Value} {tu tv : TypeId} {bx : List (Nat × Array Value)} {rows : List (Option Addr × Nat × (Nat → Int))} {wx w' : World}
theorem TS.kp (h : TS w U V cu tu cv tv bx rows wx) (k : Kp wx w') : TS w U V cu tu cv tv bx rows w' := ⟨Blk.kp h.1 k, Blk.kp h.2.1 k, h.2.2.1, h.2.2.2.kp k⟩
theorem TS.box (h : TS w U V cu tu cv tv bx rows wx) (cs : Array Value) : TS w U V cu tu cv tv ((wx.heap.size, cs) :: bx) rows (wx.alloc (.cells cs 24)) :=
  ⟨Blk.grown h.1 ((Grown.refl _).alloc _ _), Blk.grown h.2.1 ((Grown.refl _).alloc _ _), h.2.2.1, h.2.2.2.box cs⟩
theorem TS.mkU {cu' : Array Value} (h : TS w U V cu tu cv tv bx rows wx) (m : Mk U wx w') (u : Blk U cu' tu w') : TS w U V cu' tu cv tv bx rows w' := ⟨u, Blk.mk h.2.1 m (Ne.symm h.2.2.1), h.2.2.1, h.2.2.2.mk (by simp) m⟩
theorem TS.mkV {cv' : Array Value} (h : TS w U V cu tu cv tv bx rows wx) (m : Mk V wx w') (u : Blk V cv' tv w') : TS w U V cu tu cv' tv bx rows w' := ⟨Blk.mk h.1 m h.2.2.1, u, h.2.2.1, h.2.2.2.mk (by simp) m⟩
theorem TS.toldU {cu' : Array Value} {r c err : Int} {len : Nat} {Z : Nat → Int} {e : Ending} (h : TS w U V cu tu cv tv bx rows wx) (m : MatP r c len Z err (fun w' => Blk U cu' tu w' ∧ Mk U wx w') wx e w') :
    ∃ ao cap B, e = .returned (.tuple #[.agg #[.int .i64 r, .int .i64 c, .slice ao len cap], .int .i64 err]) ∧ len ≤ cap ∧ (len = 0 ∨ (ao = some ⟨B, 0, none⟩ ∧ Blk B (ints len Z) 3 w')) ∧ wx.heap.size ≤ B ∧ TS w U V cu' tu cv tv bx ((ao, len, Z) :: rows) w' := by
  have hx : Blk U cu' tu w' ∧ Mk U wx w' := let ⟨_, _, _, _, _, _, _, x⟩ := m; x
  have t := h.mkU hx.2 hx.1
  obtain ⟨ao, cap, B, h1, h2, h3, h4, h5, _⟩ := h.2.2.2.told t.2.2.2 m
  exact ⟨ao, cap, B, h1, h2, h3, h4, t.1, t.2.1, t.2.2.1, h5⟩
theorem TS.toldV {cv' : Array Value} {r c err : Int} {len : Nat} {Z : Nat → Int} {e : Ending} (h : TS w U V cu tu cv tv bx rows wx) (m : MatP r c len Z err (fun w' => Blk V cv' tv w' ∧ Mk V wx w') wx e w') :
    ∃ ao cap B, e = .returned (.tuple #[.agg #[.int .i64 r, .int .i64 c, .slice ao len cap], .int .i64 err]) ∧ len ≤ cap ∧ (len = 0 ∨ (ao = some ⟨B, 0, none⟩ ∧ Blk B (ints len Z) 3 w')) ∧ wx.heap.size ≤ B ∧ TS w U V cu tu cv' tv bx ((ao, len, Z) :: rows) w' := by
  have hx : Blk V cv' tv w' ∧ Mk V wx w' := let ⟨_, _, _, _, _, _, _, x⟩ := m; x
  have t := h.mkV hx.2 hx.1
  obtain ⟨ao, cap, B, h1, h2, h3, h4, h5, _⟩ := h.2.2.2.told t.2.2.2 m
  exact ⟨ao, cap, B, h1, h2, h3, h4, t.1, t.2.1, t.2.2.1, h5⟩
theorem TS.toldK {r c err : Int} {len : Nat} {Z : Nat → Int} {e : Ending} (h : TS w U V cu tu cv tv bx rows wx) (m : MatP r c len Z err (Kp wx) wx e w') :
    ∃ ao cap B, e = .returned (.tuple #[.agg #[.int .i64 r, .int .i64 c, .slice ao len cap], .int .i64 err]) ∧ len ≤ cap ∧ (len = 0 ∨ (ao = some ⟨B, 0, none⟩ ∧ Blk B (ints len Z) 3 w')) ∧ wx.heap.size ≤ B ∧ TS w U V cu tu cv tv bx ((ao, len, Z) :: rows) w' := by
  have hx : Kp wx w' := let ⟨_, _, _, _, _, _, _, x⟩ := m; x
  have t := h.kp hx
  obtain ⟨ao, cap, B, h1, h2, h3, h4, h5, _⟩ := h.2.2.2.told t.2.2.2 m
  exact ⟨ao, cap, B, h1, h2, h3, h4, t.1, t.2.1, t.2.2.1, h5⟩
theorem TS.congr {ao : Option Addr} {len : Nat} {Z Y : Nat → Int} (h : TS w U V cu tu cv tv bx ((ao, len, Z) :: rows) wx) (hz : ∀ i, i < len → Z i = Y i) : TS w U V cu tu cv tv bx ((ao, len, Y) :: rows) wx := ⟨h.1, h.2.1, h.2.2.1, h.2.2.2.congr hz⟩
/-- The three cells of a matrix. -/
theorem TS.cells (h : TS w U V cu tu cv tv bx rows wx) {b : Nat} {x y z : Value} (hb : (b, #[x, y, z]) ∈ bx) : wx.cell? ⟨b, 0, none⟩ = some x ∧ wx.cell? ⟨b, 1, none⟩ = some y ∧ wx.cell? ⟨b, 2, none⟩ = some z := ⟨h.2.2.2.cell hb 0, h.2.2.2.cell hb 1, h.2.2.2.cell hb 2⟩
theorem TS.lt (h : TS w U V cu tu cv tv bx rows wx) {b : Nat} {cs : Array Value} (hb : (b, cs) ∈ bx) : b < wx.heap.size := h.2.2.2.lt hb
theorem TS.rowU (h : TS w U V cu tu cv tv bx rows wx) {ao : Option Addr} {len : Nat} {Z : Nat → Int} (hr : (ao, len, Z) ∈ rows) : Row wx ao len Z ∧ Off U len ao ∧ Off V len ao :=
  ⟨(h.2.2.2.at hr).1, (h.2.2.2.at hr).2 U (by simp), (h.2.2.2.at hr).2 V (by simp)⟩
end

end Go.Proofs.Ytcobicnpdmgnjaa

/- A region that draws its order and calls, makes and stores: by an invariant over what has come up. -/
namespace Go.Proofs.Ytcobicnpdmgnjaa
open Go.RowKit Go.Shelf Go.Proofs.Wd
set_option linter.unusedVariables false
set_option linter.unusedSimpArgs false

/-- J n: it holds while n operations have not come up. -/
theorem wpAny_inv {P : Program} {ops : Array Oper} {Q : Exit → Act → World → Prop} {md : Region.Mode} (J : Nat → Array Bool → Act → World → Prop)
    (h0 : ∀ listed a w, J 0 listed a w → Region.ready md ops listed = [] ∧ Q .normal a w)
    (h1 : ∀ n listed a w, J (n + 1) listed a w → Region.ready md ops listed ≠ [] ∧ ∀ i ∈ Region.ready md ops listed, wpOp P ops Q i (J n (listed.setIfInBounds i true)) a w) :
    ∀ n listed a w, J n listed a w → wpAny P md ops Q n listed a w
  | 0, l, a, w, h => h0 l a w h
  | n + 1, l, a, w, h => ⟨fun hr => absurd hr (h1 n l a w h).1, fun i hi => wpOp_mono (fun a' w' h' => wpAny_inv J h0 h1 n _ a' w' h') ((h1 n l a w h).2 i hi)⟩

theorem ready_mem {md : Region.Mode} {ops : Array Oper} {listed : Array Bool} {i : Nat} (h : i ∈ Region.ready md ops listed) :
    i < ops.size ∧ listed.getD i true = false ∧ ∀ o, ops[i]? = some o → ∀ e ∈ o.after, Region.binds md e = true → listed.getD e.on false = true := by
  unfold Region.ready at h
  rw [List.mem_filter, List.mem_range] at h
  obtain ⟨h1, h2⟩ := h
  rw [Bool.and_eq_true] at h2
  refine ⟨h1, by simpa using h2.1, fun o ho e he hb => ?_⟩
  have h3 := h2.2
  rw [ho] at h3
  simp only [Option.map_some, Option.getD_some] at h3
  rw [Array.all_eq_true_iff_forall_mem] at h3
  have := h3 e he
  rw [hb] at this
  simpa using this

/-- Each operation waits for earlier ones alone. -/
def backs (ops : Array Oper) : Bool := (List.range ops.size).all fun i => ((ops[i]?).map (·.after.all fun e => decide (e.on < i))).getD true
theorem ready_ne {md : Region.Mode} {ops : Array Oper} {listed : Array Bool} (hb : backs ops = true) (hs : listed.size = ops.size) : ∀ (m i : Nat), i ≤ m → i < ops.size → listed.getD i true = false → Region.ready md ops listed ≠ [] := by
  intro m
  induction m with
  | zero =>
    intro i him hi hl
    obtain rfl : i = 0 := by omega
    intro hr
    have : 0 ∈ Region.ready md ops listed := by
      unfold Region.ready
      rw [List.mem_filter, List.mem_range]
      refine ⟨hi, ?_⟩
      rw [hl]
      have ho : ops[0]? = some ops[0] := by simp [hi]
      rw [ho]
      simp only [Option.map_some, Option.getD_some, Bool.not_false, Bool.true_and]
      unfold backs at hb
      rw [List.all_eq_true] at hb
      have h2 := hb 0 (List.mem_range.2 hi)
      rw [ho] at h2
      simp only [Option.map_some, Option.getD_some] at h2
      rw [Array.all_eq_true_iff_forall_mem] at h2 ⊢
      intro e he
      have := h2 e he
      simp at this
    rw [hr] at this
    exact absurd this List.not_mem_nil
  | succ m ih =>
    intro i him hi hl hr
    have ho : ops[i]? = some ops[i] := by simp [hi]
    have hbi : ∀ e ∈ ops[i].after, e.on < i := by
      unfold backs at hb
      rw [List.all_eq_true] at hb
      have h2 := hb i (List.mem_range.2 hi)
      rw [ho] at h2
      simp only [Option.map_some, Option.getD_some] at h2
      rw [Array.all_eq_true_iff_forall_mem] at h2
      intro e he
      simpa using h2 e he
    by_cases hall : ∀ e ∈ ops[i].after, listed.getD e.on false = true
    · have : i ∈ Region.ready md ops listed := by
        unfold Region.ready
        rw [List.mem_filter, List.mem_range]
        refine ⟨hi, ?_⟩
        rw [hl, ho]
        simp only [Option.map_some, Option.getD_some, Bool.not_false, Bool.true_and]
        rw [Array.all_eq_true_iff_forall_mem]
        intro e he
        rw [hall e he]
        simp
      rw [hr] at this
      exact absurd this List.not_mem_nil
    · have ⟨e, he⟩ := Classical.not_forall.1 hall
      have ⟨hm, hf⟩ := Classical.not_imp.1 he
      have hlt := hbi e hm
      have hsz : e.on < listed.size := by omega
      refine ih e.on (by omega) (by omega) ?_ hr
      have h1 : listed.getD e.on false = listed[e.on] := by simp [Array.getD, hsz]
      have h2 : listed.getD e.on true = listed[e.on] := by simp [Array.getD, hsz]
      rw [h1] at hf
      rw [h2]
      simpa using hf
/-- It waits for number k. -/
def waits (aft : Array Edge) (k : Nat) : Bool := aft.any fun e => Region.binds .any e && e.on == k
theorem ready_waits {ops : Array Oper} {listed : Array Bool} {i : Nat} (h : i ∈ Region.ready .any ops listed) {o : Oper} (ho : ops[i]? = some o) {k : Nat} (hk : waits o.after k = true) : listed.getD k false = true := by
  unfold waits at hk
  obtain ⟨e, he, hb⟩ := Array.any_eq_true'.1 hk
  rw [Bool.and_eq_true] at hb
  have := (ready_mem h).2.2 o ho e he hb.1
  rwa [eq_of_beq hb.2] at this

/-- All slots but those of D are as they were. -/
def Sl (D : List Nat) (a0 a : Act) : Prop := a.defers = a0.defers ∧ a.tmps.size = a0.tmps.size ∧ ∀ k, k ∉ D → a.tmps[k]? = a0.tmps[k]?
theorem Sl.refl (D : List Nat) (a : Act) : Sl D a a := ⟨rfl, rfl, fun _ _ => rfl⟩
theorem Sl.put {D : List Nat} {a0 a : Act} (h : Sl D a0 a) (d : Nat) (v : Value) (hd : d ∈ D) : Sl D a0 (a.put (some d) v) := by
  refine ⟨h.1, ?_, fun k hk => ?_⟩
  · show (a.tmps.setIfInBounds d v).size = _
    rw [Array.size_setIfInBounds, h.2.1]
  · show (a.tmps.setIfInBounds d v)[k]? = _
    rw [Array.getElem?_setIfInBounds_ne (fun e : d = k => hk (by rw [← e]; exact hd)), h.2.2 k hk]
theorem put_same {a : Act} {d : Nat} {v : Value} (h : d < a.tmps.size) : (a.put (some d) v).tmps[d]? = some v := by
  show (a.tmps.setIfInBounds d v)[d]? = _
  rw [Array.getElem?_setIfInBounds_self_of_lt h]
theorem put_ne {a : Act} {d k : Nat} {v : Value} (h : d ≠ k) : (a.put (some d) v).tmps[k]? = a.tmps[k]? := by
  show (a.tmps.setIfInBounds d v)[k]? = _
  rw [Array.getElem?_setIfInBounds_ne h]
theorem eval_tmp {a : Act} {k : Nat} {v : Value} (h : a.tmps[k]? = some v) : a.eval (.tmp k) = v := by
  show a.tmps.getD k undef = v
  rw [Array.getD_eq_getD_getElem?, h]; rfl

section
variable {ops : Array Oper} {Q : Exit → Act → World → Prop} {i d k : Nat} {K : Act → World → Prop} {a : Act} {w : World} {T : TypeId} {pos : String} {aft : Array Edge}
theorem wpOp_of {P : Program} {o : Oper} (hi : ops[i]? = some o) (hg : o.guard = none) (h : o.wp P a w K Q) : wpOp P ops Q i K a w := by
  unfold wpOp
  simp only [hi]
  rw [if_pos (by simp [Region.wanted, hg])]
  exact Or.inl h
theorem wpOp_load (hi : ops[i]? = some ⟨some d, .load 24 (.tmp k), T, pos, aft, none⟩) {B : Nat} {v0 v1 v2 : Value} (hk : a.tmps[k]? = some (.pointer (some ⟨B, 0, none⟩))) (hb : Blk B #[v0, v1, v2] 24 w)
    (h : K (a.put (some d) (.agg #[v0, v1, v2])) w) : wpOp Try.prog ops Q i K a w := by
  refine wpOp_of hi rfl ?_
  have ev := eval_tmp hk
  have c0 : w.cell? ⟨B, 0, none⟩ = some v0 := by rw [Blk.cell hb]; rfl
  have c1 : w.cell? ⟨B, 1, none⟩ = some v1 := by rw [Blk.cell hb]; rfl
  have c2 : w.cell? ⟨B, 2, none⟩ = some v2 := by rw [Blk.cell hb]; rfl
  unfold Oper.wp
  simp [go_sem, hk, c0, c1, c2]
  exact h
theorem wpOp_alloc (hi : ops[i]? = some ⟨some d, .alloc 24, T, pos, aft, none⟩)
    (h : K (a.put (some d) (.pointer (some ⟨w.heap.size, 0, none⟩))) (w.alloc (.cells #[.int .i64 0, .int .i64 0, .slice none 0 0] 24))) : wpOp Try.prog ops Q i K a w := by
  refine wpOp_of hi rfl ?_
  unfold Oper.wp
  simp [go_sem]
  exact h
theorem wpOp_store (hi : ops[i]? = some ⟨none, .store 24 (.tmp k) (.tmp d), T, pos, aft, none⟩) {B : Nat} {r c : Int} {ao : Option Addr} {n cap : Nat} {u0 u1 u2 : Value} (hk : a.tmps[k]? = some (.pointer (some ⟨B, 0, none⟩))) (hd : a.tmps[d]? = some (.agg #[.int .i64 r, .int .i64 c, .slice ao n cap])) (hb : Blk B #[u0, u1, u2] 24 w)
    (h : ∀ w', Mod B w w' → Blk B #[.int .i64 r, .int .i64 c, .slice ao n cap] 24 w' → K a w') : wpOp Try.prog ops Q i K a w := by
  refine wpOp_of hi rfl ?_
  have c0 : w.cell? ⟨B, 0, none⟩ = some u0 := by rw [Blk.cell hb]; rfl
  have c1 : w.cell? ⟨B, 1, none⟩ = some u1 := by rw [Blk.cell hb]; rfl
  have c2 : w.cell? ⟨B, 2, none⟩ = some u2 := by rw [Blk.cell hb]; rfl
  have f0 := Blk.free hb 0
  have f1 := Blk.free hb 1
  have f2 := Blk.free hb 2
  have hh := h (((w.setCell ⟨B, 0, none⟩ (.int .i64 r)).setCell ⟨B, 1, none⟩ (.int .i64 c)).setCell ⟨B, 2, none⟩ (.slice ao n cap)) ((((Mod.refl _ _).setCell _ _).setCell _ _).setCell _ _) (((hb.set 0 _).set 1 _).set 2 _)
  unfold Oper.wp
  simp [go_sem, hk, hd, c0, c1, c2, f0, f1, f2]
  exact hh
theorem wpOp_call1 {f : Nat} (hi : ops[i]? = some ⟨some d, .call ⟨.value (.func f), #[.tmp k], #[24]⟩, T, pos, aft, none⟩) {v : Value} (hk : a.tmps[k]? = some v) (hf : ∀ w, Sem.run Try.prog (callFunc f #[v]) w = .ok (.enter f #[v]) w)
    (h : Calls Try.prog f #[v] w fun e w' => ∃ x, e = .returned x ∧ K (a.put (some d) x) w') : wpOp Try.prog ops Q i K a w := by
  refine wpOp_of hi rfl ?_
  unfold Oper.wp
  simp [go_sem, hk, hf]
  refine h.mono ?_
  rintro e w' ⟨x, rfl, hx⟩
  exact hx
end

end Go.Proofs.Ytcobicnpdmgnjaa

/- A region that draws its order, whose last operation waits for all others: S need not hold behind that one. -/
namespace Go.Proofs.Ytcobicnpdmgnjaa
open Go.RowKit Go.Shelf Go.Proofs.Wd
set_option linter.unusedVariables false
set_option linter.unusedSimpArgs false

section
variable {P : Program} {ops : Array Oper} {Q : Exit → Act → World → Prop} {md : Region.Mode} {S : World → Prop} {g : Nat}
/-- Whatever order is picked, S holds behind every operation but number g. -/
def wpAnyG (P : Program) (md : Region.Mode) (ops : Array Oper) (Q : Exit → Act → World → Prop) (S : World → Prop) (g : Nat) : Nat → Array Bool → Act → World → Prop
  | 0, listed, a, w => Region.ready md ops listed = [] ∧ Q .normal a w
  | fuel + 1, listed, a, w =>
    (Region.ready md ops listed = [] → Q .normal a w) ∧
    ∀ i ∈ Region.ready md ops listed, wpOp P ops Q i (fun a' w' => (i ≠ g → S w') ∧ wpAnyG P md ops Q S g fuel (listed.setIfInBounds i true) a' w') a w
theorem wpAny_of_G : ∀ (fuel : Nat) (listed : Array Bool) (a : Act) (w : World), wpAnyG P md ops Q S g fuel listed a w → wpAny P md ops Q fuel listed a w
  | 0, _, _, _, h => h
  | fuel + 1, _, _, _, h => ⟨h.1, fun i hi => wpOp_mono (fun a' w' h' => wpAny_of_G fuel _ a' w' h'.2) (h.2 i hi)⟩
/-- Number g waits for number i. -/
def waitsFor (md : Region.Mode) (ops : Array Oper) (g i : Nat) : Bool := ((ops[g]?).map (·.after.any fun e => Region.binds md e && e.on == i)).getD false
theorem waits_listed {listed : Array Bool} {i : Nat} (h : waitsFor md ops g i = true) (hg : g ∈ Region.ready md ops listed) : listed.getD i false = true := by
  unfold waitsFor at h
  cases ho : ops[g]? with
  | none => rw [ho] at h; cases h
  | some o =>
    rw [ho] at h
    simp only [Option.map_some, Option.getD_some] at h
    obtain ⟨e, he, hb⟩ := Array.any_eq_true'.1 h
    rw [Bool.and_eq_true] at hb
    have := (ready_mem hg).2.2 o ho e he hb.1
    rwa [eq_of_beq hb.2] at this
theorem G_first {i : Nat} {oi : Oper} {v : Value} (hi : ops[i]? = some oi) (hgi : waitsFor md ops g i = true) (hig : i ≠ g) (hsel : ∀ (j : Nat) (o : Oper) cs b, ops[j]? = some o → o.op ≠ .select cs b)
    (hQ : ∀ c a w, Q (.panic c) (a.put oi.dst v) w → Q (.panic c) a w) :
    ∀ (fuel : Nat) (listed : Array Bool) (a : Act) (w : World),
      (∀ j oj, ops[j]? = some oj → j ≠ i → listed.getD j true = false → (∀ e ∈ oj.after, Region.binds md e = true → e.on ≠ i) → oi.apart ops oj = true) →
      i ∈ Region.ready md ops listed → YieldsIf P ops S oi v a → S w →
      wpAnyG P md ops Q S g fuel (listed.setIfInBounds i true) (a.put oi.dst v) w → wpAnyG P md ops Q S g (fuel + 1) listed a w := by
  intro fuel
  induction fuel with
  | zero =>
    intro listed a w _ hr hy hS H
    refine ⟨fun h => (by rw [h] at hr; cases hr), fun j hj => ?_⟩
    by_cases hji : j = i
    · subst hji; exact hy.wpOp hi hS ⟨fun _ => hS, H⟩
    · have := ready_mono hj hji
      rw [H.1] at this
      cases this
  | succ fuel ih =>
    intro listed a w hfree hr hy hS H
    refine ⟨fun h => (by rw [h] at hr; cases hr), fun j hj => ?_⟩
    by_cases hji : j = i
    · subst hji; exact hy.wpOp hi hS ⟨fun _ => hS, H⟩
    · have hun := (ready_mem hr).2.1
      have hjg : j ≠ g := by
        intro e
        subst e
        have h1 := waits_listed hgi hj
        rcases Nat.lt_or_ge i listed.size with h' | h'
        · simp [Array.getD, h'] at hun h1
          rw [hun] at h1
          cases h1
        · simp [Array.getD, Nat.not_lt.2 h'] at h1
      have h1 := H.2 j (ready_mono hj hji)
      have hoj' := (ready_mem hj).1
      obtain ⟨oj, hoj⟩ : ∃ oj, ops[j]? = some oj := ⟨ops[j], by simp [hoj']⟩
      have hjun := (ready_mem hj).2.1
      have hnot : ∀ e ∈ oj.after, Region.binds md e = true → e.on ≠ i := fun e he hb heq => by
        have h1 := (ready_mem hj).2.2 oj hoj e he hb
        rw [heq] at h1
        rcases Nat.lt_or_ge i listed.size with h' | h'
        · simp [Array.getD, h'] at hun h1
          rw [hun] at h1
          cases h1
        · simp [Array.getD, Nat.not_lt.2 h'] at h1
      have h2 := wpOp_putIf hoj (hfree j oj hoj hji hjun hnot) (fun cs b => hsel i oi cs b hi) (fun cs b => hsel j oj cs b hoj) hQ hy h1
      have hfree' : ∀ k ok, ops[k]? = some ok → k ≠ i → (listed.setIfInBounds j true).getD k true = false →
          (∀ e ∈ ok.after, Region.binds md e = true → e.on ≠ i) → oi.apart ops ok = true := fun k ok hk hki hun hno => by
        refine hfree k ok hk hki ?_ hno
        by_cases hjk : j = k
        · subst hjk; exact hjun
        · rw [getD_set_ne true hjk] at hun; exact hun
      refine wpOp_mono (fun a' w' h3 => ⟨fun _ => h3.2.1 hjg, ih (listed.setIfInBounds j true) a' w' hfree' (ready_mono hr (Ne.symm hji)) h3.1 (h3.2.1 hjg) ?_⟩) h2
      rw [Array.setIfInBounds_comm _ _ hji]
      exact h3.2.2
/-- The beginning. -/
theorem region_G {id : Nat} {a : Act} {w : World} (S : World → Prop) (g : Nat) (hm : P.follows .mixedOrders = true) (hS : S w.drew)
    (h : S w.drew → wpAnyG P .any ops (NoPanic Q) S g ops.size (Array.replicate ops.size false) a w.drew) : (Code.region id ops true).wp P Q a w :=
  wp_region_noPanic (wp_region_any hm (wpAny_of_G _ _ _ _ (h hS)))
/-- One operation is taken first. -/
theorem take_G {i d : Nat} {oi : Oper} {v : Value} {fuel : Nat} {listed : Array Bool} {a : Act} {w : World} (hi : ops[i]? = some oi) (hd : oi.dst = some d) (hgi : waitsFor md ops g i = true) (hig : (i == g) = false)
    (hs : Region.noSelect ops = true) (hf : Region.free md ops listed i = true) (hr : (Region.ready md ops listed).contains i = true)
    (hy : YieldsIf P ops S oi v a) (hS : S w)
    (h : wpAnyG P md ops (NoPanic Q) S g fuel (listed.setIfInBounds i true) (a.put (some d) v) w) : wpAnyG P md ops (NoPanic Q) S g (fuel + 1) listed a w := by
  refine G_first hi hgi (by simpa using hig) (Region.noSelect_spec hs) (fun _ _ _ h => h) fuel listed a w (Region.free_spec hi hf) (by simpa using hr) hy hS ?_
  rw [hd]
  exact h
/-- The one that can come up comes up. -/
theorem one_G {i fuel : Nat} {listed : Array Bool} {a : Act} {w : World} (hr : Region.ready md ops listed = [i])
    (h : wpOp P ops (NoPanic Q) i (fun a' w' => (i ≠ g → S w') ∧ wpAnyG P md ops (NoPanic Q) S g fuel (listed.setIfInBounds i true) a' w') a w) : wpAnyG P md ops (NoPanic Q) S g (fuel + 1) listed a w :=
  ⟨fun h0 => by (rw [hr] at h0; cases h0), fun j hj => by rw [hr] at hj; cases List.mem_singleton.1 hj; exact h⟩
theorem step_G {i fuel : Nat} {listed : Array Bool} {a : Act} {w : World} (hr : Region.ready md ops listed = [i])
    (h : ∀ K : Act → World → Prop, (∀ a' w', (i ≠ g → S w') → wpAnyG P md ops (NoPanic Q) S g fuel (listed.setIfInBounds i true) a' w' → K a' w') → wpOp P ops (NoPanic Q) i K a w) : wpAnyG P md ops (NoPanic Q) S g (fuel + 1) listed a w :=
  one_G hr (h _ (fun a' w' h1 h2 => ⟨h1, h2⟩))
theorem done_G {fuel : Nat} {listed : Array Bool} {a : Act} {w : World} (hr : Region.ready md ops listed = []) (h : NoPanic Q .normal a w) : wpAnyG P md ops (NoPanic Q) S g fuel listed a w := by
  cases fuel with
  | zero => exact ⟨hr, h⟩
  | succ f => exact ⟨fun _ => h, fun j hj => by rw [hr] at hj; cases hj⟩
end

end Go.Proofs.Ytcobicnpdmgnjaa

/- A region that draws its order, 'x, y := f(..), g(..)': what it reads stays, its calls make new memory, its boxes are made and filled. -/
namespace Go.Proofs.Ytcobicnpdmgnjaa
open Go.RowKit Go.Shelf Go.Proofs.Wd
set_option linter.unusedVariables false
set_option linter.unusedSimpArgs false

/-- What an operation is: a value that is known ahead; a call; a box that is made; a box that is filled with what a call told. -/
inductive OpK where
  | pure (d : Nat) (v : Value)
  | call (d : Nat) (G : Value → World → Prop)
  | alloc (d : Nat) (cs : Array Value) (T : TypeId)
  | store (ia ic : Nat) (fl : Value → Array Value)
  | same (d j : Nat)
def OpK.dst : OpK → Option Nat
  | .pure d _ => some d
  | .call d _ => some d
  | .alloc d _ _ => some d
  | .store _ _ _ => none
  | .same d _ => some d
def OpK.val (vals : Nat → Value) (addr : Nat → Nat) (i : Nat) : OpK → Value
  | .pure _ v => v
  | .call _ _ => vals i
  | .alloc _ _ _ => .pointer (some ⟨addr i, 0, none⟩)
  | .store _ _ _ => undef
  | .same _ j => vals j
def OpK.isStore (ia : Nat) : OpK → Bool
  | .store i _ _ => i == ia
  | _ => false
/-- It hangs on these blocks alone. -/
def Dep (Bs : List Nat) (F : World → Prop) : Prop := ∀ w w' : World, (∀ k ∈ Bs, w'.heap[k]? = w.heap[k]?) → F w → F w'
def apartD (KL : List OpK) : Bool := (List.range KL.length).all fun i => (List.range KL.length).all fun j => i == j || ((KL[i]?).bind OpK.dst).isNone || ((KL[i]?).bind OpK.dst) != ((KL[j]?).bind OpK.dst)
def onlyStore (KL : List OpK) (ia i : Nat) : Bool := (List.range KL.length).all fun j => !(((KL[j]?).map (OpK.isStore ia)).getD false) || j == i
theorem len_of {α : Type} {l : List α} {i : Nat} {x : α} (h : l[i]? = some x) : i < l.length := (List.getElem?_eq_some_iff.1 h).1
theorem apartD_spec {KL : List OpK} (h : apartD KL = true) {i j : Nat} {k k' : OpK} {d : Nat} (hi : KL[i]? = some k) (hj : KL[j]? = some k') (di : k.dst = some d) (dj : k'.dst = some d) : i = j := by
  unfold apartD at h
  rw [List.all_eq_true] at h
  have h1 := h i (List.mem_range.2 (len_of hi))
  rw [List.all_eq_true] at h1
  have h2 := h1 j (List.mem_range.2 (len_of hj))
  rw [hi, hj] at h2
  simpa [di, dj] using h2
theorem onlyStore_spec {KL : List OpK} {ia i : Nat} (h : onlyStore KL ia i = true) {j ic : Nat} {fl : Value → Array Value} (hj : KL[j]? = some (.store ia ic fl)) : j = i := by
  unfold onlyStore at h
  rw [List.all_eq_true] at h
  have h1 := h j (List.mem_range.2 (len_of hj))
  rw [hj] at h1
  simpa [OpK.isStore] using h1

/-- What is known of the operations that one waits for. -/
def KnJ (a : Act) (w : World) : OpK → Prop
  | .pure d v => a.tmps[d]? = some v
  | .call d G => ∃ v, a.tmps[d]? = some v ∧ G v w
  | .alloc d _ _ => ∃ A, a.tmps[d]? = some (.pointer (some ⟨A, 0, none⟩))
  | .store _ _ _ => True
  | .same d _ => ∃ v, a.tmps[d]? = some v
def Kn (KL : List OpK) (aft : Array Edge) (a : Act) (w : World) : Prop := ∀ j k, waits aft j = true → KL[j]? = some k → KnJ a w k
theorem Kn.pure {KL : List OpK} {aft : Array Edge} {a : Act} {w : World} (h : Kn KL aft a w) (j : Nat) (d : Nat) (v : Value) (hw : waits aft j = true) (hk : KL[j]? = some (.pure d v)) : a.tmps[d]? = some v := h j _ hw hk
theorem Kn.call {KL : List OpK} {aft : Array Edge} {a : Act} {w : World} (h : Kn KL aft a w) (j : Nat) (d : Nat) (G : Value → World → Prop) (hw : waits aft j = true) (hk : KL[j]? = some (.call d G)) : ∃ v, a.tmps[d]? = some v ∧ G v w := h j _ hw hk

/-- What each operation must do. -/
def OpOK (ops : Array Oper) (Q : Exit → Act → World → Prop) (KL : List OpK) (a0 : Act) (S : World → Prop) (H : Nat) (i : Nat) (aft : Array Edge) : OpK → Prop
  | .pure d v => ∀ (a : Act) (w : World) (K : Act → World → Prop), Sl (KL.filterMap OpK.dst) a0 a → Kn KL aft a w → S w → K (a.put (some d) v) w → wpOp Try.prog ops Q i K a w
  | .call d G => ∀ (a : Act) (w : World) (K : Act → World → Prop), Sl (KL.filterMap OpK.dst) a0 a → Kn KL aft a w → S w → H ≤ w.heap.size → (∀ v w' Bs, Kp w w' → (∀ k ∈ Bs, w.heap.size ≤ k ∧ k < w'.heap.size) → Dep Bs (G v) → G v w' → K (a.put (some d) v) w') → wpOp Try.prog ops Q i K a w
  | .alloc d cs T => ∀ (a : Act) (w : World) (K : Act → World → Prop), K (a.put (some d) (.pointer (some ⟨w.heap.size, 0, none⟩))) (w.alloc (.cells cs T)) → wpOp Try.prog ops Q i K a w
  | .store ia ic fl => ∃ da cs T dc G, KL[ia]? = some (.alloc da cs T) ∧ KL[ic]? = some (.call dc G) ∧ waits aft ia = true ∧ waits aft ic = true ∧ onlyStore KL ia i = true ∧
      ∀ (a : Act) (w : World) (K : Act → World → Prop) A v, a.tmps[da]? = some (.pointer (some ⟨A, 0, none⟩)) → a.tmps[dc]? = some v → G v w → Blk A cs T w → (∀ w', Mk A w w' → Blk A (fl v) T w' → K a w') → wpOp Try.prog ops Q i K a w
  | .same d j => ∃ dj G, KL[j]? = some (.call dj G) ∧ waits aft j = true ∧ ∀ (a : Act) (w : World) (K : Act → World → Prop) v, a.tmps[dj]? = some v → K (a.put (some d) v) w → wpOp Try.prog ops Q i K a w

/-- What is known of an operation that has come up. -/
def Item (KL : List OpK) (listed : Array Bool) (vals : Nat → Value) (addr : Nat → Nat) (gs : Nat → List Nat) (H : Nat) (a : Act) (w : World) (i : Nat) : OpK → Prop
  | .pure d v => a.tmps[d]? = some v
  | .call d G => a.tmps[d]? = some (vals i) ∧ G (vals i) w ∧ Dep (gs i) (G (vals i)) ∧ ∀ k ∈ gs i, k < w.heap.size ∧ ∀ j d cs T, KL[j]? = some (.alloc d cs T) → listed.getD j false = true → addr j ≠ k
  | .alloc d cs T => a.tmps[d]? = some (.pointer (some ⟨addr i, 0, none⟩)) ∧ H ≤ addr i ∧ addr i < w.heap.size ∧ (∀ j d cs T, j ≠ i → KL[j]? = some (.alloc d cs T) → listed.getD j false = true → addr j ≠ addr i) ∧ ((∀ s ic fl, KL[s]? = some (.store i ic fl) → listed.getD s false = false) → Blk (addr i) cs T w)
  | .store ia ic fl => ∀ d cs T, KL[ia]? = some (.alloc d cs T) → listed.getD ia false = true ∧ listed.getD ic false = true ∧ Blk (addr ia) (fl (vals ic)) T w
  | .same d j => a.tmps[d]? = some (vals j) ∧ listed.getD j false = true
/-- What is known in the end. -/
def FinI (KL : List OpK) (vals : Nat → Value) (addr : Nat → Nat) (H : Nat) (w : World) (i : Nat) : OpK → Prop
  | .pure d v => True
  | .call d G => G (vals i) w
  | .alloc d cs T => H ≤ addr i ∧ addr i < w.heap.size
  | .store ia ic fl => ∀ d cs T, KL[ia]? = some (.alloc d cs T) → Blk (addr ia) (fl (vals ic)) T w
  | .same _ _ => True
def putsL (vals : Nat → Value) (addr : Nat → Nat) : Nat → List OpK → List (Nat × Value)
  | _, [] => []
  | i, k :: ks => match k.dst with
    | some d => (d, k.val vals addr i) :: putsL vals addr (i + 1) ks
    | none => putsL vals addr (i + 1) ks
theorem putsL_mem {vals : Nat → Value} {addr : Nat → Nat} : ∀ {i0 : Nat} {ks : List OpK} {p : Nat × Value}, p ∈ putsL vals addr i0 ks → ∃ (i : Nat) (k : OpK), ks[i]? = some k ∧ k.dst = some p.1 ∧ p.2 = k.val vals addr (i0 + i)
  | _, [], _, h => by cases h
  | i0, k :: ks, p, h => by
    unfold putsL at h
    cases hd : k.dst with
    | none =>
      rw [hd] at h
      obtain ⟨i, k', h1, h2, h3⟩ := putsL_mem h
      exact ⟨i + 1, k', by rw [List.getElem?_cons_succ]; exact h1, h2, by rw [h3, Nat.add_assoc, Nat.add_comm 1 i]⟩
    | some d =>
      rw [hd] at h
      rcases List.mem_cons.1 h with rfl | h
      · exact ⟨0, k, rfl, hd, rfl⟩
      · obtain ⟨i, k', h1, h2, h3⟩ := putsL_mem h
        exact ⟨i + 1, k', by rw [List.getElem?_cons_succ]; exact h1, h2, by rw [h3, Nat.add_assoc, Nat.add_comm 1 i]⟩
theorem putsL_fst {vals : Nat → Value} {addr : Nat → Nat} : ∀ (i0 : Nat) (ks : List OpK), (putsL vals addr i0 ks).map Prod.fst = ks.filterMap OpK.dst
  | _, [] => rfl
  | i0, k :: ks => by
    unfold putsL
    cases hd : k.dst with
    | none => simp [hd, putsL_fst (i0 + 1) ks]
    | some d => simp [hd, putsL_fst (i0 + 1) ks]
theorem fold_put : ∀ (l : List (Nat × Value)) (t : Array Value), (∀ p ∈ l, p.1 < t.size) → (∀ p ∈ l, ∀ q ∈ l, p.1 = q.1 → p.2 = q.2) → ∀ k, (l.foldl (fun t p => t.setIfInBounds p.1 p.2) t)[k]? = t[k]? ∧ k ∉ l.map Prod.fst ∨ ∃ p ∈ l, p.1 = k ∧ (l.foldl (fun t p => t.setIfInBounds p.1 p.2) t)[k]? = some p.2
  | [], t, _, _, k => Or.inl ⟨rfl, by simp⟩
  | p :: l, t, hs, hf, k => by
    rcases fold_put l (t.setIfInBounds p.1 p.2) (fun q hq => by rw [Array.size_setIfInBounds]; exact hs q (List.mem_cons_of_mem _ hq)) (fun q hq r hr => hf q (List.mem_cons_of_mem _ hq) r (List.mem_cons_of_mem _ hr)) k with ⟨h1, h2⟩ | ⟨q, hq, e, h⟩
    · by_cases hk : p.1 = k
      · refine Or.inr ⟨p, List.mem_cons_self, hk, ?_⟩
        show (l.foldl _ (t.setIfInBounds p.1 p.2))[k]? = _
        rw [h1, ← hk, Array.getElem?_setIfInBounds_self_of_lt (hs p List.mem_cons_self)]
      · refine Or.inl ⟨?_, ?_⟩
        · show (l.foldl _ (t.setIfInBounds p.1 p.2))[k]? = _
          rw [h1, Array.getElem?_setIfInBounds_ne hk]
        · simp only [List.map_cons, List.mem_cons, not_or]
          exact ⟨fun e => hk e.symm, h2⟩
    · exact Or.inr ⟨q, List.mem_cons_of_mem _ hq, e, h⟩

theorem count_set : ∀ (l : List Bool) (i : Nat), l[i]? = some false → (l.set i true).count false + 1 = l.count false
  | [], _, h => by simp at h
  | b :: l, 0, h => by
    simp at h
    subst h
    simp
  | b :: l, i + 1, h => by
    have ih := count_set l i (by simpa using h)
    cases b <;> simp [List.count_cons] <;> omega
theorem count_zero {l : List Bool} (h : l.count false = 0) {i : Nat} {b : Bool} (hi : l[i]? = some b) : b = true := by
  cases b with
  | true => rfl
  | false => exact absurd (List.mem_of_getElem? hi) (List.count_eq_zero.1 h)
theorem getD_ne {l : Array Bool} {i j : Nat} {b : Bool} (h : i ≠ j) : (l.setIfInBounds i true).getD j b = l.getD j b := by
  rw [Array.getD_eq_getD_getElem?, Array.getD_eq_getD_getElem?, Array.getElem?_setIfInBounds_ne h]

def JM (KL : List OpK) (a0 : Act) (S : World → Prop) (H : Nat) (n : Nat) (listed : Array Bool) (a : Act) (w : World) : Prop :=
  listed.size = KL.length ∧ n = listed.toList.count false ∧ Sl (KL.filterMap OpK.dst) a0 a ∧ S w ∧ H ≤ w.heap.size ∧ ∃ vals addr gs, ∀ i k, KL[i]? = some k → listed.getD i false = true → Item KL listed vals addr gs H a w i k

theorem mem_dst {KL : List OpK} {i d : Nat} {k : OpK} (h : KL[i]? = some k) (hd : k.dst = some d) : d ∈ KL.filterMap OpK.dst := List.mem_filterMap.2 ⟨k, List.mem_of_getElem? h, hd⟩
theorem Item.kn {KL : List OpK} {listed : Array Bool} {vals : Nat → Value} {addr : Nat → Nat} {gs : Nat → List Nat} {H : Nat} {a : Act} {w : World} {i : Nat} {k : OpK} (h : Item KL listed vals addr gs H a w i k) : KnJ a w k := by
  cases k with
  | pure d v => exact h
  | call d G => exact ⟨_, h.1, h.2.1⟩
  | alloc d cs T => exact ⟨_, h.1⟩
  | store ia ic fl => trivial
  | same d j => exact ⟨_, h.1⟩

/-- The world has grown: what is known of the others stays. -/
theorem Item.grow {KL : List OpK} {listed : Array Bool} {vals : Nat → Value} {addr : Nat → Nat} {gs : Nat → List Nat} {H : Nat} {a : Act} {w w' : World} {i j d : Nat} {k : OpK} {v : Value} {vals' : Nat → Value} {addr' : Nat → Nat} {gs' : Nat → List Nat} {ki : OpK} (hd : apartD KL = true)
    (hi : KL[i]? = some ki) (hdi : ki.dst = some d) (hl : listed.getD i true = false) (kk : Kp w w')
    (ev : ∀ x, x ≠ i → vals' x = vals x) (ea : ∀ x, x ≠ i → addr' x = addr x) (eg : ∀ x, x ≠ i → gs' x = gs x) (ei : ∀ d cs T, ki = .alloc d cs T → w.heap.size ≤ addr' i)
    (hj : KL[j]? = some k) (hji : j ≠ i) (hlj : listed.getD j false = true) (h : Item KL listed vals addr gs H a w j k) :
    Item KL (listed.setIfInBounds i true) vals' addr' gs' H (a.put (some d) v) w' j k := by
  have ne : ∀ d', k.dst = some d' → d ≠ d' := fun d' e e' => hji (apartD_spec hd hj hi e (by rw [hdi, e']))
  have li : listed.getD i false = false := by
    cases hx : listed.getD i false with
    | false => rfl
    | true =>
      rw [Array.getD_eq_getD_getElem?] at hx hl
      cases he : listed[i]? with
      | none => rw [he] at hx; cases hx
      | some b => rw [he] at hx hl; simp at hx hl; rw [hx] at hl; cases hl
  cases k with
  | pure d' v' => exact (put_ne (ne d' rfl)).trans h
  | call d' G =>
    obtain ⟨h1, h2, h3, h4⟩ := h
    show _ ∧ _ ∧ _ ∧ _
    rw [ev j hji, eg j hji]
    refine ⟨(put_ne (ne d' rfl)).trans h1, h3 w w' (fun x hx => kk.2.2.1 x (h4 x hx).1) h2, h3, fun x hx => ⟨Nat.lt_of_lt_of_le (h4 x hx).1 kk.2.2.2, fun m d1 cs T hm hml => ?_⟩⟩
    by_cases hmi : m = i
    · subst hmi
      rw [hi] at hm
      have := ei d1 cs T (Option.some.inj hm)
      have := (h4 x hx).1
      omega
    · rw [ea m hmi]
      exact (h4 x hx).2 m d1 cs T hm (by rwa [getD_ne (Ne.symm hmi)] at hml)
  | alloc d' cs T =>
    obtain ⟨h1, h2, h3, h4, h5⟩ := h
    show _ ∧ _ ∧ _ ∧ _ ∧ _
    rw [ea j hji]
    refine ⟨(put_ne (ne d' rfl)).trans h1, h2, Nat.lt_of_lt_of_le h3 kk.2.2.2, fun m d1 cs1 T1 hmj hm hml => ?_, fun hs => Blk.kp (h5 fun s ic fl hs1 => ?_) kk⟩
    · by_cases hmi : m = i
      · subst hmi
        rw [hi] at hm
        have := ei d1 cs1 T1 (Option.some.inj hm)
        omega
      · rw [ea m hmi]
        exact h4 m d1 cs1 T1 hmj hm (by rwa [getD_ne (Ne.symm hmi)] at hml)
    · by_cases hsi : s = i
      · subst hsi; exact li
      · have := hs s ic fl hs1
        rwa [getD_ne (Ne.symm hsi)] at this
  | store ia ic fl =>
    intro d1 cs T ha
    obtain ⟨h1, h2, h3⟩ := h d1 cs T ha
    have na : ia ≠ i := fun e => by rw [e, li] at h1; cases h1
    have nc : ic ≠ i := fun e => by rw [e, li] at h2; cases h2
    rw [getD_ne (Ne.symm na), getD_ne (Ne.symm nc), ea ia na, ev ic nc]
    exact ⟨h1, h2, Blk.kp h3 kk⟩
  | same d' m =>
    obtain ⟨h1, h2⟩ := h
    have nm : m ≠ i := fun e => by rw [e, li] at h2; cases h2
    show _ ∧ _
    rw [ev m nm, getD_ne (Ne.symm nm)]
    exact ⟨(put_ne (ne d' rfl)).trans h1, h2⟩

/-- A fresh block is filled: what is known of the others stays. -/
theorem Item.fill {KL : List OpK} {listed : Array Bool} {vals : Nat → Value} {addr : Nat → Nat} {gs : Nat → List Nat} {H : Nat} {a : Act} {w w' : World} {i j ia ic : Nat} {fl : Value → Array Value} {k : OpK}
    (hi : KL[i]? = some (.store ia ic fl)) (ho : onlyStore KL ia i = true) {da : Nat} {cs : Array Value} {T : TypeId} (hia : KL[ia]? = some (.alloc da cs T)) (hla : listed.getD ia false = true) (hisz : i < listed.size) (kk : Mk (addr ia) w w')
    (hst : ∀ (j ia' ic' : Nat) (fl' : Value → Array Value), KL[j]? = some (OpK.store ia' ic' fl') → ∃ (da : Nat) (cs : Array Value) (T : TypeId), KL[ia']? = some (OpK.alloc da cs T)) (hA : Item KL listed vals addr gs H a w ia (.alloc da cs T))
    (hj : KL[j]? = some k) (hji : j ≠ i) (h : Item KL listed vals addr gs H a w j k) :
    Item KL (listed.setIfInBounds i true) vals addr gs H a w' j k := by
  have nia : ∀ m d1 cs1 T1, KL[m]? = some (.alloc d1 cs1 T1) → i ≠ m := fun m d1 cs1 T1 hm e => by rw [← e, hi] at hm; cases hm
  cases k with
  | pure d' v' => exact h
  | call d' G =>
    obtain ⟨h1, h2, h3, h4⟩ := h
    refine ⟨h1, h3 w w' (fun x hx => kk.2.2.1 x (h4 x hx).1 (Ne.symm ((h4 x hx).2 ia _ _ _ hia hla))) h2, h3, fun x hx => ⟨Nat.lt_of_lt_of_le (h4 x hx).1 kk.2.2.2, fun m d1 cs T hm hml => ?_⟩⟩
    exact (h4 x hx).2 m d1 cs T hm (by rwa [getD_ne (nia _ _ _ _ hm)] at hml)
  | alloc d' cs' T' =>
    obtain ⟨h1, h2, h3, h4, h5⟩ := h
    refine ⟨h1, h2, Nat.lt_of_lt_of_le h3 kk.2.2.2, fun m d1 cs1 T1 hmj hm hml => h4 m d1 cs1 T1 hmj hm (by rwa [getD_ne (nia _ _ _ _ hm)] at hml), fun hs => ?_⟩
    by_cases hja : j = ia
    · subst hja
      have := hs i ic fl hi
      rw [Array.getD_eq_getD_getElem?, Array.getElem?_setIfInBounds_self_of_lt hisz] at this
      cases this
    · refine Blk.mk (h5 fun s ic' fl' hs1 => ?_) kk (fun e => h4 ia _ _ _ (Ne.symm hja) hia hla e.symm)
      have := hs s ic' fl' hs1
      by_cases hsi : s = i
      · subst hsi
        rw [hi] at hs1
        cases hs1
        exact absurd rfl hja
      · rwa [getD_ne (Ne.symm hsi)] at this
  | store ia' ic' fl' =>
    intro d1 cs1 T1 ha
    obtain ⟨h1, h2, h3⟩ := h d1 cs1 T1 ha
    have na : ia' ≠ ia := fun e => by
      subst e
      exact hji (onlyStore_spec ho hj)
    refine ⟨by rwa [getD_ne (nia _ _ _ _ ha)], ?_, Blk.mk h3 kk (hA.2.2.2.1 ia' _ _ _ na ha h1)⟩
    by_cases hc : i = ic'
    · subst hc
      rw [Array.getD_eq_getD_getElem?, Array.getElem?_setIfInBounds_self_of_lt hisz]
      rfl
    · rwa [getD_ne hc]
  | same d' m =>
    obtain ⟨h1, h2⟩ := h
    refine ⟨h1, ?_⟩
    by_cases hc : i = m
    · subst hc
      rw [Array.getD_eq_getD_getElem?, Array.getElem?_setIfInBounds_self_of_lt hisz]
      rfl
    · rwa [getD_ne hc]

theorem getD_false {l : Array Bool} {i : Nat} (h : l.getD i true = false) : i < l.size ∧ l[i]? = some false := by
  rw [Array.getD_eq_getD_getElem?] at h
  cases he : l[i]? with
  | none => rw [he] at h; cases h
  | some b =>
    rw [he] at h
    simp at h
    subst h
    exact ⟨(Array.getElem?_eq_some_iff.1 he).1, rfl⟩
theorem listed_cases {l : Array Bool} {i j : Nat} (h : (l.setIfInBounds i true).getD j false = true) : j = i ∨ l.getD j false = true := by
  by_cases hj : i = j
  · exact Or.inl hj.symm
  · rw [getD_ne hj] at h
    exact Or.inr h

set_option maxHeartbeats 1000000 in
theorem regM {ops : Array Oper} {Q : Exit → Act → World → Prop} {id : Nat} {a0 : Act} {w : World} (KL : List OpK) (S : World → Prop)
    (hm : Try.prog.follows .mixedOrders = true) (hs : ops.size = KL.length) (hbk : backs ops = true) (hd : apartD KL = true) (hz : ∀ d ∈ KL.filterMap OpK.dst, d < a0.tmps.size)
    (hst : ∀ (j ia' ic' : Nat) (fl' : Value → Array Value), KL[j]? = some (OpK.store ia' ic' fl') → ∃ (da : Nat) (cs : Array Value) (T : TypeId), KL[ia']? = some (OpK.alloc da cs T))
    (hop : ∀ i o k, ops[i]? = some o → KL[i]? = some k → OpOK ops Q KL a0 S w.heap.size i o.after k)
    (hS : S w.drew) (hSk : ∀ a b, Kp a b → S a → S b) (hSm : ∀ A a b, w.heap.size ≤ A → Mk A a b → S a → S b)
    (fin : ∀ (vals : Nat → Value) (addr : Nat → Nat) (w' : World), S w' → w.heap.size ≤ w'.heap.size → (∀ i k, KL[i]? = some k → FinI KL vals addr w.heap.size w' i k) →
      Q .normal ⟨(putsL vals addr 0 KL).foldl (fun t p => t.setIfInBounds p.1 p.2) a0.tmps, a0.defers⟩ w') :
    (Code.region id ops true).wp Try.prog Q a0 w := by
  refine wp_region_any hm ?_
  refine wpAny_inv (JM KL a0 S w.heap.size) ?_ ?_ ops.size _ _ _ ?_
  · rintro listed a w1 ⟨j1, j2, sl, hx, hH, vals, addr, gs, it⟩
    have all : ∀ i k, KL[i]? = some k → listed.getD i false = true := fun i k hk => by
      have hi : i < listed.size := by rw [j1]; exact len_of hk
      have e : listed.toList[i]? = some listed[i] := by simp [hi]
      rw [Array.getD_eq_getD_getElem?, Array.getElem?_eq_getElem hi]
      exact count_zero j2.symm e
    refine ⟨?_, ?_⟩
    · apply List.eq_nil_iff_forall_not_mem.2
      intro i hi
      obtain ⟨h1, h2, _⟩ := ready_mem hi
      obtain ⟨hi', h3⟩ := getD_false h2
      have h4 := all i KL[i] (by rw [List.getElem?_eq_getElem])
      rw [Array.getD_eq_getD_getElem?, h3] at h4
      cases h4
    · have ea : a = ⟨(putsL vals addr 0 KL).foldl (fun t p => t.setIfInBounds p.1 p.2) a0.tmps, a0.defers⟩ := by
        obtain ⟨t, df⟩ := a
        obtain ⟨s1, s2, s3⟩ := sl
        have ed : df = a0.defers := s1
        subst ed
        congr 1
        apply Array.ext_getElem?
        intro x
        rcases fold_put (putsL vals addr 0 KL) a0.tmps (fun p hp => hz _ (by rw [← putsL_fst (vals := vals) (addr := addr) 0 KL]; exact List.mem_map_of_mem hp)) (fun p hp q hq e => by
          obtain ⟨i, k, h1, h2, h3⟩ := putsL_mem hp
          obtain ⟨i', k', h1', h2', h3'⟩ := putsL_mem hq
          obtain rfl := apartD_spec hd h1 h1' h2 (by rw [h2', e])
          rw [h1] at h1'
          cases h1'
          rw [h3, h3']) x with ⟨h1, h2⟩ | ⟨p, hp, rfl, h⟩
        · rw [h1]
          rw [putsL_fst] at h2
          exact s3 x h2
        · rw [h]
          obtain ⟨i, k, h1, h2, h3⟩ := putsL_mem hp
          have I := it i k h1 (all i k h1)
          rw [h3, Nat.zero_add]
          cases k with
          | pure d v => cases h2; exact I
          | call d G => cases h2; exact I.1
          | alloc d cs T => cases h2; exact I.1
          | store ia ic fl => cases h2
          | same d j => cases h2; exact I.1
      rw [ea]
      refine fin vals addr w1 hx hH fun i k hk => ?_
      have I := it i k hk (all i k hk)
      cases k with
      | pure d v => trivial
      | call d G => exact I.2.1
      | alloc d cs T => exact ⟨I.2.1, I.2.2.1⟩
      | store ia ic fl => exact fun d cs T ha => (I d cs T ha).2.2
      | same d j => trivial
  · rintro n listed a w1 ⟨j1, j2, sl, hx, hH, vals, addr, gs, it⟩
    refine ⟨?_, fun i hi => ?_⟩
    · have : ∃ i : Nat, listed.toList[i]? = some false := by
        have : false ∈ listed.toList := List.count_pos_iff.1 (by omega)
        exact List.mem_iff_getElem?.1 this
      obtain ⟨i, hi⟩ := this
      have hi' : listed[i]? = some false := by simpa using hi
      have hlt := (Array.getElem?_eq_some_iff.1 hi').1
      exact ready_ne hbk (by rw [hs, j1]) i i (Nat.le_refl _) (by omega) (by rw [Array.getD_eq_getD_getElem?, hi']; rfl)
    · obtain ⟨hi1, hl, hwt⟩ := ready_mem hi
      obtain ⟨hisz, hlf⟩ := getD_false hl
      obtain ⟨o, ho⟩ : ∃ o, ops[i]? = some o := ⟨ops[i], by simp [hi1]⟩
      obtain ⟨k, hk⟩ : ∃ k, KL[i]? = some k := ⟨KL[i], by rw [List.getElem?_eq_getElem]⟩
      have hok := hop i o k ho hk
      have kn : Kn KL o.after a w1 := fun j kj hw hkj => (it j kj hkj (ready_waits hi ho hw)).kn
      have hcount : n = (listed.setIfInBounds i true).toList.count false := by
        have := count_set listed.toList i (by simpa using hlf)
        rw [Array.toList_setIfInBounds]
        omega
      have hsz' : (listed.setIfInBounds i true).size = KL.length := by rw [Array.size_setIfInBounds, j1]
      have lnot : ∀ j, listed.getD j false = true → j ≠ i := fun j hj e => by
        subst e
        rw [Array.getD_eq_getD_getElem?, hlf] at hj
        cases hj
      cases k with
      | pure d v =>
        refine hok a w1 _ sl kn hx ⟨hsz', hcount, sl.put _ _ (mem_dst hk rfl), hx, hH, vals, addr, gs, fun j kj hkj hlj => ?_⟩
        by_cases hji : j = i
        · subst hji
          rw [hk] at hkj
          cases hkj
          exact put_same (by rw [sl.2.1]; exact hz _ (mem_dst hk rfl))
        · have hlj' := (listed_cases hlj).resolve_left hji
          exact (it j kj hkj hlj').grow hd hk rfl hl (Kp.refl _) (fun _ _ => rfl) (fun _ _ => rfl) (fun _ _ => rfl) (fun _ _ _ e => by cases e) hkj hji hlj'
      | call d G =>
        refine hok a w1 _ sl kn hx hH fun v w2 Bs kk hB hdep hG => ⟨hsz', hcount, sl.put _ _ (mem_dst hk rfl), hSk _ _ kk hx, Nat.le_trans hH kk.2.2.2, fun x => if x = i then v else vals x, addr, fun x => if x = i then Bs else gs x, fun j kj hkj hlj => ?_⟩
        by_cases hji : j = i
        · subst hji
          rw [hk] at hkj
          cases hkj
          show _ ∧ _ ∧ _ ∧ _
          simp only [if_pos]
          refine ⟨put_same (by rw [sl.2.1]; exact hz _ (mem_dst hk rfl)), hG, hdep, fun x hx => ⟨(hB x hx).2, fun m d1 cs T hm hml => ?_⟩⟩
          have hmi : m ≠ j := fun e => by subst e; rw [hk] at hm; cases hm
          have hml' := (listed_cases hml).resolve_left hmi
          have := (it m _ hm hml').2.2.1
          have := (hB x hx).1
          omega
        · have hlj' := (listed_cases hlj).resolve_left hji
          exact (it j kj hkj hlj').grow hd hk rfl hl kk (fun x hx => if_neg hx) (fun _ _ => rfl) (fun x hx => if_neg hx) (fun _ _ _ e => by cases e) hkj hji hlj'
      | alloc d cs T =>
        have kk : Kp w1 (w1.alloc (.cells cs T)) := (Kp.refl _).alloc _ _
        refine hok a w1 _ ⟨hsz', hcount, sl.put _ _ (mem_dst hk rfl), hSk _ _ kk hx, Nat.le_trans hH kk.2.2.2, vals, fun x => if x = i then w1.heap.size else addr x, gs, fun j kj hkj hlj => ?_⟩
        by_cases hji : j = i
        · subst hji
          rw [hk] at hkj
          cases hkj
          show _ ∧ _ ∧ _ ∧ _ ∧ _
          simp only [if_pos]
          refine ⟨put_same (by rw [sl.2.1]; exact hz _ (mem_dst hk rfl)), hH, by simp, fun m d1 cs1 T1 hmj hm hml => ?_, fun _ => Blk.new w1 _ _⟩
          rw [if_neg hmj]
          have := (it m _ hm ((listed_cases hml).resolve_left hmj)).2.2.1
          omega
        · have hlj' := (listed_cases hlj).resolve_left hji
          exact (it j kj hkj hlj').grow hd hk rfl hl kk (fun _ _ => rfl) (fun x hx => if_neg hx) (fun _ _ => rfl) (fun _ _ _ e => by rw [if_pos rfl]; exact Nat.le_refl _) hkj hji hlj'
      | store ia ic fl =>
        obtain ⟨da, cs, T, dc, G, h1, h2, w1', w2', h5, h6⟩ := hok
        have la := ready_waits hi ho w1'
        have lc := ready_waits hi ho w2'
        have Ia := it ia _ h1 la
        have Ic := it ic _ h2 lc
        refine h6 a w1 _ (addr ia) (vals ic) Ia.1 Ic.1 Ic.2.1 (Ia.2.2.2.2 fun s ic' fl' hs1 => ?_) fun w2 mk bl => ⟨hsz', hcount, sl, hSm _ _ _ Ia.2.1 mk hx, Nat.le_trans hH mk.2.2.2, vals, addr, gs, fun j kj hkj hlj => ?_⟩
        · obtain rfl := onlyStore_spec h5 hs1
          rw [Array.getD_eq_getD_getElem?, hlf]; rfl
        · by_cases hji : j = i
          · subst hji
            rw [hk] at hkj
            cases hkj
            intro d1 cs1 T1 ha
            rw [h1] at ha
            cases ha
            exact ⟨by rw [getD_ne (Ne.symm (lnot _ la))]; exact la, by rw [getD_ne (Ne.symm (lnot _ lc))]; exact lc, bl⟩
          · have hlj' := (listed_cases hlj).resolve_left hji
            exact Item.fill hk h5 h1 la hisz mk hst Ia hkj hji (it j kj hkj hlj')
      | same d m =>
        obtain ⟨dm, G, h1, w1', h6⟩ := hok
        have lm := ready_waits hi ho w1'
        have Im := it m _ h1 lm
        refine h6 a w1 _ (vals m) Im.1 ⟨hsz', hcount, sl.put _ _ (mem_dst hk rfl), hx, hH, vals, addr, gs, fun j kj hkj hlj => ?_⟩
        by_cases hji : j = i
        · subst hji
          rw [hk] at hkj
          cases hkj
          exact ⟨put_same (by rw [sl.2.1]; exact hz _ (mem_dst hk rfl)), by rw [getD_ne (Ne.symm (lnot _ lm))]; exact lm⟩
        · have hlj' := (listed_cases hlj).resolve_left hji
          exact (it j kj hkj hlj').grow hd hk rfl hl (Kp.refl _) (fun _ _ => rfl) (fun _ _ => rfl) (fun _ _ => rfl) (fun _ _ _ e => by cases e) hkj hji hlj'
  · refine ⟨by rw [Array.size_replicate, hs], by simp, Sl.refl _ _, hS, Nat.le_refl _, fun _ => undef, fun _ => 0, fun _ => [], fun i k hk hl => ?_⟩
    rw [Array.getD_eq_getD_getElem?] at hl
    by_cases hi : i < ops.size
    · simp [hi] at hl
    · simp [hi] at hl

end Go.Proofs.Ytcobicnpdmgnjaa

/- OverInts over what a call made; a law's state beside it. -/
namespace Go.Proofs.Ytcobicnpdmgnjaa
open Go.RowKit Go.Shelf Go.Proofs.Wd
set_option linter.unusedVariables false
set_option linter.unusedSimpArgs false

theorem Own.set {B len : Nat} {Z : Nat → Int} {w : World} (h : Own B len Z w) (k : Nat) (v : Int) : Own B len (fun i => if i = k then v else Z i) (w.setCell ⟨B, k, none⟩ (.int .i64 v)) := by
  obtain ⟨cur, h1, h2⟩ := h
  refine ⟨_, Blk.set h1 k _, fun i hi => ?_⟩
  have e := h2 i hi
  have hs := (Array.getElem?_eq_some_iff.1 e).1
  rw [Array.getElem?_setIfInBounds]
  by_cases hk : k = i
  · rw [if_pos hk, if_pos (by omega)]
    show _ = some (Value.int .i64 (if i = k then v else Z i))
    rw [if_pos hk.symm]
  · rw [if_neg hk, e]
    show _ = some (Value.int .i64 (if i = k then v else Z i))
    rw [if_neg (fun e => hk e.symm)]
def OvJ (B : Nat) (ao : Option Addr) (len : Nat) (w wr : World) : Prop := Mod B w wr ∧ (len = 0 ∨ (ao = some ⟨B, 0, none⟩ ∧ ∃ Y, Own B len Y wr))
set_option maxHeartbeats 1000000 in
theorem kitOverI (B : Nat) (ao : Option Addr) (len cap : Nat) (X : Nat → Int) (hl : len ≤ 1000000) (w : World) (hA : len = 0 ∨ (ao = some ⟨B, 0, none⟩ ∧ Own B len X w)) :
    Calls Try.prog 24 #[.slice ao len cap] w fun e w' => e = .returned (.tuple #[]) ∧ Mod B w w' := by
  have HA := hide hA
  clear hA
  go_enter Try.func24, Try.ntmps24
  go_wp2
  go_loopw [2] (fun i wr => ∃ k : Nat, k ≤ len ∧ i = .int .i64 k ∧ Hid (OvJ B ao len w wr)) (fun i _ => len - (intOf i).toNat)
  case atStart => exact ⟨0, Nat.zero_le _, rfl, Mod.refl _ _, (unhide HA).imp id fun h => ⟨h.1, X, h.2⟩⟩
  case round =>
    obtain ⟨k, hk, rfl, HI⟩ := hrel
    by_cases hlt : k < len
    · obtain ⟨i1, i2⟩ := unhide HI
      rcases i2 with i2 | ⟨e1, Y, i2⟩
      · omega
      · subst e1
        have hc : wr.cell? ⟨B, k, none⟩ = some (.int .i64 (Y k)) := by obtain ⟨cur, b1, b2⟩ := i2; rw [Blk.cell b1, b2 k hlt]
        have hfz : wr.frozen? ⟨B, k, none⟩ = false := by obtain ⟨cur, b1, b2⟩ := i2; exact Blk.free b1 k
        have R : Hid (OvJ B (some ⟨B, 0, none⟩) len w (wr.setCell ⟨B, k, none⟩ (.int .i64 (-77)))) :=
          ⟨i1.setCell _ _, Or.inr ⟨rfl, _, Own.set i2 k _⟩⟩
        clear i1 i2 HI HA
        go_wp2
        go_roundw
        case rel => exact ⟨k + 1, by omega, by go_num, R⟩
        case measure => simp [intOf]; omega
    · obtain rfl : len = k := by omega
      go_wp2
      exact bodyPost_end (v := .tuple #[]) (by simp [results, Try.results24, go_sem]) rfl ⟨rfl, (unhide HI).1⟩

/-- A block that is none of the boxes, and holds no list. -/
def OffR (b : Nat) (bx : List (Nat × Array Value)) (rows : List (Option Addr × Nat × (Nat → Int))) : Prop := (∀ x ∈ bx, x.1 ≠ b) ∧ (∀ r ∈ rows, Off b r.2.1 r.1)
section
variable {w : World} {E : List Nat} {bx : List (Nat × Array Value)} {rows : List (Option Addr × Nat × (Nat → Int))} {wx w' : World} {b : Nat}
theorem LS.fresh (h : LS w E bx rows wx) (hb : wx.heap.size ≤ b) : OffR b bx rows := ⟨fun x hx => by have := Blk.lt (h.2.2.1 x hx).1; omega, fun r hr => (h.2.2.2 r hr).1.off hb⟩
theorem LS.over (h : LS w [] bx rows wx) (m : Mk b wx w') (hw : w.heap.size ≤ b) (f : OffR b bx rows) : LS w [] bx rows w' :=
  ⟨h.1.mk m hw, fun _ h => absurd h List.not_mem_nil, fun x hx => ⟨Blk.mk (h.2.2.1 x hx).1 m (f.1 x hx), List.not_mem_nil⟩, fun r hr => ⟨(h.2.2.2 r hr).1.mk m (f.2 r hr), fun _ h => absurd h List.not_mem_nil⟩⟩
theorem Mk.fresh (m : Mk wx.heap.size wx w') : Kp wx w' := ⟨m.1, m.2.1, fun k hk => m.2.2.1 k hk (by omega), m.2.2.2⟩
theorem kitOverL {ao : Option Addr} {len cap : Nat} {Z : Nat → Int} (hl : len ≤ 1000000) (h : LS w [] bx rows wx) (o : len = 0 ∨ (ao = some ⟨b, 0, none⟩ ∧ Own b len Z wx)) (hw : w.heap.size ≤ b) (f : len = 0 ∨ OffR b bx rows) :
    Calls Try.prog 24 #[.slice ao len cap] wx fun e w' => e = .returned (.tuple #[]) ∧ LS w [] bx rows w' ∧ (∀ k cs T, (len = 0 ∨ k ≠ b) → Blk k cs T wx → Blk k cs T w') := by
  by_cases hz : len = 0
  · refine (kitOverI wx.heap.size ao len cap Z hl wx (Or.inl hz)).mono ?_
    rintro e w' ⟨rfl, m⟩
    have k := Mk.fresh (Mk.of m)
    exact ⟨rfl, h.kp k, fun _ _ _ _ hb => Blk.kp hb k⟩
  · refine (kitOverI b ao len cap Z hl wx o).mono ?_
    rintro e w' ⟨rfl, m⟩
    exact ⟨rfl, h.over (Mk.of m) hw (f.resolve_left hz), fun _ _ _ hk hb => Blk.mk hb (Mk.of m) (hk.resolve_left hz)⟩
end

end Go.Proofs.Ytcobicnpdmgnjaa

/- 'x, y := CopyMat(..), ..': the kinds of operations that such regions hold (RegM), and what stays beside them. -/
namespace Go.Proofs.Ytcobicnpdmgnjaa
open Go.RowKit Go.Shelf Go.Proofs.Wd
set_option linter.unusedVariables false
set_option linter.unusedSimpArgs false

def aggOf : Value → Array Value
  | .agg cs => cs
  | _ => #[]
/-- A matrix that was made; it lies beside all below H. -/
def GM (r c : Int) (n : Nat) (Z : Nat → Int) (H : Nat) (v : Value) (w : World) : Prop := ∃ ao cap, v = .agg #[.int .i64 r, .int .i64 c, .slice ao n cap] ∧ n ≤ cap ∧ Row w ao n Z ∧ ∀ U, U < H → Off U n ao
/-- A list that was made. -/
def GI (n : Nat) (Z : Nat → Int) (H : Nat) (v : Value) (w : World) : Prop := ∃ ao cap, v = .slice ao n cap ∧ n ≤ cap ∧ Row w ao n Z ∧ ∀ U, U < H → Off U n ao
theorem row_dep {ao : Option Addr} {n : Nat} {Z : Nat → Int} {w w' : World} (row : Row w' ao n Z) (off : ∀ U, U < w.heap.size → Off U n ao) : ∃ Bs : List Nat, (∀ k ∈ Bs, w.heap.size ≤ k ∧ k < w'.heap.size) ∧ Dep Bs (fun wx => Row wx ao n Z) := by
  by_cases hn : n = 0
  · exact ⟨[], fun _ h => absurd h List.not_mem_nil, fun _ _ _ _ => Or.inl hn⟩
  · rcases row with h0 | ⟨b, o, rfl, hc⟩
    · exact absurd h0 hn
    · refine ⟨[b], fun k hk => ?_, fun w1 w2 he h => ?_⟩
      · rcases List.mem_singleton.1 hk with rfl
        refine ⟨Nat.le_of_not_lt fun hlt => off k hlt (by omega) _ rfl rfl, heap_gt (hc 0 (by omega))⟩
      · rcases h with h0 | ⟨b', o', e, hc'⟩
        · exact absurd h0 hn
        · cases e
          exact Or.inr ⟨b, o, rfl, fun i hi => (World.cell?_of_block (he b (by simp))).trans (hc' i hi)⟩
theorem copyM_dep {r c : Int} {n H : Nat} {Z : Nat → Int} {w w' : World} {e : Ending} (h : CopyM r c n Z w e w') (hH : H ≤ w.heap.size) : ∃ v Bs, e = .returned v ∧ Kp w w' ∧ (∀ k ∈ Bs, w.heap.size ≤ k ∧ k < w'.heap.size) ∧ Dep Bs (GM r c n Z H v) ∧ GM r c n Z H v w' := by
  obtain ⟨ao, cap, rfl, hc, row, off, kp⟩ := h
  obtain ⟨Bs, h1, h2⟩ := row_dep row off
  refine ⟨_, Bs, rfl, kp, h1, fun w1 w2 he hg => ?_, ao, cap, rfl, hc, row, fun U hU => off U (by omega)⟩
  obtain ⟨ao', cap', e, h3, h4, h5⟩ := hg
  cases e
  exact ⟨ao, cap, rfl, h3, h2 w1 w2 he h4, h5⟩
theorem copyQ_dep {n H : Nat} {Z : Nat → Int} {w w' : World} {e : Ending} (h : CopyQ n Z w e w') (hH : H ≤ w.heap.size) : ∃ v Bs, e = .returned v ∧ Kp w w' ∧ (∀ k ∈ Bs, w.heap.size ≤ k ∧ k < w'.heap.size) ∧ Dep Bs (GI n Z H v) ∧ GI n Z H v w' := by
  obtain ⟨ao, cap, rfl, hc, row, off, kp⟩ := h
  obtain ⟨Bs, h1, h2⟩ := row_dep row off
  refine ⟨_, Bs, rfl, kp, h1, fun w1 w2 he hg => ?_, ao, cap, rfl, hc, row, fun U hU => off U (by omega)⟩
  obtain ⟨ao', cap', e, h3, h4, h5⟩ := hg
  cases e
  exact ⟨ao, cap, rfl, h3, h2 w1 w2 he h4, h5⟩

section
variable {ops : Array Oper} {Q : Exit → Act → World → Prop} {KL : List OpK} {a0 : Act} {S : World → Prop} {H i d k j : Nat} {T : TypeId} {pos : String} {aft : Array Edge}
theorem okLoad {B : Nat} {v0 v1 v2 : Value} (hi : ops[i]? = some ⟨some d, .load 24 (.tmp k), T, pos, aft, none⟩) (hk : (KL.filterMap OpK.dst).contains k = false) (g : a0.tmps[k]? = some (.pointer (some ⟨B, 0, none⟩))) (hb : ∀ w, S w → Blk B #[v0, v1, v2] 24 w) : OpOK ops Q KL a0 S H i aft (.pure d (.agg #[v0, v1, v2])) :=
  fun a w K sl kn hs h => wpOp_load hi ((sl.2.2 k (by simpa using hk)).trans g) (hb w hs) h
theorem okMove {v : Value} (hi : ops[i]? = some ⟨some d, .move (.tmp k), T, pos, aft, none⟩) (hk : (KL.filterMap OpK.dst).contains k = false) (g : a0.tmps[k]? = some v) : OpOK ops Q KL a0 S H i aft (.pure d v) := by
  intro a w K sl kn hs h
  refine wpOp_of hi rfl ?_
  have ev := (sl.2.2 k (by simpa using hk)).trans g
  unfold Oper.wp
  simp [go_sem, ev]
  exact h
theorem okCall1 {f dj : Nat} {vj : Value} {T1 : TypeId} {G : Value → World → Prop} (hi : ops[i]? = some ⟨some d, .call ⟨.value (.func f), #[.tmp dj], #[T1]⟩, T, pos, aft, none⟩) (hj : KL[j]? = some (.pure dj vj)) (hw : waits aft j = true) (hf : ∀ w, Sem.run Try.prog (callFunc f #[vj]) w = .ok (.enter f #[vj]) w)
    (hc : ∀ w, S w → H ≤ w.heap.size → Calls Try.prog f #[vj] w fun e w' => ∃ v Bs, e = .returned v ∧ Kp w w' ∧ (∀ k ∈ Bs, w.heap.size ≤ k ∧ k < w'.heap.size) ∧ Dep Bs (G v) ∧ G v w') : OpOK ops Q KL a0 S H i aft (.call d G) := by
  intro a w K sl kn hs hH h
  refine wpOp_of hi rfl ?_
  have ev := kn.pure j dj vj hw hj
  unfold Oper.wp
  simp [go_sem, ev, hf]
  refine (hc w hs hH).mono ?_
  rintro e w' ⟨v, Bs, rfl, h1, h2, h3, h4⟩
  exact h v w' Bs h1 h2 h3 h4
theorem okAlloc (hi : ops[i]? = some ⟨some d, .alloc 24, T, pos, aft, none⟩) : OpOK ops Q KL a0 S H i aft (.alloc d #[.int .i64 0, .int .i64 0, .slice none 0 0] 24) :=
  fun a w K h => wpOp_alloc hi h
theorem okStore {da dc ia ic : Nat} {r c : Int} {n H' : Nat} {Z : Nat → Int} (hi : ops[i]? = some ⟨none, .store 24 (.tmp da) (.tmp dc), T, pos, aft, none⟩) (h1 : KL[ia]? = some (.alloc da #[.int .i64 0, .int .i64 0, .slice none 0 0] 24)) (h2 : KL[ic]? = some (.call dc (GM r c n Z H'))) (w1 : waits aft ia = true) (w2 : waits aft ic = true) (ho : onlyStore KL ia i = true) : OpOK ops Q KL a0 S H i aft (.store ia ic aggOf) := by
  refine ⟨_, _, _, _, _, h1, h2, w1, w2, ho, fun a w K A v ha hv hG hB h => ?_⟩
  obtain ⟨ao, cap, rfl, _⟩ := hG
  exact wpOp_store hi ha hv hB fun w' m b => h w' (Mk.of m) b
theorem okSame {dj : Nat} {G : Value → World → Prop} (hi : ops[i]? = some ⟨some d, .assign (.tmp dj), T, pos, aft, none⟩) (hj : KL[j]? = some (.call dj G)) (hw : waits aft j = true) : OpOK ops Q KL a0 S H i aft (.same d j) := by
  refine ⟨_, _, hj, hw, fun a w K v hv h => ?_⟩
  refine wpOp_of hi rfl ?_
  unfold Oper.wp
  simp [go_sem, hv]
  exact h
end

/-- Each operation of a region, one behind the other. -/
def OpsOK (ops : Array Oper) (Q : Exit → Act → World → Prop) (KL : List OpK) (a0 : Act) (S : World → Prop) (H : Nat) : Nat → List Oper → List OpK → Prop
  | _, [], _ => True
  | _, _ :: _, [] => False
  | i, o :: os, k :: ks => OpOK ops Q KL a0 S H i o.after k ∧ OpsOK ops Q KL a0 S H (i + 1) os ks
theorem OpsOK.hop {ops : Array Oper} {Q : Exit → Act → World → Prop} {KL : List OpK} {a0 : Act} {S : World → Prop} {H : Nat} : ∀ {i0 : Nat} {os : List Oper} {ks : List OpK}, OpsOK ops Q KL a0 S H i0 os ks → ∀ (i : Nat) (o : Oper) (k : OpK), os[i]? = some o → ks[i]? = some k → OpOK ops Q KL a0 S H (i0 + i) o.after k
  | _, [], _, _, i, o, k, ho, _ => by simp at ho
  | _, _ :: _, [], h, _, _, _, _, _ => h.elim
  | i0, o' :: os, k' :: ks, h, 0, o, k, ho, hk => by
    simp at ho hk
    subst ho hk
    exact h.1
  | i0, o' :: os, k' :: ks, h, i + 1, o, k, ho, hk => by
    have := OpsOK.hop h.2 i o k (by simpa using ho) (by simpa using hk)
    rwa [show i0 + (i + 1) = i0 + 1 + i from by omega]
theorem regN {ops : Array Oper} {Q : Exit → Act → World → Prop} {id : Nat} {a0 : Act} {w : World} (KL : List OpK) (S : World → Prop)
    (hm : Try.prog.follows .mixedOrders = true) (hs : ops.size = KL.length) (hbk : backs ops = true) (hd : apartD KL = true) (hz : (KL.filterMap OpK.dst).all (fun d => decide (d < a0.tmps.size)) = true)
    (hst : KL.all (fun k => match k with | .store ia _ _ => (match KL[ia]? with | some (.alloc _ _ _) => true | _ => false) | _ => true) = true)
    (hop : OpsOK ops Q KL a0 S w.heap.size 0 ops.toList KL)
    (hS : S w.drew) (hSk : ∀ a b, Kp a b → S a → S b) (hSm : ∀ A a b, w.heap.size ≤ A → Mk A a b → S a → S b)
    (fin : ∀ (vals : Nat → Value) (addr : Nat → Nat) (w' : World), S w' → w.heap.size ≤ w'.heap.size → (∀ i k, KL[i]? = some k → FinI KL vals addr w.heap.size w' i k) →
      Q .normal ⟨(putsL vals addr 0 KL).foldl (fun t p => t.setIfInBounds p.1 p.2) a0.tmps, a0.defers⟩ w') :
    (Code.region id ops true).wp Try.prog Q a0 w := by
  refine regM KL S hm hs hbk hd (fun d hd => by simpa using List.all_eq_true.1 hz d hd) (fun j ia ic fl hj => ?_) (fun i o k ho hk => ?_) hS hSk hSm fin
  · have h := List.all_eq_true.1 hst _ (List.mem_of_getElem? hj)
    simp only at h
    cases hk : KL[ia]? with
    | none => rw [hk] at h; cases h
    | some k =>
      rw [hk] at h
      cases k with
      | alloc d cs T => exact ⟨d, cs, T, rfl⟩
      | pure _ _ => cases h
      | call _ _ => cases h
      | store _ _ _ => cases h
      | same _ _ => cases h
  · have := hop.hop i o k (by simpa using ho) hk
    rwa [Nat.zero_add] at this

/-- What stays beside: boxes and lists, and X. -/
def SL (H : Nat) (w0 : World) (E : List Nat) (bx : List (Nat × Array Value)) (rows : List (Option Addr × Nat × (Nat → Int))) (X : World → Prop) (wx : World) : Prop :=
  LS w0 E bx rows wx ∧ X wx ∧ (∀ A, H ≤ A → OffR A bx rows) ∧ (∀ e ∈ E, e < H) ∧ w0.heap.size ≤ H
section
variable {w0 a b : World} {E : List Nat} {bx : List (Nat × Array Value)} {rows : List (Option Addr × Nat × (Nat → Int))} {X : World → Prop} {H A : Nat}
theorem LS.mkOff (h : LS w0 E bx rows a) (m : Mk A a b) (hw : w0.heap.size ≤ A) (f : OffR A bx rows) : LS w0 E bx rows b :=
  ⟨h.1.mk m hw, fun e he => ⟨(h.2.1 e he).1, Nat.lt_of_lt_of_le (h.2.1 e he).2 m.2.2.2⟩, fun x hx => ⟨Blk.mk (h.2.2.1 x hx).1 m (f.1 x hx), (h.2.2.1 x hx).2⟩, fun r hr => ⟨(h.2.2.2 r hr).1.mk m (f.2 r hr), (h.2.2.2 r hr).2⟩⟩
theorem SL.of (h : LS w0 E bx rows a) (hx : X a) : SL a.heap.size w0 E bx rows X a := ⟨h, hx, fun A hA => h.fresh hA, fun e he => (h.2.1 e he).2, h.1.2.2.2⟩
theorem SL.kp (hX : ∀ a b, Kp a b → X a → X b) (k : Kp a b) (h : SL H w0 E bx rows X a) : SL H w0 E bx rows X b := ⟨h.1.kp k, hX a b k h.2.1, h.2.2⟩
theorem SL.mk (hX : ∀ A a b, H ≤ A → Mk A a b → X a → X b) (hA : H ≤ A) (m : Mk A a b) (h : SL H w0 E bx rows X a) : SL H w0 E bx rows X b := ⟨h.1.mkOff m (Nat.le_trans h.2.2.2.2 hA) (h.2.2.1 A hA), hX A a b hA m h.2.1, h.2.2⟩
theorem LS.boxA {cs : Array Value} (h : LS w0 E bx rows a) (hb : Blk A cs 24 a) (hA : A ∉ E) : LS w0 E ((A, cs) :: bx) rows a :=
  ⟨h.1, h.2.1, fun x hx => by
    rcases List.mem_cons.1 hx with rfl | hx
    · exact ⟨hb, hA⟩
    · exact h.2.2.1 x hx, h.2.2.2⟩
end

end Go.Proofs.Ytcobicnpdmgnjaa

/- The document's mat: Check, alike. -/
namespace Go.Proofs.Ytcobicnpdmgnjaa
open Go.RowKit Go.Shelf Go.Proofs.Wd
set_option linter.unusedVariables false
set_option linter.unusedSimpArgs false

/-- A matrix and an error that the document tells. -/
def DocP (r c : Int) (len : Nat) (Z : Nat → Int) (err : Int) (X : World → Prop) (w : World) (e : Ending) (w' : World) : Prop :=
  ∃ ao cap, e = .returned (.tuple #[.agg #[.int .i64 r, .int .i64 c, .slice ao len cap], .int .i64 err]) ∧ len ≤ cap ∧ Row w' ao len Z ∧ (∀ U, U < w.heap.size → Off U len ao) ∧ X w'


set_option maxHeartbeats 2000000 in
theorem refMCheck (r c : Int) (ao : Option Addr) (len cap : Nat) (w : World) : Calls Try.prog 23 #[.agg #[.int .i64 r, .int .i64 c, .slice ao len cap]] w fun e w' => e = .returned (.int .i64 (chk r c len)) ∧ Grown w w' := by
  have H : True := trivial
  by_cases h1 : r < 1
  · have E := hide (chk_bad (r := r) (c := c) (len := len) (fun h => by have := h.1; omega))
    clear H
    skip
    go_enter Try.func23, Try.ntmps23
    go_wp2
    go_ret
    exact ⟨by rw [unhide E]; rfl, (Grown.refl _).alloc _ _⟩
  by_cases h2 : 12 < r
  · have E := hide (chk_bad (r := r) (c := c) (len := len) (fun h => by have := h.1; omega))
    clear H
    have g1 : 1 ≤ r := by omega
    go_enter Try.func23, Try.ntmps23
    go_wp2
    go_ret
    exact ⟨by rw [unhide E]; rfl, (Grown.refl _).alloc _ _⟩
  by_cases h3 : c < 1
  · have E := hide (chk_bad (r := r) (c := c) (len := len) (fun h => by have := h.2.1; omega))
    clear H
    have g1 : 1 ≤ r := by omega
    have g2 : r ≤ 12 := by omega
    go_enter Try.func23, Try.ntmps23
    go_wp2
    go_ret
    exact ⟨by rw [unhide E]; rfl, (Grown.refl _).alloc _ _⟩
  by_cases h4 : 12 < c
  · have E := hide (chk_bad (r := r) (c := c) (len := len) (fun h => by have := h.2.1; omega))
    clear H
    have g1 : 1 ≤ r := by omega
    have g2 : r ≤ 12 := by omega
    have g3 : 1 ≤ c := by omega
    go_enter Try.func23, Try.ntmps23
    go_wp2
    go_ret
    exact ⟨by rw [unhide E]; rfl, (Grown.refl _).alloc _ _⟩
  have g1 : 1 ≤ r := by omega
  have g2 : r ≤ 12 := by omega
  have g3 : 1 ≤ c := by omega
  have g4 : c ≤ 12 := by omega
  have hw : wrap64 (r * c) = r * c := by
    have := mul12 r c ⟨g1, g2⟩ ⟨g3, g4⟩
    unfold wrap64
    omega
  by_cases h5 : (len : Int) = r * c
  · have E := hide (chk_ok (r := r) (c := c) (len := len) ⟨⟨g1, g2⟩, ⟨g3, g4⟩, h5⟩)
    clear H
    have b3 : ((len : Int) != r * c) = false := by simpa using h5
    have H5 := hide h5
    clear h5
    go_enter Try.func23, Try.ntmps23
    go_wp2
    go_ret
    exact ⟨by rw [unhide E]; rfl, (Grown.refl _).alloc _ _⟩
  · have E := hide (chk_bad (r := r) (c := c) (len := len) (fun h => h5 h.2.2))
    clear H
    have b3 : ((len : Int) != r * c) = true := by simpa using h5
    have H5 := hide h5
    clear h5
    go_enter Try.func23, Try.ntmps23
    go_wp2
    go_ret
    exact ⟨by rw [unhide E]; rfl, (Grown.refl _).alloc _ _⟩


end Go.Proofs.Ytcobicnpdmgnjaa

/- The document's mat: column, Row. -/
namespace Go.Proofs.Ytcobicnpdmgnjaa
open Go.RowKit Go.Shelf Go.Proofs.Wd
set_option linter.unusedVariables false
set_option linter.unusedSimpArgs false

theorem app_ownR {w : World} {base k : Nat} {v : Value} {Z : Nat → Int} {z : Int} (hz : Z k = z) (h : w.ownsRow base 3 1 v (k + 1) (intL k Z ++ [.int .i64 z])) : w.ownsRow base 3 1 v (k + 1) (intL (k + 1) Z) := by
  subst hz
  rwa [intL_succ] at h
/-- A list that is gathered beside a box. -/
def CI (w : World) (box : Array Value) (Y : Nat → Int) (j : Nat) (v : Value) (wr : World) : Prop :=
  wr.ownsRow (w.heap.size + 1) 3 1 v j (intL j Y) ∧ Blk w.heap.size box 24 wr ∧ Kp w wr ∧ w.heap.size + 1 ≤ wr.heap.size
theorem CI.app {w wr w4 : World} {box : Array Value} {Y : Nat → Int} {j : Nat} {v v' : Value} {x : Int} (h : CI w box Y j v wr) (hx : Y j = x) (hown : w4.ownsRow (w.heap.size + 1) 3 1 v' (j + 1) (intL j Y ++ [.int .i64 x])) (hg : (wr.alloc (.cells #[.int .i64 x] 3)).grownBy w4 v.ownBlock) : CI w box Y (j + 1) v' w4 := by
  obtain ⟨h1, h2, h3, h4⟩ := h
  have g : Grown wr (wr.alloc (.cells #[.int .i64 x] 3)) := (Grown.refl _).alloc _ _
  have lt := (h1.alloc (.cells #[.int .i64 x] 3)).lt
  refine ⟨app_ownR hx hown, Blk.by (Blk.grown h2 g) hg (fun e => by have := (lt _ e.symm).1; omega), (h3.grown g).by hg (fun i e => by have := (lt i e).1; omega), ?_⟩
  have := hg.size
  have := g.2.2
  omega
theorem slice_two (b o len cap l h : Nat) (hl : l < h) (hh : h ≤ cap) (w : World) : (Instr.sliceAt 22 (.slice (some ⟨b, o, none⟩) len cap) (some (.int .i64 l)) (some (.int .i64 h)) none).run Try.prog w = .ok (.slice (some ⟨b, o + l, none⟩) (h - l) (cap - l)) w := by
  have e : Try.prog.underlying 22 = some (.slice (Try.prog.elem 22)) := by kernel_rfl
  have s1 : (sizeOf (Try.prog.elem 22)).run Try.prog w = .ok 1 w := by kernel_rfl
  rw [run_sliceAt_slice w 22 _ _ _ _ e, run_slice_lh w 22 _ len cap e .i64 .i64 l h (by omega) (by omega) (by omega), s1]
  show Result.ok (sliced _ (l : Int).toNat (h : Int).toNat cap 1) w = _
  unfold sliced
  rw [Int.toNat_natCast, Int.toNat_natCast, if_neg (by omega)]
  show Result.ok (Value.slice (some ((⟨b, o, none⟩ : Addr).add (l * 1))) _ _) w = _
  rw [Go.WideShapes.add_plain, Nat.mul_one]
/-- A list and an error that the document tells. -/
def LiD (len : Nat) (Z : Nat → Int) (err : Int) (X : World → Prop) (w : World) (e : Ending) (w' : World) : Prop :=
  ∃ ao cap, e = .returned (.tuple #[.slice ao len cap, .int .i64 err]) ∧ len ≤ cap ∧ Row w' ao len Z ∧ (∀ U, U < w.heap.size → Off U len ao) ∧ X w'


set_option maxRecDepth 20000 in
set_option maxHeartbeats 4000000 in
theorem refColumn (r c k len cap b o : Nat) (Z : Nat → Int) (hr : 1 ≤ r ∧ r ≤ 12) (hc : 1 ≤ c ∧ c ≤ 12) (hk : k < c) (hl : len = r * c) (w : World) (za : ∀ i, i < len → w.cell? ⟨b, o + i, none⟩ = some (.int .i64 (Z i))) :
    Calls Try.prog 44 #[.agg #[.int .i64 r, .int .i64 c, .slice (some ⟨b, o, none⟩) len cap], .int .i64 k] w fun e w' => CopyQ r (colZ Z c k) w e w' := by
  have hlen : len ≤ 144 := by have := mul12n r c hr hc; omega
  obtain ⟨i0, hi, hz0, hz1, hz2⟩ := info_parts Try.infoInt
  obtain ⟨Y, hY⟩ : ∃ Y, Y = colZ Z c k := ⟨_, rfl⟩
  rw [← hY]
  have EY : Hid (∀ j, Y j = Z (j * c + k)) := fun j => by rw [hY]; rfl
  have HL := hide (And.intro hl (And.intro hk (And.intro hr hc)))
  have HZ := hide za
  have ST : Hid (CI w #[.int .i64 r, .int .i64 c, .slice (some ⟨b, o, none⟩) len cap] Y 0 (.slice none 0 0) (w.alloc (.cells #[.int .i64 r, .int .i64 c, .slice (some ⟨b, o, none⟩) len cap] 24))) := ⟨World.ownsRow_nil _ _ _ _, Blk.new w _ _, (Kp.refl _).alloc _ _, by simp⟩
  clear hY za hl hk hr hc
  go_enter Try.func44, Try.ntmps44
  go_wp2_with fail
  generalize w.alloc (.cells #[.int .i64 r, .int .i64 c, .slice (some ⟨b, o, none⟩) len cap] 24) = w1 at *
  go_loopw [5, 6] (fun v i wr => ∃ j : Nat, j ≤ r ∧ i = .int .i64 j ∧ Hid (CI w #[.int .i64 r, .int .i64 c, .slice (some ⟨b, o, none⟩) len cap] Y j v wr)) (fun _ i _ => r - (intOf i).toNat)
  case atStart => exact ⟨0, Nat.zero_le _, rfl, unhide ST⟩
  case round =>
    obtain ⟨j, hj, rfl, HI⟩ := hrel
    clear ST
    have y0 : wr.cell? ⟨w.heap.size, 0, none⟩ = some (.int .i64 r) := Blk.cell (unhide HI).2.1 0
    by_cases hlt : j < r
    · have y1 : wr.cell? ⟨w.heap.size, 1, none⟩ = some (.int .i64 c) := Blk.cell (unhide HI).2.1 1
      have y2 : wr.cell? ⟨w.heap.size, 2, none⟩ = some (.slice (some ⟨b, o, none⟩) len cap) := Blk.cell (unhide HI).2.1 2
      obtain ⟨m, hm⟩ : ∃ m, j * c = m := ⟨_, rfl⟩
      obtain ⟨p, hp⟩ : ∃ p, m + k = p := ⟨_, rfl⟩
      have hpl : p < len := by
        have h1 := place_in j k r c hlt (unhide HL).2.1
        rw [← (unhide HL).1, hm, hp] at h1
        exact h1
      obtain ⟨x, ex⟩ : ∃ x, Z p = x := ⟨_, rfl⟩
      have hc0 : wr.cell? ⟨b, o + p, none⟩ = some (.int .i64 x) := by rw [← ex]; exact (unhide HI).2.2.1.cell (unhide HZ p hpl)
      have EK : Hid (Y j = x) := by show Y j = x; rw [unhide EY, hm, hp, ex]
      have b0 : (0 : Int) ≤ (p : Int) := by omega
      have b1 : (p : Int) < (len : Int) := by omega
      have hj1 : j ≤ 1000000 := Nat.le_trans hj (Nat.le_trans (unhide HL).2.2.1.2 (by decide))
      have B1 : Hid (j + 1 ≤ maxLen) := by show j + 1 ≤ maxLen; unfold maxLen; omega
      have B2 : Hid ((j + 1) * 8 ≤ 140737488355328) := by show (j + 1) * 8 ≤ 140737488355328; omega
      have B3 : Hid (w.heap.size + 1 ≤ (wr.alloc (.cells #[.int .i64 x] 3)).heap.size) := by
        have := (unhide HI).2.2.2
        show _ ≤ _
        simp
        omega
      have B4 : Hid (j + 1 ≤ r) := hlt
      have hm6 : m ≤ 1000000 := by omega
      have hp6 : p ≤ 1000000 := by omega
      have wa : wrap64 ((j : Int) * (c : Int)) = (m : Int) := wrapP j c m hm hm6
      have wb : wrap64 ((m : Int) + (k : Int)) = (p : Int) := wrapA m k p hp hp6
      clear hm hp ex hpl
      go_wp2_with (at_builtin; refine wpList_append_own _ rfl _ _ 22 rfl (w.heap.size + 1) 3 i0 (.int .i64 0) 1 8 Try.underlying22 hi hz0 hz1 hz2 rfl (by decide) _ _ _ rfl ((unhide HI).1.alloc _) ⟨wr.heap.size, 0, none⟩ 1 1 [.int .i64 x] rfl rfl (news_one _ _ _) (one_cell _) (unhide B1) (unhide B2) (unhide B3) ?_; intro v' w4 hown hgrow _; have HP := hide (CI.app (unhide HI) (unhide EK) hown hgrow); clear hown hgrow wa wb)
      go_roundw
      case rel => exact ⟨j + 1, unhide B4, by go_num, HP⟩
      case measure => have := unhide B4; simp [intOf]; omega
    · obtain rfl : j = r := by omega
      obtain ⟨h0, h2, h3, h4⟩ := unhide HI
      obtain ⟨ao2, cap2, rfl, g1, g3, g4⟩ := owns_rowC h0
      have R := hide (And.intro g1 (And.intro g3 (And.intro g4 h3)))
      clear h0 h2 h3 h4 g1 g3 g4 HI
      go_wp2
      go_ret
      exact (show CopyQ _ _ _ _ _ from ⟨_, _, rfl, (unhide R).1, (unhide R).2.1, fun U hU => (unhide R).2.2.1 U (by omega), (unhide R).2.2.2⟩)

set_option maxRecDepth 20000 in
set_option maxHeartbeats 4000000 in
theorem refRow_ok (r c k len cap b o : Nat) (Z : Nat → Int) (hr : 1 ≤ r ∧ r ≤ 12) (hc : 1 ≤ c ∧ c ≤ 12) (hk : k < r) (hl : len = r * c) (hcap : len ≤ cap) (w : World) (za : ∀ i, i < len → w.cell? ⟨b, o + i, none⟩ = some (.int .i64 (Z i))) :
    Calls Try.prog 19 #[.agg #[.int .i64 r, .int .i64 c, .slice (some ⟨b, o, none⟩) len cap], .int .i64 k] w fun e w' => LiD c (rowZ Z c k) 0 (Kp w) w e w' := by
  have hlen : len ≤ 144 := by have := mul12n r c hr hc; omega
  obtain ⟨i0, hi, hz0, hz1, hz2⟩ := info_parts Try.infoInt
  have AL := hide (fun w => refMCheck r c (some ⟨b, o, none⟩) len cap w)
  rw [chk_ok ⟨by omega, by omega, by rw [hl, Int.natCast_mul]⟩] at AL
  obtain ⟨m, hm⟩ : ∃ m, k * c = m := ⟨_, rfl⟩
  obtain ⟨p, hp⟩ : ∃ p, m + c = p := ⟨_, rfl⟩
  have h2 := place_le k r c hk
  rw [← hl, hm, hp] at h2
  have SL := fun w => slice_two b o len cap m p (by omega) (by omega) w
  have dp : p - m = c := by omega
  rw [dp] at SL
  have ZA : Hid (∀ i, i < c → w.cell? ⟨b, o + m + i, none⟩ = some (.int .i64 (rowZ Z c k i))) := fun i hi => by
    rw [Nat.add_assoc, show rowZ Z c k i = Z (m + i) from by unfold rowZ; rw [hm]]
    exact za (m + i) (by omega)
  have G1 : Hid (Grown w (w.alloc (.cells #[.int .i64 r, .int .i64 c, .slice (some ⟨b, o, none⟩) len cap] 24)) ∧ Blk w.heap.size #[.int .i64 r, .int .i64 c, .slice (some ⟨b, o, none⟩) len cap] 24 (w.alloc (.cells #[.int .i64 r, .int .i64 c, .slice (some ⟨b, o, none⟩) len cap] 24))) := ⟨(Grown.refl _).alloc _ _, Blk.new w _ _⟩
  have k0 : (0 : Int) ≤ (k : Int) := by omega
  have k1 : (k : Int) < (r : Int) := by omega
  have BC : Hid (0 + c ≤ maxLen ∧ (0 + c) * 8 ≤ 140737488355328) := by show _ ∧ _; unfold maxLen; omega
  have hm6 : m ≤ 1000000 := by omega
  have hp6 : p ≤ 1000000 := by omega
  have wa : wrap64 ((k : Int) * (c : Int)) = (m : Int) := wrapP k c m hm hm6
  have wb : wrap64 ((m : Int) + (c : Int)) = (p : Int) := wrapA m c p hp hp6
  clear hm hp h2 za hl hr hc hk dp hcap
  generalize (k : Int) = ki at *
  go_enter Try.func19, Try.ntmps19
  go_wp2_with fail
  generalize w.alloc (.cells #[.int .i64 r, .int .i64 c, .slice (some ⟨b, o, none⟩) len cap] 24) = w1 at *
  refine (unhide AL _).mono ?_
  rintro e w2 ⟨rfl, g2⟩
  have y0 : w2.cell? ⟨w.heap.size, 0, none⟩ = some (.int .i64 r) := Blk.cell (Blk.grown (unhide G1).2 g2) 0
  have y1 : w2.cell? ⟨w.heap.size, 1, none⟩ = some (.int .i64 c) := Blk.cell (Blk.grown (unhide G1).2 g2) 1
  have y2 : w2.cell? ⟨w.heap.size, 2, none⟩ = some (.slice (some ⟨b, o, none⟩) len cap) := Blk.cell (Blk.grown (unhide G1).2 g2) 2
  have GG := hide (gtrans (unhide G1).1 g2)
  have hz : w.heap.size < w2.heap.size := heap_gt y0
  have OM := hide (World.ownsRow_made (base := w2.heap.size) (e := 3) (size := 1) w2 #[] 0 (Nat.le_refl _) (Nat.zero_le _) (by simp))
  have NEWH : Hid (∀ j u, ((List.range c).map fun i => Value.int .i64 (rowZ Z c k i))[j]? = some u → (w2.alloc (.cells #[] 3)).cell? ((⟨b, o + m, none⟩ : Addr).add j) = some u) := by
    intro j u hu
    rw [List.getElem?_map] at hu
    by_cases hj : j < c
    · rw [List.getElem?_range hj] at hu
      simp at hu
      subst hu
      rw [Go.WideShapes.add_plain]
      exact gat ((unhide GG).alloc _ _) (unhide ZA j hj)
    · rw [List.getElem?_eq_none (by simpa using hj)] at hu
      simp at hu
  have LS2 : Hid (w.heap.size ≤ w2.heap.size) := (unhide GG).2.2
  clear g2 G1 AL ZA
  go_wp2_with (at_builtin; refine wpList_append_own _ rfl _ _ 22 rfl w2.heap.size 3 i0 (.int .i64 0) 1 8 Try.underlying22 hi hz0 hz1 hz2 rfl (by decide) _ _ _ rfl (unhide OM) ⟨b, o + m, none⟩ c (cap - m) ((List.range c).map fun i => Value.int .i64 (rowZ Z c k i)) rfl (by simp) (unhide NEWH) (cells_one _ _) (unhide BC).1 (unhide BC).2 (by simp) ?_; intro v' w5 hown' hgrow _)
  rw [Nat.zero_add, List.nil_append] at hown'
  obtain ⟨ao2, cap2, rfl, hc2, row2, off2⟩ := owns_rowC hown'
  have K1 : Hid (Kp w w5) := Kp.by ((Kp.of (unhide GG)).alloc _ _) hgrow (fun k e => Nat.le_trans (unhide LS2) ((unhide OM).lt k e).1)
  have R1 := hide (And.intro hc2 (And.intro row2 off2))
  clear hown' hgrow row2 off2 hc2 OM NEWH
  go_wp2
  go_ret2
  exact (show LiD _ _ _ _ _ _ _ from ⟨_, _, rfl, (unhide R1).1, (unhide R1).2.1, fun U hU => (unhide R1).2.2 U (Nat.lt_of_lt_of_le hU (unhide LS2)), unhide K1⟩)

set_option maxHeartbeats 2000000 in
theorem refRow_no (R C i : Int) (ao : Option Addr) (len cap : Nat) (Z : Nat → Int) (hok : okM R C len) (hi : i < 0 ∨ R ≤ i) (w : World) :
    Calls Try.prog 19 #[.agg #[.int .i64 R, .int .i64 C, .slice ao len cap], .int .i64 i] w fun e w' => LiD 0 Z 3 (Kp w) w e w' := by
  have AL := hide (fun w => refMCheck R C ao len cap w)
  rw [chk_ok hok] at AL
  have G1 : Hid (Grown w (w.alloc (.cells #[.int .i64 R, .int .i64 C, .slice ao len cap] 24)) ∧ Blk w.heap.size #[.int .i64 R, .int .i64 C, .slice ao len cap] 24 (w.alloc (.cells #[.int .i64 R, .int .i64 C, .slice ao len cap] 24))) := ⟨(Grown.refl _).alloc _ _, Blk.new w _ _⟩
  clear hok
  by_cases h0 : i < 0
  · clear hi
    go_enter Try.func19, Try.ntmps19
    go_wp2_with fail
    generalize w.alloc (.cells #[.int .i64 R, .int .i64 C, .slice ao len cap] 24) = w1 at *
    refine (unhide AL _).mono ?_
    rintro e w2 ⟨rfl, g2⟩
    have GG := hide (gtrans (unhide G1).1 g2)
    clear G1 g2 AL
    go_wp2
    go_ret2
    exact (show LiD _ _ _ _ _ _ _ from ⟨_, _, rfl, Nat.le_refl _, Or.inl rfl, fun U hU hl => absurd hl (Nat.lt_irrefl _), Kp.of (unhide GG)⟩)
  · have h1 : R ≤ i := hi.resolve_left h0
    have h0' : 0 ≤ i := by omega
    clear hi h0
    go_enter Try.func19, Try.ntmps19
    go_wp2_with fail
    generalize w.alloc (.cells #[.int .i64 R, .int .i64 C, .slice ao len cap] 24) = w1 at *
    refine (unhide AL _).mono ?_
    rintro e w2 ⟨rfl, g2⟩
    have y0 : w2.cell? ⟨w.heap.size, 0, none⟩ = some (.int .i64 R) := Blk.cell (Blk.grown (unhide G1).2 g2) 0
    have GG := hide (gtrans (unhide G1).1 g2)
    clear G1 g2 AL
    go_wp2
    go_ret2
    exact (show LiD _ _ _ _ _ _ _ from ⟨_, _, rfl, Nat.le_refl _, Or.inl rfl, fun U hU hl => absurd hl (Nat.lt_irrefl _), Kp.of (unhide GG)⟩)

set_option maxHeartbeats 2000000 in
theorem refRow_bad (R C i : Int) (ao : Option Addr) (len cap : Nat) (Z : Nat → Int) (hb : ¬ okM R C len) (w : World) :
    Calls Try.prog 19 #[.agg #[.int .i64 R, .int .i64 C, .slice ao len cap], .int .i64 i] w fun e w' => LiD 0 Z 3 (Kp w) w e w' := by
  have AL := hide (fun w => refMCheck R C ao len cap w)
  rw [chk_bad hb] at AL
  have G1 : Hid (Grown w (w.alloc (.cells #[.int .i64 R, .int .i64 C, .slice ao len cap] 24))) := (Grown.refl _).alloc _ _
  clear hb
  go_enter Try.func19, Try.ntmps19
  go_wp2_with fail
  generalize w.alloc (.cells #[.int .i64 R, .int .i64 C, .slice ao len cap] 24) = w1 at *
  refine (unhide AL _).mono ?_
  rintro e w2 ⟨rfl, g2⟩
  have GG := hide (gtrans (unhide G1) g2)
  clear G1 g2 AL
  go_wp2
  go_ret2
  exact (show LiD _ _ _ _ _ _ _ from ⟨_, _, rfl, Nat.le_refl _, Or.inl rfl, fun U hU hl => absurd hl (Nat.lt_irrefl _), Kp.of (unhide GG)⟩)


end Go.Proofs.Ytcobicnpdmgnjaa

/- append(out, x): where the list lies behind it: where it lay, or in a new block. -/
namespace Go.Proofs.Ytcobicnpdmgnjaa
open Go.RowKit Go.Proofs.Wd
set_option linter.unusedVariables false
set_option linter.unusedSimpArgs false

theorem run_append_at (w : World) (ty : TypeId) (base n : Nat) (v : Value) (xs : List Value) (hown : w.ownsRow base 3 1 v n xs) (a : Addr) (m c : Nat) (news : List Value) (hl : news.length = m * 1) (hnews : ∀ j u, news[j]? = some u → w.cell? (a.add j) = some u) (h1 : ∀ u ∈ news, u.oneCell' = true)
    (hm : 1 ≤ m ∧ m ≤ 1000000) (hn : n ≤ 1000000) (hb : base ≤ w.heap.size) :
    ∃ v' w', (Builtin.append_ #[22, 22] ty #[v, .slice (some a) m c]).run Try.prog w = .ok v' w' ∧ w'.ownsRow base 3 1 v' (n + m) (xs ++ news) ∧ w.grownBy w' v.ownBlock ∧ (v'.ownBlock = v.ownBlock ∨ ∃ g, v'.ownBlock = some g ∧ w.heap.size ≤ g) := by
  obtain ⟨i0, hi, hz0, hz1, hz2⟩ := info_parts Try.infoInt
  have h63 : n + m ≤ maxLen := by unfold maxLen; omega
  have hby : (n + m) * 8 ≤ 140737488355328 := by omega
  obtain ⟨v', w', hr, r1, r2, _⟩ := run_append_own (P := Try.prog) w base 22 ty 3 i0 (.int .i64 0) 1 8 Try.underlying22 hi hz0 hz1 hz2 rfl (by decide) v n xs hown a m c news hl hnews h1 h63 hby hb
  refine ⟨v', w', hr, r1, r2, ?_⟩
  rcases hown.2 with ⟨rfl, rfl⟩ | ⟨g, cap, cur, rfl, hbg, hg, hnc, hcm, hcs, htake⟩
  · have hx : xs = [] := List.eq_nil_of_length_eq_zero (by simpa using hown.1)
    subst hx
    obtain ⟨v2, w2, hr2, q1, _, _⟩ := run_append_own (P := Try.prog) w w.heap.size 22 ty 3 i0 (.int .i64 0) 1 8 Try.underlying22 hi hz0 hz1 hz2 rfl (by decide) (.slice none 0 0) 0 [] (World.ownsRow_nil _ _ _ _) a m c news hl hnews h1 h63 hby (Nat.le_refl _)
    rw [hr] at hr2
    cases hr2
    rcases q1.2 with ⟨_, e⟩ | ⟨g, cap, cur, rfl, hbg, _⟩
    · omega
    · exact Or.inr ⟨g, rfl, hbg⟩
  · by_cases hroom : n + m ≤ cap
    · have hfit : n * i0.size + news.length ≤ cur.size := by rw [hl, hcs, hz1, ← Nat.add_mul]; exact Nat.mul_le_mul_right _ hroom
      have hr2 := run_append_room (P := Try.prog) w 22 ty 3 i0 Try.underlying22 hi g n cap cur hg a m c news (by rw [hz1]; exact hl) hnews h1 hroom hfit
      rw [hr] at hr2
      cases hr2
      exact Or.inl rfl
    · have holds : ∀ j u, xs[j]? = some u → w.cell? ((⟨g, 0, none⟩ : Addr).add j) = some u := hown.cells (g := g) rfl
      have hr2 := run_append_grow (P := Try.prog) w 22 ty 3 i0 (.int .i64 0) Try.underlying22 hi hz0 ⟨g, 0, none⟩ n cap xs (by rw [hz1]; exact hown.1) holds a m c news (by rw [hz1]; exact hl) hnews (by omega) (by omega) (growslice_fits (by omega) (by rw [hz2]; exact hby))
      rw [hr] at hr2
      cases hr2
      exact Or.inr ⟨_, rfl, Nat.le_refl _⟩
theorem wpList_append_at {ops : Array Oper} {rest : List Oper} {o : Oper} {a : Act} {w : World} {Q : Exit → Act → World → Prop} (hgd : o.guard = none) (s x : Operand) (ho : o.op = .call { callee := .builtin .append, args := #[s, x], argTypes := #[22, 22] })
    (base : Nat) (v : Value) (n : Nat) (xs : List Value) (hs : a.eval s = v) (hown : w.ownsRow base 3 1 v n xs)
    (ad : Addr) (m c : Nat) (news : List Value) (hx : a.eval x = .slice (some ad) m c) (hl : news.length = m * 1) (hnews : ∀ j u, news[j]? = some u → w.cell? (ad.add j) = some u) (h1 : ∀ u ∈ news, u.oneCell' = true)
    (hm : 1 ≤ m ∧ m ≤ 1000000) (hn : n ≤ 1000000) (hb : base ≤ w.heap.size)
    (h : ∀ v' w', w'.ownsRow base 3 1 v' (n + m) (xs ++ news) → w.grownBy w' v.ownBlock → (v'.ownBlock = v.ownBlock ∨ ∃ g, v'.ownBlock = some g ∧ w.heap.size ≤ g) → wpList Try.prog ops Q rest (a.put o.dst v') w') : wpList Try.prog ops Q (o :: rest) a w := by
  refine wpList_plain hgd fun _ hK => ?_
  obtain ⟨v', w', hr, h2, h3, h4⟩ := run_append_at w o.type base n v xs hown ad m c news hl hnews h1 hm hn hb
  unfold Oper.wp execOp
  simp only [ho, resolve, invoke, builtin, Sem.run_bind, Sem.run_pure, Result.andThen_ok, List.map_toArray, List.map_cons, List.map_nil, hs, hx, hr]
  exact hK _ _ (h v' w' h2 h3 h4)
theorem wp_append_at {o : Oper} {a : Act} {w : World} {K : Act → World → Prop} {Q : Exit → Act → World → Prop} (s x : Operand) (ho : o.op = .call { callee := .builtin .append, args := #[s, x], argTypes := #[22, 22] })
    (base : Nat) (v : Value) (n : Nat) (xs : List Value) (hs : a.eval s = v) (hown : w.ownsRow base 3 1 v n xs)
    (ad : Addr) (m c : Nat) (news : List Value) (hx : a.eval x = .slice (some ad) m c) (hl : news.length = m * 1) (hnews : ∀ j u, news[j]? = some u → w.cell? (ad.add j) = some u) (h1 : ∀ u ∈ news, u.oneCell' = true)
    (hm : 1 ≤ m ∧ m ≤ 1000000) (hn : n ≤ 1000000) (hb : base ≤ w.heap.size)
    (h : ∀ v' w', w'.ownsRow base 3 1 v' (n + m) (xs ++ news) → w.grownBy w' v.ownBlock → (v'.ownBlock = v.ownBlock ∨ ∃ g, v'.ownBlock = some g ∧ w.heap.size ≤ g) → K (a.put o.dst v') w') : Oper.wp Try.prog o a w K Q := by
  obtain ⟨v', w', hr, h2, h3, h4⟩ := run_append_at w o.type base n v xs hown ad m c news hl hnews h1 hm hn hb
  unfold Oper.wp execOp
  simp only [ho, resolve, invoke, builtin, Sem.run_bind, Sem.run_pure, Result.andThen_ok, List.map_toArray, List.map_cons, List.map_nil, hs, hx, hr]
  exact h v' w' h2 h3 h4

end Go.Proofs.Ytcobicnpdmgnjaa

/- The document's mat: Apply, Mul. -/
namespace Go.Proofs.Ytcobicnpdmgnjaa
open Go.RowKit Go.Shelf Go.Proofs.Wd
set_option linter.unusedVariables false
set_option linter.unusedSimpArgs false

theorem owns_kp {w w' : World} {base : Nat} {e : TypeId} {size : Nat} {v : Value} {n : Nat} {xs : List Value} (h : w.ownsRow base e size v n xs) (k : Kp w w') : w'.ownsRow base e size v n xs := by
  refine ⟨h.1, ?_⟩
  rcases h.2 with h2 | ⟨g, cap, cur, rfl, hb, hg, r⟩
  · exact Or.inl h2
  · exact Or.inr ⟨g, cap, cur, rfl, hb, (k.2.2.1 g (Array.getElem?_eq_some_iff.1 hg).1).trans hg, r⟩
theorem rowBy {w w' : World} {ao : Option Addr} {len : Nat} {Z : Nat → Int} {row : Option Nat} (h : Row w ao len Z) (hg : w.grownBy w' row) (ho : ∀ g, row = some g → Off g len ao) : Row w' ao len Z := by
  rcases h with h | ⟨b, o, rfl, hc⟩
  · exact Or.inl h
  · exact Or.inr ⟨b, o, rfl, fun i hi => hg.cell (hc i hi) (fun e => ho b e.symm (by omega) _ rfl rfl)⟩
theorem bnd (m j : Nat) (hm : m ≤ 12) (hj : j ≤ 144) : 0 ≤ 2 * (m : Int) * (j : Int) ∧ 2 * (m : Int) * (j : Int) ≤ 3456 := by
  have h1 : 2 * m * j ≤ 24 * 144 := Nat.mul_le_mul (by omega) hj
  have h2 : ((2 * m * j : Nat) : Int) = 2 * (m : Int) * (j : Int) := by rw [Int.natCast_mul, Int.natCast_mul]; rfl
  omega
theorem bnd_succ (n : Int) (m j : Nat) : n + 2 * (m : Int) * ((j + 1 : Nat) : Int) = n + 2 * (m : Int) * (j : Int) + 2 * (m : Int) := by
  rw [Int.natCast_add, Int.mul_add, show ((1 : Nat) : Int) = 1 from rfl, Int.mul_one, Int.add_assoc]
/-- A list that is gathered, beside boxes, lists and the document's unit. -/
def GA (w : World) (R : Nat) (bx : List (Nat × Array Value)) (rows : List (Option Addr × Nat × (Nat → Int))) (base : Nat) (Y : Nat → Int) (cut : Bool) (n : Int) (j : Nat) (v : Value) (wr : World) : Prop :=
  wr.ownsRow base 3 1 v j (intL j Y) ∧ (∀ b ∈ bx, Blk b.1 b.2 24 wr ∧ w.heap.size ≤ b.1 ∧ b.1 < base) ∧ (∀ r ∈ rows, Row wr r.1 r.2.1 r.2.2 ∧ Off R r.2.1 r.1 ∧ ∀ g, v.ownBlock = some g → Off g r.2.1 r.1) ∧ RC R cut n wr ∧ Mk R w wr ∧ R < w.heap.size ∧ w.heap.size ≤ base ∧ base ≤ wr.heap.size
section
variable {w wr w' w4 : World} {R base : Nat} {bx : List (Nat × Array Value)} {rows : List (Option Addr × Nat × (Nat → Int))} {Y : Nat → Int} {cut cut' : Bool} {n n' : Int} {j : Nat} {v v' : Value}
theorem GA.kp (h : GA w R bx rows base Y cut n j v wr) (k : Kp wr w') : GA w R bx rows base Y cut n j v w' := by
  obtain ⟨h1, h2, h3, h4, h5, h6, h7, h8⟩ := h
  exact ⟨owns_kp h1 k, fun b hb => ⟨Blk.kp (h2 b hb).1 k, (h2 b hb).2⟩, fun r hr => ⟨(h3 r hr).1.kp k, (h3 r hr).2⟩, Blk.kp h4 k, h5.trans (Mk.kp k), h6, h7, Nat.le_trans h8 k.2.2.2⟩
theorem GA.mod (h : GA w R bx rows base Y cut n j v wr) (m : Mod R wr w') (u : RC R cut' n' w') : GA w R bx rows base Y cut' n' j v w' := by
  obtain ⟨h1, h2, h3, h4, h5, h6, h7, h8⟩ := h
  exact ⟨owns_mod h1 m (by omega), fun b hb => ⟨Blk.keep (h2 b hb).1 m (by have := (h2 b hb).2; omega), (h2 b hb).2⟩, fun r hr => ⟨(h3 r hr).1.mod m (h3 r hr).2.1, (h3 r hr).2⟩, u, h5.trans (Mk.of m), h6, h7, Nat.le_trans h8 m.2.2.2.2⟩
theorem GA.row {ao : Option Addr} {len : Nat} {Z : Nat → Int} (h : GA w R bx rows base Y cut n j v wr) (k : Kp wr w') (r : Row w' ao len Z) (f : ∀ U, U < wr.heap.size → Off U len ao) : GA w R bx ((ao, len, Z) :: rows) base Y cut n j v w' := by
  obtain ⟨h1, h2, h3, h4, h5, h6, h7, h8⟩ := h.kp k
  refine ⟨h1, h2, fun q hq => ?_, h4, h5, h6, h7, h8⟩
  rcases List.mem_cons.1 hq with rfl | hq
  · exact ⟨r, f R (Blk.lt h.2.2.2.1), fun g hg => f g (h.1.lt g hg).2⟩
  · exact h3 q hq
theorem GA.sub {rows' : List (Option Addr × Nat × (Nat → Int))} (h : GA w R bx rows base Y cut n j v wr) (hr : ∀ r ∈ rows', r ∈ rows) : GA w R bx rows' base Y cut n j v wr := by
  obtain ⟨h1, h2, h3, h4⟩ := h
  exact ⟨h1, h2, fun r h => h3 r (hr r h), h4⟩
theorem GA.app {x : Int} (h : GA w R bx rows base Y cut n j v wr) (hx : Y j = x) (hown : w4.ownsRow base 3 1 v' (j + 1) (intL j Y ++ [.int .i64 x])) (hg : (wr.alloc (.cells #[.int .i64 x] 3)).grownBy w4 v.ownBlock)
    (hw : v'.ownBlock = v.ownBlock ∨ ∃ g, v'.ownBlock = some g ∧ (wr.alloc (.cells #[.int .i64 x] 3)).heap.size ≤ g) : GA w R bx rows base Y cut n (j + 1) v' w4 := by
  obtain ⟨h1, h2, h3, h4, h5, h6, h7, h8⟩ := h
  have g : Grown wr (wr.alloc (.cells #[.int .i64 x] 3)) := (Grown.refl _).alloc _ _
  have lt := (h1.alloc (.cells #[.int .i64 x] 3)).lt
  have hs := g.2.2
  refine ⟨app_ownR hx hown, fun b hb => ⟨Blk.by (Blk.grown (h2 b hb).1 g) hg (fun e => by have := (lt _ e.symm).1; have := (h2 b hb).2; omega), (h2 b hb).2⟩, fun r hr => ⟨rowBy ((h3 r hr).1.grown g) hg (h3 r hr).2.2, (h3 r hr).2.1, fun q hq => ?_⟩, Blk.by (Blk.grown h4 g) hg (fun e => by have := (lt _ e.symm).1; omega), (h5.grown g).by hg (fun i e => by have := (lt i e).1; omega), h6, h7, by have := hg.size; omega⟩
  rcases hw with hw | ⟨q', e, hq'⟩
  · exact (h3 r hr).2.2 q (by rw [← hw]; exact hq)
  · rw [e] at hq
    cases hq
    exact (h3 r hr).1.off (by omega)
theorem GA.set {L : Nat} {x0 x1 x2 u : Value} (h : GA w R ((L, #[x0, x1, x2]) :: bx) rows base Y cut n j v wr) (hne : ∀ b ∈ bx, b.1 ≠ L) (hrw : ∀ r ∈ rows, Off L r.2.1 r.1) : GA w R ((L, #[x0, x1, u]) :: bx) rows base Y cut n j v (wr.setCell ⟨L, 2, none⟩ u) := by
  obtain ⟨h1, h2, h3, h4, h5, h6, h7, h8⟩ := h
  have q : Mod L wr (wr.setCell ⟨L, 2, none⟩ u) := (Mod.refl _ _).setCell 2 _
  have hL := h2 _ List.mem_cons_self
  have hL2 := hL.2
  refine ⟨owns_mod h1 q hL2.2, fun b hb => ?_, fun r hr => ⟨(h3 r hr).1.mod q (hrw r hr), (h3 r hr).2⟩, Blk.keep h4 q (by simp only at hL2; omega), h5.new q hL2.1, h6, h7, Nat.le_trans h8 q.2.2.2.2⟩
  rcases List.mem_cons.1 hb with rfl | hb
  · exact ⟨Blk.set hL.1 2 _, hL.2⟩
  · exact ⟨Blk.keep (h2 b (List.mem_cons_of_mem _ hb)).1 q (hne b hb), (h2 b (List.mem_cons_of_mem _ hb)).2⟩
theorem GA.cells {b : Nat} {x0 x1 x2 : Value} (h : GA w R bx rows base Y cut n j v wr) (hb : (b, #[x0, x1, x2]) ∈ bx) : wr.cell? ⟨b, 0, none⟩ = some x0 ∧ wr.cell? ⟨b, 1, none⟩ = some x1 ∧ wr.cell? ⟨b, 2, none⟩ = some x2 := ⟨Blk.cell (h.2.1 _ hb).1 0, Blk.cell (h.2.1 _ hb).1 1, Blk.cell (h.2.1 _ hb).1 2⟩
end


set_option maxRecDepth 20000 in
set_option maxHeartbeats 4000000 in
theorem refApply_ok (R : Nat) (c0 : Bool) (n : Int) (hn : 0 ≤ n ∧ n < 1152921504606846976) (r m len cap xc b o : Nat) (xo : Option Addr) (A X : Nat → Int) (hr : 1 ≤ r ∧ r ≤ 12) (hm : 1 ≤ m ∧ m ≤ 12) (hl : len = r * m) (hcap : len ≤ cap) (hA : ∀ j, j < len → I64 (A j)) (hX : ∀ j, j < m → I64 (X j)) (w : World) (h : RC R c0 n w)
    (za : ∀ i, i < len → w.cell? ⟨b, o + i, none⟩ = some (.int .i64 (A i))) (hx : Row w xo m X) (ob : b ≠ R) (ox : Off R m xo) :
    Calls Try.prog 30 #[.pointer (some ⟨R, 0, none⟩), .agg #[.int .i64 r, .int .i64 m, .slice (some ⟨b, o, none⟩) len cap], .slice xo m xc] w fun e w' => LiD r (appZ A X m) 0 (fun w' => RC R (c0 || orC (appG A X m) r) (n + 2 * (m : Int) * (r : Int)) w' ∧ Mk R w w') w e w' := by
  have hlen : len ≤ 144 := by have := mul12n r m hr hm; omega
  have AL := hide (fun w => refMCheck r m (some ⟨b, o, none⟩) len cap w)
  rw [chk_ok ⟨by omega, by omega, by rw [hl, Int.natCast_mul]⟩] at AL
  obtain ⟨Y, hY⟩ : ∃ Y, Y = appZ A X m := ⟨_, rfl⟩
  rw [← hY]
  have EY : Hid (∀ j, Y j = dotN (rowZ A m j) X m) := fun j => by rw [hY]; rfl
  have HH := hide (And.intro hn (And.intro hr (And.intro hm (And.intro hl hcap))))
  have HA := hide (And.intro hA hX)
  have HZ := hide (And.intro za (And.intro hx (And.intro ob ox)))
  have lR := Blk.lt h
  have S0 : Hid (Grown w (w.alloc (.cells #[.int .i64 r, .int .i64 m, .slice (some ⟨b, o, none⟩) len cap] 24)) ∧ Blk w.heap.size #[.int .i64 r, .int .i64 m, .slice (some ⟨b, o, none⟩) len cap] 24 (w.alloc (.cells #[.int .i64 r, .int .i64 m, .slice (some ⟨b, o, none⟩) len cap] 24)) ∧ RC R c0 n w ∧ R < w.heap.size) := ⟨(Grown.refl _).alloc _ _, Blk.new w _ _, h, lR⟩
  clear hY hn hr hm hl hcap hA hX za hx ob ox h lR
  go_enter Try.func30, Try.ntmps30
  go_wp2_with fail
  generalize w.alloc (.cells #[.int .i64 r, .int .i64 m, .slice (some ⟨b, o, none⟩) len cap] 24) = w1 at *
  refine (unhide AL _).mono ?_
  rintro e w2 ⟨rfl, g2⟩
  have ST : Hid (GA w R [(w.heap.size, #[.int .i64 r, .int .i64 m, .slice (some ⟨b, o, none⟩) len cap])] [] (w.heap.size + 1) Y (c0 || orC (appG A X m) 0) (n + 2 * (m : Int) * ((0 : Nat) : Int)) 0 (.slice none 0 0) w2) := by
    obtain ⟨s1, s2, s3, s4⟩ := unhide S0
    have gg := gtrans s1 g2
    have hs := Blk.lt (Blk.grown s2 g2)
    refine ⟨World.ownsRow_nil _ _ _ _, fun q hq => ?_, fun q hq => absurd hq List.not_mem_nil, ?_, Mk.of (Mod.of gg), s4, Nat.le_succ _, hs⟩
    · rcases List.mem_singleton.1 hq with rfl
      exact ⟨Blk.grown s2 g2, Nat.le_refl _, Nat.lt_succ_self _⟩
    · show RC _ (c0 || false) (n + 2 * (m : Int) * 0) _
      rw [Bool.or_false, Int.mul_zero, Int.add_zero]
      exact Blk.grown s3 gg
  obtain ⟨y0, y1, y2⟩ := (unhide ST).cells (b := w.heap.size) (x0 := .int .i64 r) (x1 := .int .i64 m) (x2 := .slice (some ⟨b, o, none⟩) len cap) (by simp)
  clear S0 AL g2
  go_wp2_with fail
  clear y0 y1 y2
  go_loopw [8, 9] (fun v i wr => ∃ j : Nat, j ≤ r ∧ i = .int .i64 j ∧ Hid (GA w R [(w.heap.size, #[.int .i64 r, .int .i64 m, .slice (some ⟨b, o, none⟩) len cap])] [] (w.heap.size + 1) Y (c0 || orC (appG A X m) j) (n + 2 * (m : Int) * ((j : Nat) : Int)) j v wr)) (fun _ i _ => r - (intOf i).toNat)
  case atStart => exact ⟨0, Nat.zero_le _, rfl, unhide ST⟩
  case round =>
    obtain ⟨j, hj, rfl, HI⟩ := hrel
    clear ST
    obtain ⟨y0, y1, y2⟩ := (unhide HI).cells (b := w.heap.size) (x0 := .int .i64 r) (x1 := .int .i64 m) (x2 := .slice (some ⟨b, o, none⟩) len cap) (by simp)
    by_cases hlt : j < r
    · have RW := hide (refRow_ok r m j len cap b o A (unhide HH).2.1 (unhide HH).2.2.1 hlt (unhide HH).2.2.2.1 (unhide HH).2.2.2.2 wr (fun i hi => (unhide HI).2.2.2.2.1.cell ((unhide HZ).1 i hi) (unhide HZ).2.2.1))
      have EK : Hid (Y j = dotN (rowZ A m j) X m ∧ (c0 || orC (appG A X m) (j + 1)) = (c0 || orC (appG A X m) j || dotC (rowZ A m j) X m) ∧ n + 2 * (m : Int) * ((j + 1 : Nat) : Int) = n + 2 * (m : Int) * (j : Int) + 2 * (m : Int)) := ⟨unhide EY j, by rw [Bool.or_assoc]; rfl, bnd_succ n m j⟩
      have BN : Hid (0 ≤ n + 2 * (m : Int) * (j : Int) ∧ n + 2 * (m : Int) * (j : Int) < 2305843009213693952) := by
        have h1 := unhide HH
        have h2 := bnd m j (by omega) (by omega)
        show _ ∧ _
        omega
      have IR : Hid (∀ i, i < m → I64 (rowZ A m j i)) := fun i hi => (unhide HA).1 _ (by rw [(unhide HH).2.2.2.1]; exact place_in j i r m hlt hi)
      have hj1 : j ≤ 1000000 := Nat.le_trans hj (Nat.le_trans (unhide HH).2.1.2 (by omega))
      have B4 : Hid (j + 1 ≤ r) := hlt
      generalize n + 2 * (m : Int) * (j : Int) = nj at *
      generalize (c0 || orC (appG A X m) j) = cj at *
      clear hj
      go_wp2_with fail
      refine (unhide RW).mono ?_
      rintro e w3 ⟨ao1, cap1, rfl, hc1, row1, off1, kp1⟩
      have G3 := hide ((unhide HI).row kp1 row1 off1)
      clear RW HI kp1 row1 off1 y0 y1 y2
      go_wp2_with fail
      refine (refUDot_ok R cj nj ao1 xo m cap1 xc (rowZ A m j) X (unhide BN) (by have := unhide HH; omega) IR (unhide HA).2 w3 (unhide G3).2.2.2.1 ((unhide G3).2.2.1 (ao1, m, rowZ A m j) (by simp)).1 ((unhide G3).2.2.1 (ao1, m, rowZ A m j) (by simp)).2.1 ((unhide HZ).2.1.mk (unhide G3).2.2.2.2.1 (unhide HZ).2.2.2) (unhide HZ).2.2.2).mono ?_
      rintro e w5 ⟨rfl, u5, m5⟩
      have G5 := hide (((unhide G3).mod m5 u5).sub (rows' := []) (by simp))
      clear G3 m5 u5 hc1
      rw [← (unhide EK).2.1, ← (unhide EK).2.2] at G5
      have EZ := hide (unhide EK).1
      clear EK
      generalize dotN (rowZ A m j) X m = z at *
      have B3 : Hid (w.heap.size + 1 ≤ (w5.alloc (.cells #[.int .i64 z] 3)).heap.size) := by
        have := (unhide G5).2.2.2.2.2.2.2
        show _ ≤ _
        simp
        omega
      go_wp2_with (at_builtin; refine wpList_append_at rfl _ _ rfl (w.heap.size + 1) _ _ _ rfl ((unhide G5).1.alloc _) ⟨w5.heap.size, 0, none⟩ 1 1 [.int .i64 z] rfl rfl (news_one _ _ _) (one_cell _) ⟨by decide, by decide⟩ hj1 (unhide B3) ?_; intro v' w6 hown hgrow hwh; have HP := hide (GA.app (unhide G5) (unhide EZ) hown hgrow hwh); clear hown hgrow hwh)
      go_roundw
      case rel => exact ⟨j + 1, unhide B4, by go_num, HP⟩
      case measure => have := unhide B4; simp [intOf]; omega
    · obtain rfl : j = r := by omega
      obtain ⟨h0, _, _, hu, hk, hl1, hl2, _⟩ := unhide HI
      obtain ⟨ao2, cap2, rfl, g1, g3, g4⟩ := owns_rowC h0
      have R1 := hide (And.intro g1 (And.intro g3 (And.intro g4 (And.intro hu hk))))
      clear h0 hu hk g1 g3 g4 HI hl1 hl2
      go_wp2
      go_ret2
      exact (show LiD _ _ _ _ _ _ _ from ⟨_, _, rfl, (unhide R1).1, (unhide R1).2.1, fun U hU => (unhide R1).2.2.1 U (by omega), (unhide R1).2.2.2⟩)


set_option maxRecDepth 20000 in
set_option maxHeartbeats 8000000 in
theorem refMul_ok (R : Nat) (c0 : Bool) (n : Int) (hn : 0 ≤ n ∧ n < 1152921504606846976) (r m c l1 p1 l2 p2 b o b2 o2 : Nat) (A B : Nat → Int) (hr : 1 ≤ r ∧ r ≤ 12) (hm : 1 ≤ m ∧ m ≤ 12) (hc : 1 ≤ c ∧ c ≤ 12) (hl1 : l1 = r * m) (hl2 : l2 = m * c) (hcap : l1 ≤ p1) (hA : ∀ j, j < l1 → I64 (A j)) (hB : ∀ j, j < l2 → I64 (B j)) (w : World) (h : RC R c0 n w)
    (za : ∀ i, i < l1 → w.cell? ⟨b, o + i, none⟩ = some (.int .i64 (A i))) (zb : ∀ i, i < l2 → w.cell? ⟨b2, o2 + i, none⟩ = some (.int .i64 (B i))) (ob : b ≠ R) (ob2 : b2 ≠ R) :
    Calls Try.prog 28 #[.pointer (some ⟨R, 0, none⟩), .agg #[.int .i64 r, .int .i64 m, .slice (some ⟨b, o, none⟩) l1 p1], .agg #[.int .i64 m, .int .i64 c, .slice (some ⟨b2, o2, none⟩) l2 p2]] w fun e w' => DocP r c (r * c) (mulZ A B m c) 0 (fun w' => RC R (c0 || orC (mulG A B m c) (r * c)) (n + 2 * (m : Int) * ((r * c : Nat) : Int)) w' ∧ Mk R w w') w e w' := by
  have hlen : r * c ≤ 144 := by have := mul12n r c hr hc; omega
  have A1 := hide (fun w => refMCheck r m (some ⟨b, o, none⟩) l1 p1 w)
  rw [chk_ok ⟨by omega, by omega, by rw [hl1, Int.natCast_mul]⟩] at A1
  have A2 := hide (fun w => refMCheck m c (some ⟨b2, o2, none⟩) l2 p2 w)
  rw [chk_ok ⟨by omega, by omega, by rw [hl2, Int.natCast_mul]⟩] at A2
  obtain ⟨Y, hY⟩ : ∃ Y, Y = mulZ A B m c := ⟨_, rfl⟩
  rw [← hY]
  have EY : Hid (∀ i k, k < c → Y (i * c + k) = dotN (rowZ A m i) (colZ B c k) m ∧ mulG A B m c (i * c + k) = dotC (rowZ A m i) (colZ B c k) m) := fun i k hk => by
    rw [hY]
    constructor
    · show dotN (rowZ A m ((i * c + k) / c)) (colZ B c ((i * c + k) % c)) m = _
      rw [place_div i k c hk, place_mod i k c hk]
    · show dotC (rowZ A m ((i * c + k) / c)) (colZ B c ((i * c + k) % c)) m = _
      rw [place_div i k c hk, place_mod i k c hk]
  have HH := hide (And.intro hn (And.intro hr (And.intro hm (And.intro hc (And.intro hl1 (And.intro hl2 hcap))))))
  have HA := hide (And.intro hA hB)
  have HZ := hide (And.intro za (And.intro zb (And.intro ob ob2)))
  have lR := Blk.lt h
  obtain ⟨G, s3, x0, x1, x2⟩ := alloc3 w #[.int .i64 r, .int .i64 m, .slice (some ⟨b, o, none⟩) l1 p1] 24 #[.int .i64 m, .int .i64 c, .slice (some ⟨b2, o2, none⟩) l2 p2] 24 #[.int .i64 0, .int .i64 0, .slice none 0 0] 24
  have S0 := hide (And.intro G (And.intro x0 (And.intro x1 (And.intro x2 (And.intro h (And.intro lR s3))))))
  have HLN := hide hlen
  clear hlen hY hn hr hm hc hl1 hl2 hcap hA hB za zb ob ob2 h lR G s3 x0 x1 x2
  go_enter Try.func28, Try.ntmps28
  go_wp2_with fail
  generalize (((w.alloc (.cells #[.int .i64 r, .int .i64 m, .slice (some ⟨b, o, none⟩) l1 p1] 24)).alloc (.cells #[.int .i64 m, .int .i64 c, .slice (some ⟨b2, o2, none⟩) l2 p2] 24)).alloc (.cells #[.int .i64 0, .int .i64 0, .slice none 0 0] 24)) = w1 at *
  refine (unhide A1 _).mono ?_
  rintro e w2 ⟨rfl, g2⟩
  have y2' : w2.cell? ⟨w.heap.size + 1, 0, none⟩ = some (.int .i64 m) := Blk.cell (Blk.grown (unhide S0).2.2.1 g2) 0
  have y3' : w2.cell? ⟨w.heap.size + 1, 1, none⟩ = some (.int .i64 c) := Blk.cell (Blk.grown (unhide S0).2.2.1 g2) 1
  have y4' : w2.cell? ⟨w.heap.size + 1, 2, none⟩ = some (.slice (some ⟨b2, o2, none⟩) l2 p2) := Blk.cell (Blk.grown (unhide S0).2.2.1 g2) 2
  have S1 := hide g2
  clear g2
  go_wp2_with fail
  refine (unhide A2 _).mono ?_
  rintro e w3 ⟨rfl, g3⟩
  have g13 := gtrans (unhide S1) g3
  have S2 := hide g13
  have e0 : w3.cell? ⟨w.heap.size, 0, none⟩ = some (.int .i64 r) := Blk.cell (Blk.grown (unhide S0).2.1 g13) 0
  have e1 : w3.cell? ⟨w.heap.size, 1, none⟩ = some (.int .i64 m) := Blk.cell (Blk.grown (unhide S0).2.1 g13) 1
  have f0 : w3.cell? ⟨w.heap.size + 1, 0, none⟩ = some (.int .i64 m) := Blk.cell (Blk.grown (unhide S0).2.2.1 g13) 0
  have f1 : w3.cell? ⟨w.heap.size + 1, 1, none⟩ = some (.int .i64 c) := Blk.cell (Blk.grown (unhide S0).2.2.1 g13) 1
  clear g3 g13 S1 y2' y3' y4' A1 A2
  go_wp2_with fail
  obtain ⟨L, hL⟩ : ∃ L, w3.heap.size = L := ⟨_, rfl⟩
  have ST : Hid (GA w R [(L, #[.int .i64 r, .int .i64 c, (.slice none 0 0)]), (w.heap.size, #[.int .i64 r, .int .i64 m, .slice (some ⟨b, o, none⟩) l1 p1]), (w.heap.size + 1, #[.int .i64 m, .int .i64 c, .slice (some ⟨b2, o2, none⟩) l2 p2]), (w.heap.size + 1 + 1, #[.int .i64 0, .int .i64 0, .slice none 0 0])] [] (L + 1) Y (c0 || orC (mulG A B m c) (0 * c)) (n + 2 * (m : Int) * ((0 * c : Nat) : Int)) (0 * c) (.slice none 0 0) (w3.alloc (.cells #[.int .i64 r, .int .i64 c, .slice none 0 0] 24))) := by
    obtain ⟨s1, s2, s3, s4, s5, s6, s7⟩ := unhide S0
    have G3 : Grown w3 (w3.alloc (.cells #[.int .i64 r, .int .i64 c, .slice none 0 0] 24)) := (Grown.refl _).alloc _ _
    have gg := gtrans s1 (unhide S2)
    have hs := Blk.lt (Blk.grown s4 (unhide S2))
    refine ⟨by rw [Nat.zero_mul]; exact World.ownsRow_nil _ _ _ _, fun q hq => ?_, fun q hq => absurd hq List.not_mem_nil, ?_, Mk.of (Mod.of (gtrans gg G3)), s6, by have := gg.2.2; omega, by simp; omega⟩
    · have nw : Blk L #[.int .i64 r, .int .i64 c, .slice none 0 0] 24 (w3.alloc (.cells #[.int .i64 r, .int .i64 c, .slice none 0 0] 24)) := by rw [← hL]; exact Blk.new w3 _ _
      have hgs := gg.2.2
      have g23 := gtrans (unhide S2) G3
      simp only [List.mem_cons, List.not_mem_nil, or_false] at hq
      rcases hq with rfl | rfl | rfl | rfl
      · exact ⟨nw, by show w.heap.size ≤ L; omega, by show L < L + 1; omega⟩
      · exact ⟨Blk.grown s2 g23, Nat.le_refl _, by show w.heap.size < L + 1; omega⟩
      · exact ⟨Blk.grown s3 g23, by show w.heap.size ≤ w.heap.size + 1; omega, by show w.heap.size + 1 < L + 1; omega⟩
      · exact ⟨Blk.grown s4 g23, by show w.heap.size ≤ w.heap.size + 1 + 1; omega, by show w.heap.size + 1 + 1 < L + 1; omega⟩
    · rw [Nat.zero_mul]
      show RC _ (c0 || false) (n + 2 * (m : Int) * 0) _
      rw [Bool.or_false, Int.mul_zero, Int.add_zero]
      exact Blk.grown s5 (gtrans gg G3)
  have HLs : Hid (w.heap.size + 1 + 1 < L) := by rw [← hL]; exact Blk.lt (Blk.grown (unhide S0).2.2.2.1 (unhide S2))
  rw [hL]
  generalize w3.alloc (.cells #[.int .i64 r, .int .i64 c, .slice none 0 0] 24) = w4 at *
  clear S0 S2 e0 e1 f0 f1 hL
  go_loopw [9] (fun i wr => ∃ j : Nat, j ≤ r ∧ i = .int .i64 j ∧ Hid (∃ v, GA w R [(L, #[.int .i64 r, .int .i64 c, v]), (w.heap.size, #[.int .i64 r, .int .i64 m, .slice (some ⟨b, o, none⟩) l1 p1]), (w.heap.size + 1, #[.int .i64 m, .int .i64 c, .slice (some ⟨b2, o2, none⟩) l2 p2]), (w.heap.size + 1 + 1, #[.int .i64 0, .int .i64 0, .slice none 0 0])] [] (L + 1) Y (c0 || orC (mulG A B m c) (j * c)) (n + 2 * (m : Int) * ((j * c : Nat) : Int)) (j * c) v wr)) (fun i _ => r - (intOf i).toNat)
  case atStart => exact ⟨0, Nat.zero_le _, rfl, _, unhide ST⟩
  case round =>
    obtain ⟨j, hj, rfl, HI0⟩ := hrel
    clear ST
    obtain ⟨v, hI⟩ := unhide HI0
    have HI := hide hI
    clear hI
    obtain ⟨y0, y1, y2⟩ := (unhide HI).cells (b := w.heap.size) (x0 := .int .i64 r) (x1 := .int .i64 m) (x2 := .slice (some ⟨b, o, none⟩) l1 p1) (by simp)
    by_cases hlt : j < r
    · have RW := hide (refRow_ok r m j l1 p1 b o A (unhide HH).2.1 (unhide HH).2.2.1 hlt (unhide HH).2.2.2.2.1 (unhide HH).2.2.2.2.2.2 wr (fun i hi => (unhide HI).2.2.2.2.1.cell ((unhide HZ).1 i hi) (unhide HZ).2.2.1))
      have IR : Hid (∀ i, i < m → I64 (rowZ A m j i)) := fun i hi => (unhide HA).1 _ (by rw [(unhide HH).2.2.2.2.1]; exact place_in j i r m hlt hi)
      have hj1 : j ≤ 1000000 := Nat.le_trans hj (Nat.le_trans (unhide HH).2.1.2 (by omega))
      have B4 : Hid (j + 1 ≤ r) := hlt
      clear hj hlt HI0
      go_wp2_with fail
      refine (unhide RW).mono ?_
      rintro e w5 ⟨ao1, cap1, rfl, hc1, row1, off1, kp1⟩
      have G5 : Hid (GA w R [(L, #[.int .i64 r, .int .i64 c, v]), (w.heap.size, #[.int .i64 r, .int .i64 m, .slice (some ⟨b, o, none⟩) l1 p1]), (w.heap.size + 1, #[.int .i64 m, .int .i64 c, .slice (some ⟨b2, o2, none⟩) l2 p2]), (w.heap.size + 1 + 1, #[.int .i64 0, .int .i64 0, .slice none 0 0])] [(ao1, m, rowZ A m j)] (L + 1) Y (c0 || orC (mulG A B m c) (j * c + 0)) (n + 2 * (m : Int) * ((j * c + 0 : Nat) : Int)) (j * c + 0) v w5 ∧ Off L m ao1) := ⟨(unhide HI).row kp1 row1 off1, off1 L ((unhide HI).2.2.2.2.2.2.2)⟩
      clear RW HI kp1 row1 off1 y0 y1 y2
      go_wp2_with fail
      go_loopw [12] (fun i wr => ∃ k : Nat, k ≤ c ∧ i = .int .i64 k ∧ Hid (∃ v, GA w R [(L, #[.int .i64 r, .int .i64 c, v]), (w.heap.size, #[.int .i64 r, .int .i64 m, .slice (some ⟨b, o, none⟩) l1 p1]), (w.heap.size + 1, #[.int .i64 m, .int .i64 c, .slice (some ⟨b2, o2, none⟩) l2 p2]), (w.heap.size + 1 + 1, #[.int .i64 0, .int .i64 0, .slice none 0 0])] [(ao1, m, rowZ A m j)] (L + 1) Y (c0 || orC (mulG A B m c) (j * c + k)) (n + 2 * (m : Int) * ((j * c + k : Nat) : Int)) (j * c + k) v wr)) (fun i _ => c - (intOf i).toNat)
      case atStart => exact ⟨0, Nat.zero_le _, rfl, _, (unhide G5).1⟩
      case round =>
        obtain ⟨k, hk, rfl, HI0⟩ := hrel
        obtain ⟨v, hI⟩ := unhide HI0
        have HI := hide hI
        clear hI
        obtain ⟨y0, y1, y2⟩ := (unhide HI).cells (b := w.heap.size + 1) (x0 := .int .i64 m) (x1 := .int .i64 c) (x2 := .slice (some ⟨b2, o2, none⟩) l2 p2) (by simp)
        by_cases hlt : k < c
        · have CW := hide (refColumn m c k l2 p2 b2 o2 B (unhide HH).2.2.1 (unhide HH).2.2.2.1 hlt (unhide HH).2.2.2.2.2.1 wr (fun i hi => (unhide HI).2.2.2.2.1.cell ((unhide HZ).2.1 i hi) (unhide HZ).2.2.2))
          have EK : Hid (Y (j * c + k) = dotN (rowZ A m j) (colZ B c k) m ∧ (c0 || orC (mulG A B m c) (j * c + k + 1)) = (c0 || orC (mulG A B m c) (j * c + k) || dotC (rowZ A m j) (colZ B c k) m) ∧ n + 2 * (m : Int) * ((j * c + k + 1 : Nat) : Int) = n + 2 * (m : Int) * ((j * c + k : Nat) : Int) + 2 * (m : Int)) := by
            obtain ⟨q1, q2⟩ := unhide EY j k hlt
            refine ⟨q1, ?_, bnd_succ n m (j * c + k)⟩
            show (c0 || (orC (mulG A B m c) (j * c + k) || mulG A B m c (j * c + k))) = _
            rw [q2, Bool.or_assoc]
          have hq : j * c + k ≤ 144 := by have h1 := place_in j k r c (unhide B4) hlt; have := unhide HLN; omega
          have BN : Hid (0 ≤ n + 2 * (m : Int) * ((j * c + k : Nat) : Int) ∧ n + 2 * (m : Int) * ((j * c + k : Nat) : Int) < 2305843009213693952) := by
            have h1 := (unhide HH).1
            have h2 := bnd m (j * c + k) (unhide HH).2.2.1.2 hq
            show _ ∧ _
            omega
          have IC : Hid (∀ i, i < m → I64 (colZ B c k i)) := fun i hi => (unhide HA).2 _ (by rw [(unhide HH).2.2.2.2.2.1]; exact place_in i k m c hi hlt)
          have hk1 : k ≤ 1000000 := Nat.le_trans hk (Nat.le_trans (unhide HH).2.2.2.1.2 (by omega))
          have C4 : Hid (k + 1 ≤ c) := hlt
          have EQ : Hid (j * c + (k + 1) = j * c + k + 1) := rfl
          have hq1 : Hid (j * c + k ≤ 1000000) := Nat.le_trans hq (by omega)
          clear hk hlt HI0 hq
          obtain ⟨cq1, hcq1⟩ : ∃ x, (c0 || orC (mulG A B m c) (j * c + k + 1)) = x := ⟨_, rfl⟩
          obtain ⟨nq1, hnq1⟩ : ∃ x, n + 2 * (m : Int) * ((j * c + k + 1 : Nat) : Int) = x := ⟨_, rfl⟩
          rw [hcq1, hnq1] at EK
          have E1 := hide hcq1
          have E2 := hide hnq1
          clear hcq1 hnq1
          generalize n + 2 * (m : Int) * ((j * c + k : Nat) : Int) = nq at EK BN HI
          generalize (c0 || orC (mulG A B m c) (j * c + k)) = cq at EK HI
          obtain ⟨q, hq⟩ : ∃ q, j * c + k = q := ⟨_, rfl⟩
          rw [hq] at EK HI hq1
          go_wp2_with fail
          refine (unhide CW).mono ?_
          rintro e w6 ⟨ao2, cap2, rfl, hc2, row2, off2, kp2⟩
          have G6 := hide ((unhide HI).row kp2 row2 off2)
          clear CW HI kp2 row2 off2 y0 y1 y2
          go_wp2_with fail
          refine (refUDot_ok R cq nq ao1 ao2 m cap1 cap2 (rowZ A m j) (colZ B c k) (unhide BN) (by have := unhide HH; omega) IR IC w6 (unhide G6).2.2.2.1 ((unhide G6).2.2.1 (ao1, m, rowZ A m j) (by simp)).1 ((unhide G6).2.2.1 (ao1, m, rowZ A m j) (by simp)).2.1 ((unhide G6).2.2.1 (ao2, m, colZ B c k) (by simp)).1 ((unhide G6).2.2.1 (ao2, m, colZ B c k) (by simp)).2.1).mono ?_
          rintro e w7 ⟨rfl, u7, m7⟩
          have G7 := hide (((unhide G6).mod m7 u7).sub (rows' := [(ao1, m, rowZ A m j)]) (by simp))
          clear G6 m7 u7 hc2
          rw [← (unhide EK).2.1, ← (unhide EK).2.2] at G7
          have EZ := hide (unhide EK).1
          clear EK IC BN
          generalize dotN (rowZ A m j) (colZ B c k) m = z at *
          obtain ⟨t0, t1, t2⟩ := (unhide G7).cells (b := L) (x0 := .int .i64 r) (x1 := .int .i64 c) (x2 := v) (by simp)
          have hzL : L < w7.heap.size := heap_gt t0
          have B3 : Hid (L + 1 ≤ (w7.alloc (.cells #[.int .i64 z] 3)).heap.size) := by
            show _ ≤ _
            simp
            omega
          go_wp2_with (at_builtin; refine wpList_append_at rfl _ _ rfl (L + 1) _ _ _ rfl ((unhide G7).1.alloc _) ⟨w7.heap.size, 0, none⟩ 1 1 [.int .i64 z] rfl rfl (news_one _ _ _) (one_cell _) ⟨by decide, by decide⟩ (unhide hq1) (unhide B3) ?_; intro v' w8 hown hgrow hwh; obtain ⟨g', cap', rfl⟩ := ownsRow_succ hown; have G8 := hide (GA.app (unhide G7) (unhide EZ) hown hgrow hwh); clear hown hgrow hwh t0 t1 t2; have q2 : w8.cell? ⟨L, 2, none⟩ = some v := (Blk.cell ((unhide G8).2.1 _ List.mem_cons_self).1 2); have q3 := Blk.free ((unhide G8).2.1 _ List.mem_cons_self).1 2)
          have HP : Hid (∃ v, GA w R [(L, #[.int .i64 r, .int .i64 c, v]), (w.heap.size, #[.int .i64 r, .int .i64 m, .slice (some ⟨b, o, none⟩) l1 p1]), (w.heap.size + 1, #[.int .i64 m, .int .i64 c, .slice (some ⟨b2, o2, none⟩) l2 p2]), (w.heap.size + 1 + 1, #[.int .i64 0, .int .i64 0, .slice none 0 0])] [(ao1, m, rowZ A m j)] (L + 1) Y (c0 || orC (mulG A B m c) (j * c + (k + 1))) (n + 2 * (m : Int) * ((j * c + (k + 1) : Nat) : Int)) (j * c + (k + 1)) v (w8.setCell ⟨L, 2, none⟩ (.slice (some ⟨g', 0, none⟩) (q + 1) cap'))) := by
            have h9 := (unhide G8).set (u := .slice (some ⟨g', 0, none⟩) (q + 1) cap') (by have := unhide HLs; simp; omega) (by simp; exact (unhide G5).2)
            show ∃ v, _
            refine ⟨.slice (some ⟨g', 0, none⟩) (q + 1) cap', ?_⟩
            have e : j * c + (k + 1) = q + 1 := by rw [← hq]; rfl
            have e1 := unhide E1
            have e2 := unhide E2
            rw [hq] at e1 e2
            rw [e, e1, e2]
            exact h9
          go_roundw
          case rel => exact ⟨k + 1, unhide C4, by go_num, HP⟩
          case measure => have := unhide C4; simp [intOf]; omega
        · obtain rfl : k = c := by omega
          have HP : Hid (∃ v, GA w R [(L, #[.int .i64 r, .int .i64 k, v]), (w.heap.size, #[.int .i64 r, .int .i64 m, .slice (some ⟨b, o, none⟩) l1 p1]), (w.heap.size + 1, #[.int .i64 m, .int .i64 k, .slice (some ⟨b2, o2, none⟩) l2 p2]), (w.heap.size + 1 + 1, #[.int .i64 0, .int .i64 0, .slice none 0 0])] [] (L + 1) Y (c0 || orC (mulG A B m k) ((j + 1) * k)) (n + 2 * (m : Int) * (((j + 1) * k : Nat) : Int)) ((j + 1) * k) v wr) := by
            have e : (j + 1) * k = j * k + k := by rw [Nat.add_mul, Nat.one_mul]
            show ∃ v, _
            rw [e]
            exact ⟨v, (unhide HI).sub (by simp)⟩
          clear HI0 HI
          go_wp2
          go_roundw
          case rel => exact ⟨j + 1, unhide B4, by go_num, HP⟩
          case measure => have := unhide B4; simp [intOf]; omega
    · obtain rfl : j = r := by omega
      obtain ⟨h0, hbx, _, hu, hk, hl1, hl2, _⟩ := unhide HI
      obtain ⟨ao2, cap2, rfl, g1, g3, g4⟩ := owns_rowC h0
      obtain ⟨t0, t1, t2⟩ := (unhide HI).cells (b := L) (x0 := .int .i64 j) (x1 := .int .i64 c) (x2 := (.slice ao2 (j * c) cap2)) (by simp)
      obtain ⟨s0, s1, s2⟩ := (unhide HI).cells (b := w.heap.size + 1 + 1) (x0 := .int .i64 0) (x1 := .int .i64 0) (x2 := .slice none 0 0) (by simp)
      have b2 := (hbx (w.heap.size + 1 + 1, #[.int .i64 0, .int .i64 0, .slice none 0 0]) (by simp)).1
      have f := Blk.free b2
      have R6 := hide (And.intro b2 (And.intro g1 (And.intro g3 (And.intro g4 (And.intro hu (And.intro hk (And.intro hl1 hl2)))))))
      clear h0 hu hk g1 g3 g4 HI hl1 hl2 hbx b2 HI0
      generalize hjc : j * c = len at *
      go_wp2
      obtain ⟨b2, g1, g3, g4, hu, hk, hl1, hl2⟩ := unhide R6
      have P := putM b2 (.int .i64 j) (.int .i64 c) (.slice ao2 len cap2)
      generalize (((wr.setCell ⟨w.heap.size + 1 + 1, 0, none⟩ (.int .i64 j)).setCell ⟨w.heap.size + 1 + 1, 1, none⟩ (.int .i64 c)).setCell ⟨w.heap.size + 1 + 1, 2, none⟩ (.slice ao2 len cap2)) = wE at *
      have c0 : wE.cell? ⟨w.heap.size + 1 + 1, 0, none⟩ = some (.int .i64 j) := Blk.cell P.1 0
      have c1 : wE.cell? ⟨w.heap.size + 1 + 1, 1, none⟩ = some (.int .i64 c) := Blk.cell P.1 1
      have c2 : wE.cell? ⟨w.heap.size + 1 + 1, 2, none⟩ = some (.slice ao2 len cap2) := Blk.cell P.1 2
      refine bodyPost_ret (v := .tuple #[.agg #[.int .i64 j, .int .i64 c, .slice ao2 len cap2], .int .i64 0]) (by simp [results, Try.results28, go_sem, c0, c1, c2]) rfl ?_
      have := unhide HLs
      exact (show DocP _ _ _ _ _ _ _ _ _ from ⟨_, _, rfl, g1, g3.mod P.2 (g4 _ (by omega)), fun U hU => g4 U (by omega), Blk.keep hu P.2 (by omega), hk.new P.2 (by omega)⟩)


set_option maxHeartbeats 2000000 in
theorem refMul_bad (R : Nat) (R1 C1 R2 C2 : Int) (a1 a2 : Option Addr) (l1 p1 l2 p2 : Nat) (Z : Nat → Int) (hb : ¬ (okM R1 C1 l1 ∧ okM R2 C2 l2 ∧ C1 = R2)) (c0 : Bool) (n : Int) (w : World) (h : RC R c0 n w) :
    Calls Try.prog 28 #[.pointer (some ⟨R, 0, none⟩), .agg #[.int .i64 R1, .int .i64 C1, .slice a1 l1 p1], .agg #[.int .i64 R2, .int .i64 C2, .slice a2 l2 p2]] w fun e w' => DocP 0 0 0 Z 3 (fun w' => RC R c0 n w' ∧ Mk R w w') w e w' := by
  have A1 := hide (fun w => refMCheck R1 C1 a1 l1 p1 w)
  have A2 := hide (fun w => refMCheck R2 C2 a2 l2 p2 w)
  have lR := Blk.lt h
  obtain ⟨G, s3, x0, x1, x2⟩ := alloc3 w #[.int .i64 R1, .int .i64 C1, .slice a1 l1 p1] 24 #[.int .i64 R2, .int .i64 C2, .slice a2 l2 p2] 24 #[.int .i64 0, .int .i64 0, .slice none 0 0] 24
  have S0 := hide (And.intro G (And.intro x0 (And.intro x1 (And.intro x2 (And.intro h lR)))))
  clear h lR G s3 x0 x1 x2
  by_cases h1 : okM R1 C1 l1
  · rw [chk_ok h1] at A1
    by_cases h2 : okM R2 C2 l2
    · rw [chk_ok h2] at A2
      have h3 : ¬ C1 = R2 := fun e => hb ⟨h1, h2, e⟩
      have b3 : (C1 != R2) = true := by simpa using h3
      clear h1 h2 hb h3
      go_enter Try.func28, Try.ntmps28
      go_wp2_with fail
      generalize (((w.alloc (.cells #[.int .i64 R1, .int .i64 C1, .slice a1 l1 p1] 24)).alloc (.cells #[.int .i64 R2, .int .i64 C2, .slice a2 l2 p2] 24)).alloc (.cells #[.int .i64 0, .int .i64 0, .slice none 0 0] 24)) = w1 at *
      refine (unhide A1 _).mono ?_
      rintro e w2 ⟨rfl, g2⟩
      have S1 := hide g2
      have y2' : w2.cell? ⟨w.heap.size + 1, 0, none⟩ = some (.int .i64 R2) := Blk.cell (Blk.grown (unhide S0).2.2.1 g2) 0
      have y3' : w2.cell? ⟨w.heap.size + 1, 1, none⟩ = some (.int .i64 C2) := Blk.cell (Blk.grown (unhide S0).2.2.1 g2) 1
      have y4' : w2.cell? ⟨w.heap.size + 1, 2, none⟩ = some (.slice a2 l2 p2) := Blk.cell (Blk.grown (unhide S0).2.2.1 g2) 2
      clear g2
      go_wp2_with fail
      refine (unhide A2 _).mono ?_
      rintro e w3 ⟨rfl, g3⟩
      have S2 := hide (gtrans (unhide S1) g3)
      clear g3
      have e1' : w3.cell? ⟨w.heap.size, 1, none⟩ = some (.int .i64 C1) := Blk.cell (Blk.grown (unhide S0).2.1 (unhide S2)) 1
      have f0' : w3.cell? ⟨w.heap.size + 1, 0, none⟩ = some (.int .i64 R2) := Blk.cell (Blk.grown (unhide S0).2.2.1 (unhide S2)) 0
      have b2 := Blk.grown (unhide S0).2.2.2.1 (unhide S2)
      have e0 : w3.cell? ⟨w.heap.size + 1 + 1, 0, none⟩ = some (.int .i64 0) := Blk.cell b2 0
      have e1 : w3.cell? ⟨w.heap.size + 1 + 1, 1, none⟩ = some (.int .i64 0) := Blk.cell b2 1
      have e2 : w3.cell? ⟨w.heap.size + 1 + 1, 2, none⟩ = some (.slice none 0 0) := Blk.cell b2 2
      have f := Blk.free b2
      have R6 := hide b2
      clear b2
      go_wp2
      have b2 := unhide R6
      have P := putM b2 (.int .i64 0) (.int .i64 0) (.slice none 0 0)
      generalize (((w3.setCell ⟨w.heap.size + 1 + 1, 0, none⟩ (.int .i64 0)).setCell ⟨w.heap.size + 1 + 1, 1, none⟩ (.int .i64 0)).setCell ⟨w.heap.size + 1 + 1, 2, none⟩ (.slice none 0 0)) = wE at *
      have c0 : wE.cell? ⟨w.heap.size + 1 + 1, 0, none⟩ = some (.int .i64 0) := Blk.cell P.1 0
      have c1 : wE.cell? ⟨w.heap.size + 1 + 1, 1, none⟩ = some (.int .i64 0) := Blk.cell P.1 1
      have c2 : wE.cell? ⟨w.heap.size + 1 + 1, 2, none⟩ = some (.slice none 0 0) := Blk.cell P.1 2
      refine bodyPost_ret (v := .tuple #[.agg #[.int .i64 0, .int .i64 0, .slice none 0 0], .int .i64 3]) (by simp [results, Try.results28, go_sem, c0, c1, c2]) rfl ?_
      obtain ⟨G, _, _, _, h, lR⟩ := unhide S0
      have gg := gtrans G (unhide S2)
      exact (show DocP _ _ _ _ _ _ _ _ _ from ⟨_, _, rfl, Nat.le_refl _, Or.inl rfl, fun U hU hl => absurd hl (Nat.lt_irrefl _), Blk.keep (Blk.grown h gg) P.2 (by omega), (Mk.of (Mod.of gg)).new P.2 (by omega)⟩)
    · rw [chk_bad h2] at A2
      clear h1 h2 hb
      go_enter Try.func28, Try.ntmps28
      go_wp2_with fail
      generalize (((w.alloc (.cells #[.int .i64 R1, .int .i64 C1, .slice a1 l1 p1] 24)).alloc (.cells #[.int .i64 R2, .int .i64 C2, .slice a2 l2 p2] 24)).alloc (.cells #[.int .i64 0, .int .i64 0, .slice none 0 0] 24)) = w1 at *
      refine (unhide A1 _).mono ?_
      rintro e w2 ⟨rfl, g2⟩
      have S1 := hide g2
      have y2' : w2.cell? ⟨w.heap.size + 1, 0, none⟩ = some (.int .i64 R2) := Blk.cell (Blk.grown (unhide S0).2.2.1 g2) 0
      have y3' : w2.cell? ⟨w.heap.size + 1, 1, none⟩ = some (.int .i64 C2) := Blk.cell (Blk.grown (unhide S0).2.2.1 g2) 1
      have y4' : w2.cell? ⟨w.heap.size + 1, 2, none⟩ = some (.slice a2 l2 p2) := Blk.cell (Blk.grown (unhide S0).2.2.1 g2) 2
      clear g2
      go_wp2_with fail
      refine (unhide A2 _).mono ?_
      rintro e w3 ⟨rfl, g3⟩
      have S2 := hide (gtrans (unhide S1) g3)
      clear g3
      have b2 := Blk.grown (unhide S0).2.2.2.1 (unhide S2)
      have e0 : w3.cell? ⟨w.heap.size + 1 + 1, 0, none⟩ = some (.int .i64 0) := Blk.cell b2 0
      have e1 : w3.cell? ⟨w.heap.size + 1 + 1, 1, none⟩ = some (.int .i64 0) := Blk.cell b2 1
      have e2 : w3.cell? ⟨w.heap.size + 1 + 1, 2, none⟩ = some (.slice none 0 0) := Blk.cell b2 2
      have f := Blk.free b2
      have R6 := hide b2
      clear b2
      go_wp2
      have b2 := unhide R6
      have P := putM b2 (.int .i64 0) (.int .i64 0) (.slice none 0 0)
      generalize (((w3.setCell ⟨w.heap.size + 1 + 1, 0, none⟩ (.int .i64 0)).setCell ⟨w.heap.size + 1 + 1, 1, none⟩ (.int .i64 0)).setCell ⟨w.heap.size + 1 + 1, 2, none⟩ (.slice none 0 0)) = wE at *
      have c0 : wE.cell? ⟨w.heap.size + 1 + 1, 0, none⟩ = some (.int .i64 0) := Blk.cell P.1 0
      have c1 : wE.cell? ⟨w.heap.size + 1 + 1, 1, none⟩ = some (.int .i64 0) := Blk.cell P.1 1
      have c2 : wE.cell? ⟨w.heap.size + 1 + 1, 2, none⟩ = some (.slice none 0 0) := Blk.cell P.1 2
      refine bodyPost_ret (v := .tuple #[.agg #[.int .i64 0, .int .i64 0, .slice none 0 0], .int .i64 3]) (by simp [results, Try.results28, go_sem, c0, c1, c2]) rfl ?_
      obtain ⟨G, _, _, _, h, lR⟩ := unhide S0
      have gg := gtrans G (unhide S2)
      exact (show DocP _ _ _ _ _ _ _ _ _ from ⟨_, _, rfl, Nat.le_refl _, Or.inl rfl, fun U hU hl => absurd hl (Nat.lt_irrefl _), Blk.keep (Blk.grown h gg) P.2 (by omega), (Mk.of (Mod.of gg)).new P.2 (by omega)⟩)
  · rw [chk_bad h1] at A1
    clear h1 hb A2
    go_enter Try.func28, Try.ntmps28
    go_wp2_with fail
    generalize (((w.alloc (.cells #[.int .i64 R1, .int .i64 C1, .slice a1 l1 p1] 24)).alloc (.cells #[.int .i64 R2, .int .i64 C2, .slice a2 l2 p2] 24)).alloc (.cells #[.int .i64 0, .int .i64 0, .slice none 0 0] 24)) = w1 at *
    refine (unhide A1 _).mono ?_
    rintro e w2 ⟨rfl, g2⟩
    have S1 := hide g2
    clear g2
    have b2 := Blk.grown (unhide S0).2.2.2.1 (unhide S1)
    have e0 : w2.cell? ⟨w.heap.size + 1 + 1, 0, none⟩ = some (.int .i64 0) := Blk.cell b2 0
    have e1 : w2.cell? ⟨w.heap.size + 1 + 1, 1, none⟩ = some (.int .i64 0) := Blk.cell b2 1
    have e2 : w2.cell? ⟨w.heap.size + 1 + 1, 2, none⟩ = some (.slice none 0 0) := Blk.cell b2 2
    have f := Blk.free b2
    have R6 := hide b2
    clear b2
    go_wp2
    have b2 := unhide R6
    have P := putM b2 (.int .i64 0) (.int .i64 0) (.slice none 0 0)
    generalize (((w2.setCell ⟨w.heap.size + 1 + 1, 0, none⟩ (.int .i64 0)).setCell ⟨w.heap.size + 1 + 1, 1, none⟩ (.int .i64 0)).setCell ⟨w.heap.size + 1 + 1, 2, none⟩ (.slice none 0 0)) = wE at *
    have c0 : wE.cell? ⟨w.heap.size + 1 + 1, 0, none⟩ = some (.int .i64 0) := Blk.cell P.1 0
    have c1 : wE.cell? ⟨w.heap.size + 1 + 1, 1, none⟩ = some (.int .i64 0) := Blk.cell P.1 1
    have c2 : wE.cell? ⟨w.heap.size + 1 + 1, 2, none⟩ = some (.slice none 0 0) := Blk.cell P.1 2
    refine bodyPost_ret (v := .tuple #[.agg #[.int .i64 0, .int .i64 0, .slice none 0 0], .int .i64 3]) (by simp [results, Try.results28, go_sem, c0, c1, c2]) rfl ?_
    obtain ⟨G, _, _, _, h, lR⟩ := unhide S0
    have gg := gtrans G (unhide S1)
    exact (show DocP _ _ _ _ _ _ _ _ _ from ⟨_, _, rfl, Nat.le_refl _, Or.inl rfl, fun U hU hl => absurd hl (Nat.lt_irrefl _), Blk.keep (Blk.grown h gg) P.2 (by omega), (Mk.of (Mod.of gg)).new P.2 (by omega)⟩)

set_option maxHeartbeats 2000000 in
theorem refApply_bad (R : Nat) (R1 C1 : Int) (a1 xo : Option Addr) (l1 p1 xl xc : Nat) (Z : Nat → Int) (hb : ¬ (okM R1 C1 l1 ∧ (xl : Int) = C1)) (c0 : Bool) (n : Int) (w : World) (h : RC R c0 n w) :
    Calls Try.prog 30 #[.pointer (some ⟨R, 0, none⟩), .agg #[.int .i64 R1, .int .i64 C1, .slice a1 l1 p1], .slice xo xl xc] w fun e w' => LiD 0 Z 3 (fun w' => RC R c0 n w' ∧ Mk R w w') w e w' := by
  have A1 := hide (fun w => refMCheck R1 C1 a1 l1 p1 w)
  have S0 : Hid (Grown w (w.alloc (.cells #[.int .i64 R1, .int .i64 C1, .slice a1 l1 p1] 24)) ∧ Blk w.heap.size #[.int .i64 R1, .int .i64 C1, .slice a1 l1 p1] 24 (w.alloc (.cells #[.int .i64 R1, .int .i64 C1, .slice a1 l1 p1] 24)) ∧ RC R c0 n w) := ⟨(Grown.refl _).alloc _ _, Blk.new w _ _, h⟩
  clear h
  by_cases h1 : okM R1 C1 l1
  · rw [chk_ok h1] at A1
    have h3 : ¬ C1 = (xl : Int) := fun e => hb ⟨h1, e.symm⟩
    have b3 : (C1 != (xl : Int)) = true := by simpa using h3
    clear h1 hb h3
    go_enter Try.func30, Try.ntmps30
    go_wp2_with fail
    generalize w.alloc (.cells #[.int .i64 R1, .int .i64 C1, .slice a1 l1 p1] 24) = w1 at *
    refine (unhide A1 _).mono ?_
    rintro e w2 ⟨rfl, g2⟩
    have S1 := hide g2
    have y1 : w2.cell? ⟨w.heap.size, 1, none⟩ = some (.int .i64 C1) := Blk.cell (Blk.grown (unhide S0).2.1 g2) 1
    clear g2
    go_wp2
    go_ret2
    obtain ⟨G, _, h⟩ := unhide S0
    have gg := gtrans G (unhide S1)
    exact (show LiD _ _ _ _ _ _ _ from ⟨_, _, rfl, Nat.le_refl _, Or.inl rfl, fun U hU hl => absurd hl (Nat.lt_irrefl _), Blk.grown h gg, Mk.of (Mod.of gg)⟩)
  · rw [chk_bad h1] at A1
    clear h1 hb
    go_enter Try.func30, Try.ntmps30
    go_wp2_with fail
    generalize w.alloc (.cells #[.int .i64 R1, .int .i64 C1, .slice a1 l1 p1] 24) = w1 at *
    refine (unhide A1 _).mono ?_
    rintro e w2 ⟨rfl, g2⟩
    have S1 := hide g2
    clear g2
    go_wp2
    go_ret2
    obtain ⟨G, _, h⟩ := unhide S0
    have gg := gtrans G (unhide S1)
    exact (show LiD _ _ _ _ _ _ _ from ⟨_, _, rfl, Nat.le_refl _, Or.inl rfl, fun U hU hl => absurd hl (Nat.lt_irrefl _), Blk.grown h gg, Mk.of (Mod.of gg)⟩)

theorem refMulAny (R : Nat) (c0 : Bool) (n0 : Int) (hn : 0 ≤ n0 ∧ n0 < 1152921504606846976) (R1 C1 R2 C2 : Int) (a1 a2 : Option Addr) (l1 p1 l2 p2 : Nat) (A B : Nat → Int) (hp : l1 ≤ p1) (hA : ∀ j, j < l1 → I64 (A j)) (hB : ∀ j, j < l2 → I64 (B j)) (w : World) (h : RC R c0 n0 w) (ra : Row w a1 l1 A) (oa : Off R l1 a1) (rb : Row w a2 l2 B) (ob : Off R l2 a2) (q : MO) (hq : mulO R1 C1 R2 C2 l1 l2 A B c0 n0 = q) :
    Calls Try.prog 28 #[.pointer (some ⟨R, 0, none⟩), .agg #[.int .i64 R1, .int .i64 C1, .slice a1 l1 p1], .agg #[.int .i64 R2, .int .i64 C2, .slice a2 l2 p2]] w fun e w' => DocP q.r q.c q.len q.Z q.err (fun w' => RC R q.cut q.n w' ∧ Mk R w w') w e w' := by
  subst hq
  unfold mulO
  by_cases hg : okM R1 C1 l1 ∧ okM R2 C2 l2 ∧ C1 = R2
  · rw [if_pos hg]
    obtain ⟨h1, h2, h3⟩ := hg
    obtain ⟨r, m, rfl, rfl, hr, hm, e1, k1, k2⟩ := h1.nat
    obtain ⟨m', c, e2, rfl, hm', hc, e3, k3, k4⟩ := h2.nat
    obtain rfl : m = m' := by omega
    obtain ⟨b, o, rfl, za⟩ := ra.some k1
    obtain ⟨b2, o2, rfl, zb⟩ := rb.some k3
    subst h3
    exact refMul_ok R c0 n0 hn r m c l1 p1 l2 p2 b o b2 o2 A B hr hm hc e1 e3 hp hA hB w h za zb (off_at oa k1) (off_at ob k3)
  · rw [if_neg hg]
    exact refMul_bad R R1 C1 R2 C2 a1 a2 l1 p1 l2 p2 A hg c0 n0 w h
theorem refAppAny (R : Nat) (c0 : Bool) (n0 : Int) (hn : 0 ≤ n0 ∧ n0 < 1152921504606846976) (R1 C1 : Int) (a1 xo : Option Addr) (l1 p1 xl xc : Nat) (A X : Nat → Int) (hp : l1 ≤ p1) (hA : ∀ j, j < l1 → I64 (A j)) (hX : ∀ j, j < xl → I64 (X j)) (w : World) (h : RC R c0 n0 w) (ra : Row w a1 l1 A) (oa : Off R l1 a1) (rx : Row w xo xl X) (ox : Off R xl xo) (q : MO) (hq : appO R1 C1 l1 xl A X c0 n0 = q) :
    Calls Try.prog 30 #[.pointer (some ⟨R, 0, none⟩), .agg #[.int .i64 R1, .int .i64 C1, .slice a1 l1 p1], .slice xo xl xc] w fun e w' => LiD q.len q.Z q.err (fun w' => RC R q.cut q.n w' ∧ Mk R w w') w e w' := by
  subst hq
  unfold appO
  by_cases hg : okM R1 C1 l1 ∧ (xl : Int) = C1
  · rw [if_pos hg]
    obtain ⟨h1, h2⟩ := hg
    obtain ⟨r, m, rfl, e, hr, hm, e1, k1, k2⟩ := h1.nat
    obtain rfl : xl = m := by omega
    obtain ⟨b, o, rfl, za⟩ := ra.some k1
    subst e
    exact refApply_ok R c0 n0 hn r xl l1 p1 xc b o xo A X hr hm e1 hp hA hX w h za rx (off_at oa k1) ox
  · rw [if_neg hg]
    exact refApply_bad R R1 C1 a1 xo l1 p1 xl xc A hg c0 n0 w h
theorem refRowAny (R1 C1 : Int) (a1 : Option Addr) (l1 p1 : Nat) (A : Nat → Int) (i : Int) (hp : l1 ≤ p1) (w : World) (ra : Row w a1 l1 A) (q : MO) (hq : rowO R1 C1 l1 A i = q) :
    Calls Try.prog 19 #[.agg #[.int .i64 R1, .int .i64 C1, .slice a1 l1 p1], .int .i64 i] w fun e w' => LiD q.len q.Z q.err (Kp w) w e w' := by
  subst hq
  unfold rowO
  by_cases hg : okM R1 C1 l1
  · obtain ⟨r, c, rfl, rfl, hr, hc, e1, k1, k2⟩ := hg.nat
    obtain ⟨b, o, rfl, za⟩ := ra.some k1
    by_cases hi : 0 ≤ i ∧ i < (r : Int)
    · rw [if_pos ⟨hg, hi.1, hi.2⟩]
      obtain ⟨k, rfl⟩ : ∃ k : Nat, i = k := ⟨i.toNat, by omega⟩
      exact refRow_ok r c k l1 p1 b o A hr hc (by omega) e1 hp w za
    · rw [if_neg (fun h => hi ⟨h.2.1, h.2.2⟩)]
      exact refRow_no r c i (some ⟨b, o, none⟩) l1 p1 A hg (by omega) w
  · rw [if_neg (fun h => hg h.1)]
    exact refRow_bad R1 C1 i a1 l1 p1 A hg w


end Go.Proofs.Ytcobicnpdmgnjaa

/- The document's mat: Diag, Eye. -/
namespace Go.Proofs.Ytcobicnpdmgnjaa
open Go.RowKit Go.Shelf Go.Proofs.Wd
set_option linter.unusedVariables false
set_option linter.unusedSimpArgs false

theorem noPanic_normalE {Q : Exit → Act → World → Prop} {a : Act} {w : World} (h : Q .normal a w) : NoPanic Q .normal a w := h
theorem wrapPi (a b p : Nat) (h : a * b = p) (hp : p ≤ 1000000) : IntKind.i64.wrap ((a : Int) * (b : Int)) = (p : Int) := by
  rw [IntKind.wrap_i64, ← Int.natCast_mul, h]
  omega
theorem wrapAi (a b p : Nat) (h : a + b = p) (hp : p ≤ 1000000) : IntKind.i64.wrap ((a : Int) + (b : Int)) = (p : Int) := by
  rw [IntKind.wrap_i64, ← Int.natCast_add, h]
  omega
/-- A diagonal under way. -/
def dgZ (L : Nat → Int) (n k : Nat) : Nat → Int := fun p => if p / n = p % n ∧ p / n < k then L (p / n) else 0
theorem dgZ_zero (L : Nat → Int) (n : Nat) : (fun _ => (0 : Int)) = dgZ L n 0 := by
  funext p
  unfold dgZ
  rw [if_neg (fun h => Nat.not_lt_zero _ h.2)]
theorem dgZ_succ (L : Nat → Int) (n k p : Nat) (hk : k < n) : (if p = k * n + k then L k else dgZ L n k p) = dgZ L n (k + 1) p := by
  by_cases e : p = k * n + k
  · rw [if_pos e, e]
    unfold dgZ
    rw [place_div k k n hk, place_mod k k n hk, if_pos ⟨rfl, Nat.lt_succ_self _⟩]
  · rw [if_neg e]
    unfold dgZ
    by_cases h : p / n = p % n ∧ p / n < k
    · rw [if_pos h, if_pos ⟨h.1, by omega⟩]
    · rw [if_neg h, if_neg]
      rintro ⟨h1, h2⟩
      have h3 : p / n = k := by
        have : ¬ p / n < k := fun h3 => h ⟨h1, h3⟩
        omega
      have := place_eq p n
      rw [← h1, h3] at this
      exact e this.symm
theorem dgZ_all (L : Nat → Int) (n p : Nat) (h : p < n * n) : dgZ L n n p = diagZ L n p := by
  have := place_lt p n n h
  unfold dgZ diagZ
  by_cases e : p / n = p % n
  · rw [if_pos ⟨e, this.1⟩, if_pos e]
  · rw [if_neg (fun h => e h.1), if_neg e]
def DgI (w : World) (n nn : Nat) (L : Nat → Int) (k : Nat) (wr : World) : Prop :=
  Blk w.heap.size #[.int .i64 0, .int .i64 0, .slice none 0 0] 24 wr ∧ Blk (w.heap.size + 1) (ints nn (dgZ L n k)) 3 wr ∧ Blk (w.heap.size + 1 + 1) #[.int .i64 n, .int .i64 n, .slice (some ⟨w.heap.size + 1, 0, none⟩) nn nn] 24 wr ∧ Kp w wr
theorem DgI.set {w wr : World} {n nn k p : Nat} {L : Nat → Int} {x : Int} (h : DgI w n nn L k wr) (hk : k < n) (hp : k * n + k = p) (hx : L k = x) : DgI w n nn L (k + 1) (wr.setCell ⟨w.heap.size + 1, p, none⟩ (.int .i64 x)) := by
  obtain ⟨h1, h2, h3, h4⟩ := h
  have q : Mod (w.heap.size + 1) wr (wr.setCell ⟨w.heap.size + 1, p, none⟩ (.int .i64 x)) := (Mod.refl _ _).setCell _ _
  refine ⟨Blk.keep h1 q (by omega), ?_, Blk.keep h3 q (by omega), h4.mod q (by omega)⟩
  have := Blk.setI h2 p x
  rwa [ints_congr nn _ (dgZ L n (k + 1)) (fun i hi => by rw [← hp, ← hx]; exact dgZ_succ L n k i hk)] at this


set_option maxRecDepth 20000 in
set_option maxHeartbeats 4000000 in
theorem refDiag_ok (n cap : Nat) (ao : Option Addr) (L : Nat → Int) (hn : 1 ≤ n ∧ n ≤ 12) (w : World) (hr : Row w ao n L) :
    Calls Try.prog 15 #[.slice ao n cap] w fun e w' => DocP n n (n * n) (diagZ L n) 0 (Kp w) w e w' := by
  obtain ⟨nn, hnn⟩ : ∃ nn, n * n = nn := ⟨_, rfl⟩
  have hb : nn ≤ 144 := by have := mul12n n n hn hn; omega
  have h0 : 1 ≤ (n : Int) := by omega
  have h1 : (n : Int) ≤ 12 := by omega
  have nn6 : nn ≤ 1000000 := by omega
  rw [hnn]
  have EN := hide hnn
  have MK := make_ints nn nn6
  obtain ⟨G, s3, x0, x1, x2⟩ := alloc3 w #[.int .i64 0, .int .i64 0, .slice none 0 0] 24 (ints nn (fun _ => 0)) 3 #[.int .i64 n, .int .i64 n, .slice (some ⟨w.heap.size + 1, 0, none⟩) nn nn] 24
  have ST : Hid (DgI w n nn L 0 (((w.alloc (.cells #[.int .i64 0, .int .i64 0, .slice none 0 0] 24)).alloc (.cells (ints nn (fun _ => 0)) 3)).alloc (.cells #[.int .i64 n, .int .i64 n, .slice (some ⟨w.heap.size + 1, 0, none⟩) nn nn] 24))) := by
    refine ⟨x0, ?_, x2, Kp.of G⟩
    rw [← dgZ_zero]
    exact x1
  have HR := hide hr
  have wa : wrap64 ((n : Int) * (n : Int)) = (nn : Int) := wrapP n n nn hnn nn6
  clear hr G s3 x0 x1 x2 hnn hn
  go_enter Try.func15, Try.ntmps15
  go_wp2_with fail
  generalize (((w.alloc (.cells #[.int .i64 0, .int .i64 0, .slice none 0 0] 24)).alloc (.cells (ints nn (fun _ => 0)) 3)).alloc (.cells #[.int .i64 n, .int .i64 n, .slice (some ⟨w.heap.size + 1, 0, none⟩) nn nn] 24)) = w1 at *
  clear MK wa
  go_loopw [6] (fun i wr => ∃ k : Nat, k ≤ n ∧ i = .int .i64 k ∧ Hid (DgI w n nn L k wr)) (fun i _ => n - (intOf i).toNat)
  case atStart => exact ⟨0, Nat.zero_le _, rfl, unhide ST⟩
  case round =>
    obtain ⟨k, hk, rfl, HI⟩ := hrel
    clear ST
    by_cases hlt : k < n
    · obtain ⟨b, o, rfl, hc⟩ := (unhide HR).at hlt
      obtain ⟨m, hm⟩ : ∃ m, k * n = m := ⟨_, rfl⟩
      obtain ⟨p, hp⟩ : ∃ p, m + k = p := ⟨_, rfl⟩
      have hpl : p < nn := by
        have h1 := place_in k k n n hlt hlt
        rw [unhide EN, hm, hp] at h1
        exact h1
      obtain ⟨x, ex⟩ : ∃ x, L k = x := ⟨_, rfl⟩
      rw [ex] at hc
      have hc1 : wr.cell? ⟨b, o + k, none⟩ = some (.int .i64 x) := (unhide HI).2.2.2.cell hc
      have hc2 : wr.cell? ⟨w.heap.size + 1 + 1, 2, none⟩ = some (.slice (some ⟨w.heap.size + 1, 0, none⟩) nn nn) := Blk.cell (unhide HI).2.2.1 2
      obtain ⟨y, hc3⟩ : ∃ y, wr.cell? ⟨w.heap.size + 1, p, none⟩ = some (.int .i64 y) := ⟨_, by rw [Blk.cell (unhide HI).2.1, ints_at nn _ p hpl]⟩
      have hfz : wr.frozen? ⟨w.heap.size + 1, p, none⟩ = false := Blk.free (unhide HI).2.1 p
      have HP : Hid (DgI w n nn L (k + 1) (wr.drew.setCell ⟨w.heap.size + 1, p, none⟩ (.int .i64 x))) := DgI.set (wr := wr.drew) (unhide HI) hlt (by rw [hm]; exact hp) ex
      have i0 : (0 : Int) ≤ (k : Int) := by omega
      have i1 : (k : Int) < (n : Int) := by omega
      have i2 : (0 : Int) ≤ (p : Int) := by omega
      have i3 : (p : Int) < (nn : Int) := by omega
      have hk1 : k ≤ 1000000 := by omega
      have hm6 : m ≤ 1000000 := by omega
      have hp6 : p ≤ 1000000 := by omega
      have B4 : Hid (k + 1 ≤ n) := hlt
      have wa : IntKind.i64.wrap ((k : Int) * (n : Int)) = (m : Int) := wrapPi k n m hm hm6
      have wb : IntKind.i64.wrap ((m : Int) + (k : Int)) = (p : Int) := wrapAi m k p hp hp6
      clear hm hp ex hc HI hpl
      go_wp2
      refine region_G (fun w' => w'.cell? ⟨b, o + k, none⟩ = some (.int .i64 x) ∧ w'.cell? ⟨w.heap.size + 1 + 1, 2, none⟩ = some (.slice (some ⟨w.heap.size + 1, 0, none⟩) nn nn)) 12 (by kernel_rfl) ⟨hc1, hc2⟩ (fun hHeld => ?_)
      refine take_G (i := 0) (d := 28) (v := .pointer (some ⟨w.heap.size + 1 + 1, 2, none⟩)) rfl rfl (by kernel_rfl) (by kernel_rfl) (by kernel_rfl) (by kernel_rfl) (by kernel_rfl) (Or.inl ⟨by rfl, ?_⟩) (by assumption) ?_
      · intro w hSw
        (try dsimp only at hSw)
        go_simp
      (try simp only [Act.put, List.setIfInBounds_toArray, List.set_cons_zero, List.set_cons_succ])
      refine take_G (i := 1) (d := 29) (v := .slice (some ⟨w.heap.size + 1, 0, none⟩) nn nn) rfl rfl (by kernel_rfl) (by kernel_rfl) (by kernel_rfl) (by kernel_rfl) (by kernel_rfl) (Or.inl ⟨by rfl, ?_⟩) (by assumption) ?_
      · intro w hSw
        (try dsimp only at hSw)
        go_simp
      (try simp only [Act.put, List.setIfInBounds_toArray, List.set_cons_zero, List.set_cons_succ])
      refine take_G (i := 2) (d := 30) (v := .int .i64 (k : Int)) rfl rfl (by kernel_rfl) (by kernel_rfl) (by kernel_rfl) (by kernel_rfl) (by kernel_rfl) (Or.inl ⟨by rfl, ?_⟩) (by assumption) ?_
      · intro w hSw
        (try dsimp only at hSw)
        go_simp
      (try simp only [Act.put, List.setIfInBounds_toArray, List.set_cons_zero, List.set_cons_succ])
      refine take_G (i := 3) (d := 31) (v := .int .i64 (n : Int)) rfl rfl (by kernel_rfl) (by kernel_rfl) (by kernel_rfl) (by kernel_rfl) (by kernel_rfl) (Or.inl ⟨by rfl, ?_⟩) (by assumption) ?_
      · intro w hSw
        (try dsimp only at hSw)
        go_simp
      (try simp only [Act.put, List.setIfInBounds_toArray, List.set_cons_zero, List.set_cons_succ])
      refine take_G (i := 4) (d := 32) (v := .int .i64 (m : Int)) rfl rfl (by kernel_rfl) (by kernel_rfl) (by kernel_rfl) (by kernel_rfl) (by kernel_rfl) (Or.inl ⟨by rfl, ?_⟩) (by assumption) ?_
      · intro w hSw
        (try dsimp only at hSw)
        go_simp
      (try simp only [Act.put, List.setIfInBounds_toArray, List.set_cons_zero, List.set_cons_succ])
      refine take_G (i := 5) (d := 33) (v := .int .i64 (k : Int)) rfl rfl (by kernel_rfl) (by kernel_rfl) (by kernel_rfl) (by kernel_rfl) (by kernel_rfl) (Or.inl ⟨by rfl, ?_⟩) (by assumption) ?_
      · intro w hSw
        (try dsimp only at hSw)
        go_simp
      (try simp only [Act.put, List.setIfInBounds_toArray, List.set_cons_zero, List.set_cons_succ])
      refine take_G (i := 6) (d := 34) (v := .int .i64 (p : Int)) rfl rfl (by kernel_rfl) (by kernel_rfl) (by kernel_rfl) (by kernel_rfl) (by kernel_rfl) (Or.inl ⟨by rfl, ?_⟩) (by assumption) ?_
      · intro w hSw
        (try dsimp only at hSw)
        go_simp
      (try simp only [Act.put, List.setIfInBounds_toArray, List.set_cons_zero, List.set_cons_succ])
      refine take_G (i := 7) (d := 35) (v := .slice (some ⟨b, o, none⟩) n cap) rfl rfl (by kernel_rfl) (by kernel_rfl) (by kernel_rfl) (by kernel_rfl) (by kernel_rfl) (Or.inl ⟨by rfl, ?_⟩) (by assumption) ?_
      · intro w hSw
        (try dsimp only at hSw)
        go_simp
      (try simp only [Act.put, List.setIfInBounds_toArray, List.set_cons_zero, List.set_cons_succ])
      refine take_G (i := 8) (d := 36) (v := .int .i64 (k : Int)) rfl rfl (by kernel_rfl) (by kernel_rfl) (by kernel_rfl) (by kernel_rfl) (by kernel_rfl) (Or.inl ⟨by rfl, ?_⟩) (by assumption) ?_
      · intro w hSw
        (try dsimp only at hSw)
        go_simp
      (try simp only [Act.put, List.setIfInBounds_toArray, List.set_cons_zero, List.set_cons_succ])
      refine take_G (i := 9) (d := 37) (v := .pointer (some ⟨b, o + k, none⟩)) rfl rfl (by kernel_rfl) (by kernel_rfl) (by kernel_rfl) (by kernel_rfl) (by kernel_rfl) (Or.inl ⟨by rfl, ?_⟩) (by assumption) ?_
      · intro w hSw
        (try dsimp only at hSw)
        go_simp
      (try simp only [Act.put, List.setIfInBounds_toArray, List.set_cons_zero, List.set_cons_succ])
      refine take_G (i := 10) (d := 38) (v := .int .i64 x) rfl rfl (by kernel_rfl) (by kernel_rfl) (by kernel_rfl) (by kernel_rfl) (by kernel_rfl) (Or.inl ⟨by rfl, ?_⟩) (by assumption) ?_
      · intro w hSw
        (try dsimp only at hSw)
        go_simp
      (try simp only [Act.put, List.setIfInBounds_toArray, List.set_cons_zero, List.set_cons_succ])
      refine take_G (i := 11) (d := 39) (v := .pointer (some ⟨w.heap.size + 1, p, none⟩)) rfl rfl (by kernel_rfl) (by kernel_rfl) (by kernel_rfl) (by kernel_rfl) (by kernel_rfl) (Or.inl ⟨by rfl, ?_⟩) (by assumption) ?_
      · intro w hSw
        (try dsimp only at hSw)
        go_simp
      (try simp only [Act.put, List.setIfInBounds_toArray, List.set_cons_zero, List.set_cons_succ])
      refine step_G (i := 12) (by kernel_rfl) (fun K hK => ?_)
      refine wpOp_of rfl rfl ?_
      unfold Oper.wp
      go_simp
      refine hK _ _ (fun h => absurd rfl h) ?_
      clear hK K
      refine done_G (by kernel_rfl) ?_
      clear wa wb
      refine noPanic_normalE ?_
      go_wp2
      go_roundw
      case rel => exact ⟨k + 1, unhide B4, by go_num, HP⟩
      case measure => have := unhide B4; simp [intOf]; omega
    · obtain rfl : k = n := by omega
      obtain ⟨b0, b1, b2, kk⟩ := unhide HI
      have y0 : wr.cell? ⟨w.heap.size + 1 + 1, 0, none⟩ = some (.int .i64 k) := Blk.cell b2 0
      have y1 : wr.cell? ⟨w.heap.size + 1 + 1, 1, none⟩ = some (.int .i64 k) := Blk.cell b2 1
      have y2 : wr.cell? ⟨w.heap.size + 1 + 1, 2, none⟩ = some (.slice (some ⟨w.heap.size + 1, 0, none⟩) nn nn) := Blk.cell b2 2
      have e0 : wr.cell? ⟨w.heap.size, 0, none⟩ = some (.int .i64 0) := Blk.cell b0 0
      have e1 : wr.cell? ⟨w.heap.size, 1, none⟩ = some (.int .i64 0) := Blk.cell b0 1
      have e2 : wr.cell? ⟨w.heap.size, 2, none⟩ = some (.slice none 0 0) := Blk.cell b0 2
      have f := Blk.free b0
      have R6 := hide (And.intro b0 (And.intro b1 kk))
      clear b0 b1 b2 kk HI
      go_wp2
      obtain ⟨b0, b1, kk⟩ := unhide R6
      have P := putM b0 (.int .i64 k) (.int .i64 k) (.slice (some ⟨w.heap.size + 1, 0, none⟩) nn nn)
      generalize (((wr.setCell ⟨w.heap.size, 0, none⟩ (.int .i64 k)).setCell ⟨w.heap.size, 1, none⟩ (.int .i64 k)).setCell ⟨w.heap.size, 2, none⟩ (.slice (some ⟨w.heap.size + 1, 0, none⟩) nn nn)) = wE at *
      have c0 : wE.cell? ⟨w.heap.size, 0, none⟩ = some (.int .i64 k) := Blk.cell P.1 0
      have c1 : wE.cell? ⟨w.heap.size, 1, none⟩ = some (.int .i64 k) := Blk.cell P.1 1
      have c2 : wE.cell? ⟨w.heap.size, 2, none⟩ = some (.slice (some ⟨w.heap.size + 1, 0, none⟩) nn nn) := Blk.cell P.1 2
      refine bodyPost_ret (v := .tuple #[.agg #[.int .i64 k, .int .i64 k, .slice (some ⟨w.heap.size + 1, 0, none⟩) nn nn], .int .i64 0]) (by simp [results, Try.results15, go_sem, c0, c1, c2]) rfl ?_
      have row : Row wE (some ⟨w.heap.size + 1, 0, none⟩) nn (diagZ L k) := by
        have r0 := (Blk.row b1).mod P.2 (off_blk (by omega))
        rcases r0 with r0 | ⟨b, o, e, hc⟩
        · exact Or.inl r0
        · exact Or.inr ⟨b, o, e, fun i hi => by rw [hc i hi, dgZ_all L k i (by rw [unhide EN]; exact hi)]⟩
      exact (show DocP _ _ _ _ _ _ _ _ _ from ⟨_, _, rfl, Nat.le_refl _, row, fun U hU => off_blk (by omega), kk.mod P.2 (Nat.le_refl _)⟩)

set_option maxHeartbeats 2000000 in
theorem refDiag_bad (n cap : Nat) (ao : Option Addr) (L : Nat → Int) (hn : ¬ (1 ≤ n ∧ n ≤ 12)) (w : World) :
    Calls Try.prog 15 #[.slice ao n cap] w fun e w' => DocP 0 0 0 L 3 (Kp w) w e w' := by
  have b0 := Blk.new w #[.int .i64 0, .int .i64 0, .slice none 0 0] 24
  have kk : Kp w (w.alloc (.cells #[.int .i64 0, .int .i64 0, .slice none 0 0] 24)) := (Kp.refl _).alloc _ _
  have e0 : (w.alloc (.cells #[.int .i64 0, .int .i64 0, .slice none 0 0] 24)).cell? ⟨w.heap.size, 0, none⟩ = some (.int .i64 0) := Blk.cell b0 0
  have e1 : (w.alloc (.cells #[.int .i64 0, .int .i64 0, .slice none 0 0] 24)).cell? ⟨w.heap.size, 1, none⟩ = some (.int .i64 0) := Blk.cell b0 1
  have e2 : (w.alloc (.cells #[.int .i64 0, .int .i64 0, .slice none 0 0] 24)).cell? ⟨w.heap.size, 2, none⟩ = some (.slice none 0 0) := Blk.cell b0 2
  have f := Blk.free b0
  have R6 := hide (And.intro b0 kk)
  clear b0 kk
  by_cases h0 : (n : Int) < 1
  · clear hn
    go_enter Try.func15, Try.ntmps15
    go_wp2
    obtain ⟨b0, kk⟩ := unhide R6
    refine bodyPost_ret (v := .tuple #[.agg #[.int .i64 0, .int .i64 0, .slice none 0 0], .int .i64 3]) (by simp [results, Try.results15, go_sem, e0, e1, e2]) rfl ?_
    exact (show DocP _ _ _ _ _ _ _ _ _ from ⟨_, _, rfl, Nat.le_refl _, Or.inl rfl, fun U hU hl => absurd hl (Nat.lt_irrefl _), kk⟩)
  · have h1 : 12 < (n : Int) := by omega
    have h0' : 1 ≤ (n : Int) := by omega
    clear hn h0
    go_enter Try.func15, Try.ntmps15
    go_wp2
    obtain ⟨b0, kk⟩ := unhide R6
    refine bodyPost_ret (v := .tuple #[.agg #[.int .i64 0, .int .i64 0, .slice none 0 0], .int .i64 3]) (by simp [results, Try.results15, go_sem, e0, e1, e2]) rfl ?_
    exact (show DocP _ _ _ _ _ _ _ _ _ from ⟨_, _, rfl, Nat.le_refl _, Or.inl rfl, fun U hU hl => absurd hl (Nat.lt_irrefl _), kk⟩)


def EyI (w : World) (n k : Nat) (wr : World) : Prop :=
  Blk w.heap.size #[.int .i64 0, .int .i64 0, .slice none 0 0] 24 wr ∧ Blk (w.heap.size + 1) (ints n (fun i => if i < k then 4294967296 else 0)) 3 wr ∧ Kp w wr
theorem EyI.set {w wr : World} {n k : Nat} (h : EyI w n k wr) : EyI w n (k + 1) (wr.setCell ⟨w.heap.size + 1, k, none⟩ (.int .i64 4294967296)) := by
  obtain ⟨h1, h2, h4⟩ := h
  have q : Mod (w.heap.size + 1) wr (wr.setCell ⟨w.heap.size + 1, k, none⟩ (.int .i64 4294967296)) := (Mod.refl _ _).setCell _ _
  refine ⟨Blk.keep h1 q (by omega), ?_, h4.mod q (by omega)⟩
  have := Blk.setI h2 k 4294967296
  rwa [ints_congr n _ (fun i => if i < k + 1 then 4294967296 else 0) (fun i hi => by
    by_cases e : i = k
    · rw [if_pos e, if_pos (by omega)]
    · rw [if_neg e]
      by_cases h : i < k
      · rw [if_pos h, if_pos (by omega)]
      · rw [if_neg h, if_neg (by omega)])] at this

set_option maxRecDepth 20000 in
set_option maxHeartbeats 4000000 in
theorem refEye_ok (n : Nat) (hn : 1 ≤ n ∧ n ≤ 12) (w : World) :
    Calls Try.prog 13 #[.int .i64 n] w fun e w' => DocP n n (n * n) (diagZ oneZ n) 0 (Kp w) w e w' := by
  have h0 : 1 ≤ (n : Int) := by omega
  have h1 : (n : Int) ≤ 12 := by omega
  have n6 : n ≤ 1000000 := by omega
  have MK := make_ints n n6
  have HN := hide hn
  obtain ⟨nn, hnn⟩ : ∃ nn, n * n = nn := ⟨_, rfl⟩
  rw [hnn]
  have EN := hide hnn
  clear hnn
  have ST : Hid (EyI w n 0 ((w.alloc (.cells #[.int .i64 0, .int .i64 0, .slice none 0 0] 24)).alloc (.cells (ints n (fun _ => 0)) 3))) := by
    refine ⟨Blk.grown (Blk.new w _ _) ((Grown.refl _).alloc _ _), ?_, ((Kp.refl _).alloc _ _).alloc _ _⟩
    rw [ints_congr n (fun i => if i < 0 then 4294967296 else 0) (fun _ => 0) (fun i _ => if_neg (Nat.not_lt_zero _))]
    exact blk_new2 w _ _ _
  clear hn
  go_enter Try.func13, Try.ntmps13
  go_wp2_with fail
  generalize ((w.alloc (.cells #[.int .i64 0, .int .i64 0, .slice none 0 0] 24)).alloc (.cells (ints n (fun _ => 0)) 3)) = w1 at *
  clear MK
  go_loopw [5] (fun i wr => ∃ k : Nat, k ≤ n ∧ i = .int .i64 k ∧ Hid (EyI w n k wr)) (fun i _ => n - (intOf i).toNat)
  case atStart => exact ⟨0, Nat.zero_le _, rfl, unhide ST⟩
  case round =>
    obtain ⟨k, hk, rfl, HI⟩ := hrel
    clear ST
    by_cases hlt : k < n
    · obtain ⟨y, hc3⟩ : ∃ y, wr.cell? ⟨w.heap.size + 1, k, none⟩ = some (.int .i64 y) := ⟨_, by rw [Blk.cell (unhide HI).2.1, ints_at n _ k hlt]⟩
      have hfz : wr.frozen? ⟨w.heap.size + 1, k, none⟩ = false := Blk.free (unhide HI).2.1 k
      have HP : Hid (EyI w n (k + 1) (wr.setCell ⟨w.heap.size + 1, k, none⟩ (.int .i64 4294967296))) := EyI.set (unhide HI)
      have i0 : (0 : Int) ≤ (k : Int) := by omega
      have i1 : (k : Int) < (n : Int) := by omega
      have hk1 : k ≤ 1000000 := by omega
      have B4 : Hid (k + 1 ≤ n) := hlt
      clear HI
      go_wp2
      go_roundw
      case rel => exact ⟨k + 1, unhide B4, by go_num, HP⟩
      case measure => have := unhide B4; simp [intOf]; omega
    · obtain rfl : k = n := by omega
      have row : Row wr (some ⟨w.heap.size + 1, 0, none⟩) k oneZ := by
        have b1 := (unhide HI).2.1
        rw [ints_congr k (fun i => if i < k then 4294967296 else 0) oneZ (fun i hi => if_pos hi)] at b1
        exact Blk.row b1
      have DG0 := refDiag_ok k k (some ⟨w.heap.size + 1, 0, none⟩) oneZ (unhide HN) wr row
      rw [unhide EN] at DG0
      have DG := hide DG0
      clear row DG0
      go_wp2_with fail
      refine (unhide DG).mono ?_
      rintro e w3 ⟨ao2, cap2, rfl, g1, g3, g4, kk⟩
      have b0 := Blk.kp (unhide HI).1 kk
      have hw : w.heap.size < wr.heap.size := Blk.lt (unhide HI).1
      have k3 : Kp w w3 := (unhide HI).2.2.trans kk
      have e0 : w3.cell? ⟨w.heap.size, 0, none⟩ = some (.int .i64 0) := Blk.cell b0 0
      have e1 : w3.cell? ⟨w.heap.size, 1, none⟩ = some (.int .i64 0) := Blk.cell b0 1
      have e2 : w3.cell? ⟨w.heap.size, 2, none⟩ = some (.slice none 0 0) := Blk.cell b0 2
      have f := Blk.free b0
      have R6 := hide (And.intro b0 (And.intro g1 (And.intro g3 (And.intro g4 (And.intro k3 hw)))))
      clear b0 kk k3 HI g1 g3 g4 hw DG
      go_wp2
      obtain ⟨b0, g1, g3, g4, k3, hw⟩ := unhide R6
      have P := putM b0 (.int .i64 k) (.int .i64 k) (.slice ao2 nn cap2)
      generalize (((w3.setCell ⟨w.heap.size, 0, none⟩ (.int .i64 k)).setCell ⟨w.heap.size, 1, none⟩ (.int .i64 k)).setCell ⟨w.heap.size, 2, none⟩ (.slice ao2 nn cap2)) = wE at *
      have c0 : wE.cell? ⟨w.heap.size, 0, none⟩ = some (.int .i64 k) := Blk.cell P.1 0
      have c1 : wE.cell? ⟨w.heap.size, 1, none⟩ = some (.int .i64 k) := Blk.cell P.1 1
      have c2 : wE.cell? ⟨w.heap.size, 2, none⟩ = some (.slice ao2 nn cap2) := Blk.cell P.1 2
      refine bodyPost_ret (v := .tuple #[.agg #[.int .i64 k, .int .i64 k, .slice ao2 nn cap2], .int .i64 0]) (by simp [results, Try.results13, go_sem, c0, c1, c2]) rfl ?_
      exact (show DocP _ _ _ _ _ _ _ _ _ from ⟨_, _, rfl, g1, g3.mod P.2 (g4 _ hw), fun U hU => g4 U (by omega), k3.mod P.2 (Nat.le_refl _)⟩)

set_option maxHeartbeats 2000000 in
theorem refEye_bad (n : Int) (hn : ¬ (1 ≤ n ∧ n ≤ 12)) (L : Nat → Int) (w : World) :
    Calls Try.prog 13 #[.int .i64 n] w fun e w' => DocP 0 0 0 L 3 (Kp w) w e w' := by
  have b0 := Blk.new w #[.int .i64 0, .int .i64 0, .slice none 0 0] 24
  have kk : Kp w (w.alloc (.cells #[.int .i64 0, .int .i64 0, .slice none 0 0] 24)) := (Kp.refl _).alloc _ _
  have e0 : (w.alloc (.cells #[.int .i64 0, .int .i64 0, .slice none 0 0] 24)).cell? ⟨w.heap.size, 0, none⟩ = some (.int .i64 0) := Blk.cell b0 0
  have e1 : (w.alloc (.cells #[.int .i64 0, .int .i64 0, .slice none 0 0] 24)).cell? ⟨w.heap.size, 1, none⟩ = some (.int .i64 0) := Blk.cell b0 1
  have e2 : (w.alloc (.cells #[.int .i64 0, .int .i64 0, .slice none 0 0] 24)).cell? ⟨w.heap.size, 2, none⟩ = some (.slice none 0 0) := Blk.cell b0 2
  have f := Blk.free b0
  have R6 := hide (And.intro b0 kk)
  clear b0 kk
  by_cases h0 : n < 1
  · clear hn
    go_enter Try.func13, Try.ntmps13
    go_wp2
    obtain ⟨b0, kk⟩ := unhide R6
    refine bodyPost_ret (v := .tuple #[.agg #[.int .i64 0, .int .i64 0, .slice none 0 0], .int .i64 3]) (by simp [results, Try.results13, go_sem, e0, e1, e2]) rfl ?_
    exact (show DocP _ _ _ _ _ _ _ _ _ from ⟨_, _, rfl, Nat.le_refl _, Or.inl rfl, fun U hU hl => absurd hl (Nat.lt_irrefl _), kk⟩)
  · have h1 : 12 < n := by omega
    have h0' : 1 ≤ n := by omega
    clear hn h0
    go_enter Try.func13, Try.ntmps13
    go_wp2
    obtain ⟨b0, kk⟩ := unhide R6
    refine bodyPost_ret (v := .tuple #[.agg #[.int .i64 0, .int .i64 0, .slice none 0 0], .int .i64 3]) (by simp [results, Try.results13, go_sem, e0, e1, e2]) rfl ?_
    exact (show DocP _ _ _ _ _ _ _ _ _ from ⟨_, _, rfl, Nat.le_refl _, Or.inl rfl, fun U hU hl => absurd hl (Nat.lt_irrefl _), kk⟩)


theorem owns_kpE {w w' : World} {base : Nat} {e : TypeId} {size : Nat} {v : Value} {n : Nat} {xs : List Value} (h : w.ownsRow base e size v n xs) (k : Kp w w') : w'.ownsRow base e size v n xs := by
  refine ⟨h.1, ?_⟩
  rcases h.2 with h2 | ⟨g, cap, cur, rfl, hb, hg, r⟩
  · exact Or.inl h2
  · exact Or.inr ⟨g, cap, cur, rfl, hb, (k.2.2.1 g (Array.getElem?_eq_some_iff.1 hg).1).trans hg, r⟩
theorem intL_app (j m : Nat) (Y Z : Nat → Int) (h : ∀ i, i < m → Y (j + i) = Z i) : intL j Y ++ (List.range m).map (fun i => Value.int .i64 (Z i)) = intL (j + m) Y := by
  unfold intL
  rw [List.range_add, List.map_append, List.map_map]
  congr 1
  apply List.map_congr_left
  intro i hi
  show Value.int .i64 (Z i) = Value.int .i64 (Y (j + i))
  rw [h i (List.mem_range.1 hi)]
/-- A list that is gathered, beside boxes. -/
def GK (w : World) (bx : List (Nat × Array Value)) (base : Nat) (Y : Nat → Int) (j : Nat) (v : Value) (wr : World) : Prop :=
  wr.ownsRow base 3 1 v j (intL j Y) ∧ (∀ b ∈ bx, Blk b.1 b.2 24 wr ∧ w.heap.size ≤ b.1 ∧ b.1 < base) ∧ Kp w wr ∧ w.heap.size ≤ base ∧ base ≤ wr.heap.size
section
variable {w wr w' w4 : World} {base : Nat} {bx : List (Nat × Array Value)} {Y : Nat → Int} {j m : Nat} {v v' : Value}
theorem GK.kp (h : GK w bx base Y j v wr) (k : Kp wr w') : GK w bx base Y j v w' := by
  obtain ⟨h1, h2, h5, h7, h8⟩ := h
  exact ⟨owns_kpE h1 k, fun b hb => ⟨Blk.kp (h2 b hb).1 k, (h2 b hb).2⟩, h5.trans k, h7, Nat.le_trans h8 k.2.2.2⟩
theorem GK.app {Z : Nat → Int} (h : GK w bx base Y j v wr) (hz : ∀ i, i < m → Y (j + i) = Z i) (hown : w4.ownsRow base 3 1 v' (j + m) (intL j Y ++ (List.range m).map (fun i => Value.int .i64 (Z i)))) (hg : wr.grownBy w4 v.ownBlock) : GK w bx base Y (j + m) v' w4 := by
  obtain ⟨h1, h2, h5, h7, h8⟩ := h
  have lt := h1.lt
  rw [intL_app j m Y Z hz] at hown
  exact ⟨hown, fun b hb => ⟨Blk.by (h2 b hb).1 hg (fun e => by have := (lt _ e.symm).1; have := (h2 b hb).2; omega), (h2 b hb).2⟩, h5.by hg (fun i e => by have := (lt i e).1; omega), h7, by have := hg.size; omega⟩
theorem GK.set {L : Nat} {x0 x1 x2 u : Value} (h : GK w ((L, #[x0, x1, x2]) :: bx) base Y j v wr) (hne : ∀ b ∈ bx, b.1 ≠ L) : GK w ((L, #[x0, x1, u]) :: bx) base Y j v (wr.setCell ⟨L, 2, none⟩ u) := by
  obtain ⟨h1, h2, h5, h7, h8⟩ := h
  have q : Mod L wr (wr.setCell ⟨L, 2, none⟩ u) := (Mod.refl _ _).setCell 2 _
  have hL := h2 _ List.mem_cons_self
  refine ⟨owns_mod h1 q hL.2.2, fun b hb => ?_, h5.mod q hL.2.1, h7, Nat.le_trans h8 q.2.2.2.2⟩
  rcases List.mem_cons.1 hb with rfl | hb
  · exact ⟨Blk.set hL.1 2 _, hL.2⟩
  · exact ⟨Blk.keep (h2 b (List.mem_cons_of_mem _ hb)).1 q (hne b hb), (h2 b (List.mem_cons_of_mem _ hb)).2⟩
theorem GK.cells {b : Nat} {x0 x1 x2 : Value} (h : GK w bx base Y j v wr) (hb : (b, #[x0, x1, x2]) ∈ bx) : wr.cell? ⟨b, 0, none⟩ = some x0 ∧ wr.cell? ⟨b, 1, none⟩ = some x1 ∧ wr.cell? ⟨b, 2, none⟩ = some x2 := ⟨Blk.cell (h.2.1 _ hb).1 0, Blk.cell (h.2.1 _ hb).1 1, Blk.cell (h.2.1 _ hb).1 2⟩
end
theorem owns_some {w : World} {base n : Nat} {v : Value} {xs : List Value} (h : w.ownsRow base 3 1 v n xs) (hn : 1 ≤ n) : ∃ g cap, v = .slice (some ⟨g, 0, none⟩) n cap := by
  rcases h.2 with ⟨_, h2⟩ | ⟨g, cap, cur, e, _⟩
  · omega
  · exact ⟨g, cap, e⟩


set_option maxRecDepth 20000 in
set_option maxHeartbeats 4000000 in
theorem refTurn_ok (r c len cap b o : Nat) (Z : Nat → Int) (hr : 1 ≤ r ∧ r ≤ 12) (hc : 1 ≤ c ∧ c ≤ 12) (hl : len = r * c) (w : World) (za : ∀ i, i < len → w.cell? ⟨b, o + i, none⟩ = some (.int .i64 (Z i))) :
    Calls Try.prog 17 #[.agg #[.int .i64 r, .int .i64 c, .slice (some ⟨b, o, none⟩) len cap]] w fun e w' => DocP c r (c * r) (turnZ Z r c) 0 (Kp w) w e w' := by
  have AL := hide (fun w => refMCheck r c (some ⟨b, o, none⟩) len cap w)
  rw [chk_ok ⟨by omega, by omega, by rw [hl, Int.natCast_mul]⟩] at AL
  obtain ⟨Y, hY⟩ : ∃ Y, Y = turnZ Z r c := ⟨_, rfl⟩
  rw [← hY]
  have EY : Hid (∀ k i, i < r → Y (k * r + i) = colZ Z c k i) := fun k i hi => by
    rw [hY]
    show Z ((k * r + i) % r * c + (k * r + i) / r) = Z (i * c + k)
    rw [place_div k i r hi, place_mod k i r hi]
  have HH := hide (And.intro hr (And.intro hc hl))
  have HZ := hide za
  have S0 : Hid (Grown w ((w.alloc (.cells #[.int .i64 r, .int .i64 c, .slice (some ⟨b, o, none⟩) len cap] 24)).alloc (.cells #[.int .i64 0, .int .i64 0, .slice none 0 0] 24)) ∧ Blk w.heap.size #[.int .i64 r, .int .i64 c, .slice (some ⟨b, o, none⟩) len cap] 24 ((w.alloc (.cells #[.int .i64 r, .int .i64 c, .slice (some ⟨b, o, none⟩) len cap] 24)).alloc (.cells #[.int .i64 0, .int .i64 0, .slice none 0 0] 24)) ∧ Blk (w.heap.size + 1) #[.int .i64 0, .int .i64 0, .slice none 0 0] 24 ((w.alloc (.cells #[.int .i64 r, .int .i64 c, .slice (some ⟨b, o, none⟩) len cap] 24)).alloc (.cells #[.int .i64 0, .int .i64 0, .slice none 0 0] 24))) := ⟨((Grown.refl _).alloc _ _).alloc _ _, Blk.grown (Blk.new w _ _) ((Grown.refl _).alloc _ _), blk_new2 w _ _ _⟩
  clear hY hr hc hl za
  go_enter Try.func17, Try.ntmps17
  go_wp2_with fail
  generalize ((w.alloc (.cells #[.int .i64 r, .int .i64 c, .slice (some ⟨b, o, none⟩) len cap] 24)).alloc (.cells #[.int .i64 0, .int .i64 0, .slice none 0 0] 24)) = w1 at *
  refine (unhide AL _).mono ?_
  rintro e w2 ⟨rfl, g2⟩
  have y0 : w2.cell? ⟨w.heap.size, 0, none⟩ = some (.int .i64 r) := Blk.cell (Blk.grown (unhide S0).2.1 g2) 0
  have y1 : w2.cell? ⟨w.heap.size, 1, none⟩ = some (.int .i64 c) := Blk.cell (Blk.grown (unhide S0).2.1 g2) 1
  obtain ⟨L, hL⟩ : ∃ L, w2.heap.size = L := ⟨_, rfl⟩
  have HLs : Hid (w.heap.size + 1 < L) := by rw [← hL]; exact Blk.lt (Blk.grown (unhide S0).2.2 g2)
  have ST : Hid (GK w [(L, #[.int .i64 c, .int .i64 r, (.slice none 0 0)]), (w.heap.size, #[.int .i64 r, .int .i64 c, .slice (some ⟨b, o, none⟩) len cap]), (w.heap.size + 1, #[.int .i64 0, .int .i64 0, .slice none 0 0])] (L + 1) Y (0 * r) (.slice none 0 0) (w2.alloc (.cells #[.int .i64 c, .int .i64 r, .slice none 0 0] 24))) := by
    obtain ⟨s1, s2, s3⟩ := unhide S0
    have G3 : Grown w2 (w2.alloc (.cells #[.int .i64 c, .int .i64 r, .slice none 0 0] 24)) := (Grown.refl _).alloc _ _
    have gg := gtrans s1 g2
    have hls := unhide HLs
    refine ⟨by rw [Nat.zero_mul]; exact World.ownsRow_nil _ _ _ _, fun q hq => ?_, Kp.of (gtrans gg G3), by omega, by simp; omega⟩
    have nw : Blk L #[.int .i64 c, .int .i64 r, .slice none 0 0] 24 (w2.alloc (.cells #[.int .i64 c, .int .i64 r, .slice none 0 0] 24)) := by rw [← hL]; exact Blk.new w2 _ _
    have g23 := gtrans g2 G3
    simp only [List.mem_cons, List.not_mem_nil, or_false] at hq
    rcases hq with rfl | rfl | rfl
    · exact ⟨nw, by show w.heap.size ≤ L; omega, by show L < L + 1; omega⟩
    · exact ⟨Blk.grown s2 g23, Nat.le_refl _, by show w.heap.size < L + 1; omega⟩
    · exact ⟨Blk.grown s3 g23, by show w.heap.size ≤ w.heap.size + 1; omega, by show w.heap.size + 1 < L + 1; omega⟩
  clear S0 AL g2
  go_wp2_with fail
  (try rw [hL])
  generalize w2.alloc (.cells #[.int .i64 c, .int .i64 r, .slice none 0 0] 24) = w3 at *
  clear y0 y1 hL
  go_loopw [5] (fun i wr => ∃ k : Nat, k ≤ c ∧ i = .int .i64 k ∧ Hid (∃ v, GK w [(L, #[.int .i64 c, .int .i64 r, v]), (w.heap.size, #[.int .i64 r, .int .i64 c, .slice (some ⟨b, o, none⟩) len cap]), (w.heap.size + 1, #[.int .i64 0, .int .i64 0, .slice none 0 0])] (L + 1) Y (k * r) v wr)) (fun i _ => c - (intOf i).toNat)
  case atStart => exact ⟨0, Nat.zero_le _, rfl, _, unhide ST⟩
  case round =>
    obtain ⟨k, hk, rfl, HI0⟩ := hrel
    clear ST
    obtain ⟨v, hI⟩ := unhide HI0
    have HI := hide hI
    clear hI
    obtain ⟨y0, y1, y2⟩ := (unhide HI).cells (b := w.heap.size) (x0 := .int .i64 r) (x1 := .int .i64 c) (x2 := .slice (some ⟨b, o, none⟩) len cap) (by simp)
    by_cases hlt : k < c
    · have CW := hide (fun wx (kx : Kp wr wx) => refColumn r c k len cap b o Z (unhide HH).1 (unhide HH).2.1 hlt (unhide HH).2.2 wx (fun i hi => ((unhide HI).2.2.1.trans kx).cell (unhide HZ i hi)))
      obtain ⟨_, _, t2⟩ := (unhide HI).cells (b := L) (x0 := .int .i64 c) (x1 := .int .i64 r) (x2 := v) (by simp)
      have hk1 : k ≤ 1000000 := Nat.le_trans hk (Nat.le_trans (unhide HH).2.1.2 (by omega))
      have B4 : Hid (k + 1 ≤ c) := hlt
      have KR : Hid (k * r ≤ 1000000 ∧ (k + 1) * r = k * r + r) := by
        refine ⟨?_, by rw [Nat.add_mul, Nat.one_mul]⟩
        have := Nat.mul_le_mul (show k ≤ 12 by have := (unhide HH).2.1; omega) (unhide HH).1.2
        omega
      clear hk hlt HI0
      go_wp2
      refine region_G (fun w' => w'.cell? ⟨w.heap.size, 0, none⟩ = some (.int .i64 r) ∧ w'.cell? ⟨w.heap.size, 1, none⟩ = some (.int .i64 c) ∧ w'.cell? ⟨w.heap.size, 2, none⟩ = some (.slice (some ⟨b, o, none⟩) len cap) ∧ w'.cell? ⟨L, 2, none⟩ = some v) 7 (by kernel_rfl) ⟨y0, y1, y2, t2⟩ (fun hHeld => ?_)
      refine take_G (i := 0) (d := 21) (v := .pointer (some ⟨L, 2, none⟩)) rfl rfl (by kernel_rfl) (by kernel_rfl) (by kernel_rfl) (by kernel_rfl) (by kernel_rfl) (Or.inl ⟨by rfl, ?_⟩) (by assumption) ?_
      · intro w hSw
        (try dsimp only at hSw)
        go_simp
      (try simp only [Act.put, List.setIfInBounds_toArray, List.set_cons_zero, List.set_cons_succ])
      refine take_G (i := 1) (d := 22) (v := v) rfl rfl (by kernel_rfl) (by kernel_rfl) (by kernel_rfl) (by kernel_rfl) (by kernel_rfl) (Or.inl ⟨by rfl, ?_⟩) (by assumption) ?_
      · intro w hSw
        (try dsimp only at hSw)
        go_simp
      (try simp only [Act.put, List.setIfInBounds_toArray, List.set_cons_zero, List.set_cons_succ])
      refine take_G (i := 2) (d := 23) (v := .agg #[.int .i64 r, .int .i64 c, .slice (some ⟨b, o, none⟩) len cap]) rfl rfl (by kernel_rfl) (by kernel_rfl) (by kernel_rfl) (by kernel_rfl) (by kernel_rfl) (Or.inl ⟨by rfl, ?_⟩) (by assumption) ?_
      · intro w hSw
        (try dsimp only at hSw)
        go_simp
      (try simp only [Act.put, List.setIfInBounds_toArray, List.set_cons_zero, List.set_cons_succ])
      refine take_G (i := 3) (d := 24) (v := .int .i64 (k : Int)) rfl rfl (by kernel_rfl) (by kernel_rfl) (by kernel_rfl) (by kernel_rfl) (by kernel_rfl) (Or.inl ⟨by rfl, ?_⟩) (by assumption) ?_
      · intro w hSw
        (try dsimp only at hSw)
        go_simp
      (try simp only [Act.put, List.setIfInBounds_toArray, List.set_cons_zero, List.set_cons_succ])
      refine step_G (i := 4) (by kernel_rfl) (fun K hK => ?_)
      refine wpOp_of rfl rfl ?_
      unfold Oper.wp
      go_simp
      refine (unhide CW wr.drew (show Kp wr wr.drew from Kp.refl wr)).mono ?_
      rintro e w5 ⟨ao2, cap2, rfl, hc2, row2, off2, kp2⟩
      have kp2' : Kp wr w5 := kp2
      have G5 := hide ((unhide HI).kp kp2')
      obtain ⟨b2, o2, rfl, rc⟩ := row2.some (unhide HH).1.1
      have RC2 := hide rc
      obtain ⟨u0, u1, u2⟩ := (unhide G5).cells (b := w.heap.size) (x0 := .int .i64 r) (x1 := .int .i64 c) (x2 := .slice (some ⟨b, o, none⟩) len cap) (by simp)
      obtain ⟨_, _, s2⟩ := (unhide G5).cells (b := L) (x0 := .int .i64 c) (x1 := .int .i64 r) (x2 := v) (by simp)
      clear rc row2 off2 kp2 kp2' CW HI hHeld y0 y1 y2 t2
      refine hK _ _ (fun _ => ⟨u0, u1, u2, s2⟩) ?_
      clear hK K
      (try simp only [Act.put, List.setIfInBounds_toArray, List.set_cons_zero, List.set_cons_succ])
      refine step_G (i := 5) (by kernel_rfl) (fun K hK => ?_)
      refine wpOp_of rfl rfl ?_
      refine wp_append_at (.tmp 22) (.tmp 25) rfl (L + 1) v (k * r) (intL (k * r) Y) (by first | rfl | simp [Act.eval, Act.put]) (unhide G5).1 ⟨b2, o2, none⟩ r cap2 ((List.range r).map fun i => Value.int .i64 (colZ Z c k i)) (by first | rfl | simp [Act.eval, Act.put]) (by simp) ?_ (cells_one _ _) (by have := (unhide HH).1; omega) (unhide KR).1 (unhide G5).2.2.2.2 ?_
      · intro j u hu
        rw [List.getElem?_map] at hu
        by_cases hj : j < r
        · rw [List.getElem?_range hj] at hu
          simp at hu
          subst hu
          rw [Go.WideShapes.add_plain]
          exact unhide RC2 j hj
        · rw [List.getElem?_eq_none (by simpa using hj)] at hu
          simp at hu
      intro v' w6 hown hgrow _
      obtain ⟨g', cap', rfl⟩ := owns_some hown (by have := (unhide HH).1; omega)
      have G6 := hide (GK.app (unhide G5) (fun i hi => unhide EY k i hi) hown hgrow)
      clear hown hgrow
      obtain ⟨d0, d1, d2⟩ := (unhide G6).cells (b := w.heap.size) (x0 := .int .i64 r) (x1 := .int .i64 c) (x2 := .slice (some ⟨b, o, none⟩) len cap) (by simp)
      obtain ⟨_, _, d3⟩ := (unhide G6).cells (b := L) (x0 := .int .i64 c) (x1 := .int .i64 r) (x2 := v) (by simp)
      have q3 := Blk.free ((unhide G6).2.1 _ List.mem_cons_self).1 2
      refine hK _ _ (fun _ => ⟨d0, d1, d2, d3⟩) ?_
      clear hK K u0 u1 u2 s2 RC2 G5
      (try simp only [Act.put, List.setIfInBounds_toArray, List.set_cons_zero, List.set_cons_succ])
      have hHeld := (And.intro d0 (And.intro d1 (And.intro d2 d3)))
      refine take_G (i := 6) (d := 27) (v := .pointer (some ⟨L, 2, none⟩)) rfl rfl (by kernel_rfl) (by kernel_rfl) (by kernel_rfl) (by kernel_rfl) (by kernel_rfl) (Or.inl ⟨by rfl, ?_⟩) (by assumption) ?_
      · intro w hSw
        (try dsimp only at hSw)
        go_simp
      (try simp only [Act.put, List.setIfInBounds_toArray, List.set_cons_zero, List.set_cons_succ])
      refine step_G (i := 7) (by kernel_rfl) (fun K hK => ?_)
      refine wpOp_of rfl rfl ?_
      unfold Oper.wp
      go_simp
      refine hK _ _ (fun h => absurd rfl h) ?_
      clear hK K
      refine done_G (by kernel_rfl) ?_
      have HP : Hid (∃ v, GK w [(L, #[.int .i64 c, .int .i64 r, v]), (w.heap.size, #[.int .i64 r, .int .i64 c, .slice (some ⟨b, o, none⟩) len cap]), (w.heap.size + 1, #[.int .i64 0, .int .i64 0, .slice none 0 0])] (L + 1) Y ((k + 1) * r) v (w6.setCell ⟨L, 2, none⟩ (.slice (some ⟨g', 0, none⟩) (k * r + r) cap'))) := by
        have h9 := (unhide G6).set (u := .slice (some ⟨g', 0, none⟩) (k * r + r) cap') (by have := unhide HLs; simp; omega)
        show ∃ v, _
        rw [(unhide KR).2]
        exact ⟨_, h9⟩
      clear G6 d0 d1 d2 d3 q3 hHeld
      refine noPanic_normalE ?_
      go_wp2
      go_roundw
      case rel => exact ⟨k + 1, unhide B4, by go_num, HP⟩
      case measure => have := unhide B4; simp [intOf]; omega
    · obtain rfl : k = c := by omega
      obtain ⟨h0, hbx, hk, hl1, hl2⟩ := unhide HI
      obtain ⟨ao2, cap2, rfl, g1, g3, g4⟩ := owns_rowC h0
      obtain ⟨t0, t1, t2⟩ := (unhide HI).cells (b := L) (x0 := .int .i64 k) (x1 := .int .i64 r) (x2 := .slice ao2 (k * r) cap2) (by simp)
      obtain ⟨s0, s1, s2⟩ := (unhide HI).cells (b := w.heap.size + 1) (x0 := .int .i64 0) (x1 := .int .i64 0) (x2 := .slice none 0 0) (by simp)
      have b2 := (hbx (w.heap.size + 1, #[.int .i64 0, .int .i64 0, .slice none 0 0]) (by simp)).1
      have f := Blk.free b2
      have R6 := hide (And.intro b2 (And.intro g1 (And.intro g3 (And.intro g4 hk))))
      clear h0 hk g1 g3 g4 HI hl1 hl2 hbx b2 HI0
      generalize hjc : k * r = nn at *
      go_wp2
      obtain ⟨b2, g1, g3, g4, hk⟩ := unhide R6
      have P := putM b2 (.int .i64 k) (.int .i64 r) (.slice ao2 nn cap2)
      generalize (((wr.setCell ⟨w.heap.size + 1, 0, none⟩ (.int .i64 k)).setCell ⟨w.heap.size + 1, 1, none⟩ (.int .i64 r)).setCell ⟨w.heap.size + 1, 2, none⟩ (.slice ao2 nn cap2)) = wE at *
      have c0 : wE.cell? ⟨w.heap.size + 1, 0, none⟩ = some (.int .i64 k) := Blk.cell P.1 0
      have c1 : wE.cell? ⟨w.heap.size + 1, 1, none⟩ = some (.int .i64 r) := Blk.cell P.1 1
      have c2 : wE.cell? ⟨w.heap.size + 1, 2, none⟩ = some (.slice ao2 nn cap2) := Blk.cell P.1 2
      refine bodyPost_ret (v := .tuple #[.agg #[.int .i64 k, .int .i64 r, .slice ao2 nn cap2], .int .i64 0]) (by simp [results, Try.results17, go_sem, c0, c1, c2]) rfl ?_
      have := unhide HLs
      exact (show DocP _ _ _ _ _ _ _ _ _ from ⟨_, _, rfl, g1, g3.mod P.2 (g4 _ (by omega)), fun U hU => g4 U (by omega), hk.mod P.2 (by omega)⟩)

set_option maxHeartbeats 2000000 in
theorem refTurn_bad (R C : Int) (ao : Option Addr) (len cap : Nat) (Z : Nat → Int) (hb : ¬ okM R C len) (w : World) :
    Calls Try.prog 17 #[.agg #[.int .i64 R, .int .i64 C, .slice ao len cap]] w fun e w' => DocP 0 0 0 Z 3 (Kp w) w e w' := by
  have AL := hide (fun w => refMCheck R C ao len cap w)
  rw [chk_bad hb] at AL
  have S0 : Hid (Grown w ((w.alloc (.cells #[.int .i64 R, .int .i64 C, .slice ao len cap] 24)).alloc (.cells #[.int .i64 0, .int .i64 0, .slice none 0 0] 24)) ∧ Blk (w.heap.size + 1) #[.int .i64 0, .int .i64 0, .slice none 0 0] 24 ((w.alloc (.cells #[.int .i64 R, .int .i64 C, .slice ao len cap] 24)).alloc (.cells #[.int .i64 0, .int .i64 0, .slice none 0 0] 24))) := ⟨((Grown.refl _).alloc _ _).alloc _ _, blk_new2 w _ _ _⟩
  clear hb
  go_enter Try.func17, Try.ntmps17
  go_wp2_with fail
  generalize ((w.alloc (.cells #[.int .i64 R, .int .i64 C, .slice ao len cap] 24)).alloc (.cells #[.int .i64 0, .int .i64 0, .slice none 0 0] 24)) = w1 at *
  refine (unhide AL _).mono ?_
  rintro e w2 ⟨rfl, g2⟩
  have b2 := Blk.grown (unhide S0).2 g2
  have e0 : w2.cell? ⟨w.heap.size + 1, 0, none⟩ = some (.int .i64 0) := Blk.cell b2 0
  have e1 : w2.cell? ⟨w.heap.size + 1, 1, none⟩ = some (.int .i64 0) := Blk.cell b2 1
  have e2 : w2.cell? ⟨w.heap.size + 1, 2, none⟩ = some (.slice none 0 0) := Blk.cell b2 2
  have f := Blk.free b2
  have R6 := hide (And.intro b2 (Kp.of (gtrans (unhide S0).1 g2)))
  clear b2 g2 AL S0
  go_wp2
  obtain ⟨b2, kk⟩ := unhide R6
  have P := putM b2 (.int .i64 0) (.int .i64 0) (.slice none 0 0)
  generalize (((w2.setCell ⟨w.heap.size + 1, 0, none⟩ (.int .i64 0)).setCell ⟨w.heap.size + 1, 1, none⟩ (.int .i64 0)).setCell ⟨w.heap.size + 1, 2, none⟩ (.slice none 0 0)) = wE at *
  have c0 : wE.cell? ⟨w.heap.size + 1, 0, none⟩ = some (.int .i64 0) := Blk.cell P.1 0
  have c1 : wE.cell? ⟨w.heap.size + 1, 1, none⟩ = some (.int .i64 0) := Blk.cell P.1 1
  have c2 : wE.cell? ⟨w.heap.size + 1, 2, none⟩ = some (.slice none 0 0) := Blk.cell P.1 2
  refine bodyPost_ret (v := .tuple #[.agg #[.int .i64 0, .int .i64 0, .slice none 0 0], .int .i64 3]) (by simp [results, Try.results17, go_sem, c0, c1, c2]) rfl ?_
  exact (show DocP _ _ _ _ _ _ _ _ _ from ⟨_, _, rfl, Nat.le_refl _, Or.inl rfl, fun U hU hl => absurd hl (Nat.lt_irrefl _), kk.mod P.2 (by omega)⟩)

theorem refTurnAny (R C : Int) (ao : Option Addr) (len cap : Nat) (A : Nat → Int) (w : World) (ra : Row w ao len A) (q : MO) (hq : turnO R C len A = q) :
    Calls Try.prog 17 #[.agg #[.int .i64 R, .int .i64 C, .slice ao len cap]] w fun e w' => DocP q.r q.c q.len q.Z q.err (Kp w) w e w' := by
  subst hq
  unfold turnO
  by_cases hg : okM R C len
  · rw [if_pos hg]
    obtain ⟨r, c, rfl, rfl, hr, hc, e1, k1, k2⟩ := hg.nat
    obtain ⟨b, o, rfl, za⟩ := ra.some k1
    exact refTurn_ok r c len cap b o A hr hc e1 w za
  · rw [if_neg hg]
    exact refTurn_bad R C ao len cap A hg w
theorem refEyeAny (n : Int) (w : World) (q : MO) (hq : eyeO n = q) : Calls Try.prog 13 #[.int .i64 n] w fun e w' => DocP q.r q.c q.len q.Z q.err (Kp w) w e w' := by
  subst hq
  unfold eyeO
  by_cases hg : 1 ≤ n ∧ n ≤ 12
  · rw [if_pos hg]
    obtain ⟨k, rfl⟩ : ∃ k : Nat, n = k := ⟨n.toNat, by omega⟩
    exact refEye_ok k (by omega) w
  · rw [if_neg hg]
    exact refEye_bad n hg oneZ w
theorem refDiagAny (n cap : Nat) (ao : Option Addr) (L : Nat → Int) (w : World) (hr : Row w ao n L) (q : MO) (hq : diagO n L = q) : Calls Try.prog 15 #[.slice ao n cap] w fun e w' => DocP q.r q.c q.len q.Z q.err (Kp w) w e w' := by
  subst hq
  unfold diagO
  by_cases hg : 1 ≤ n ∧ n ≤ 12
  · rw [if_pos hg]
    exact refDiag_ok n cap ao L hg w hr
  · rw [if_neg hg]
    exact refDiag_bad n cap ao L hg w


end Go.Proofs.Ytcobicnpdmgnjaa

/- Laws with a unit and the document's unit under way. -/
namespace Go.Proofs.Ytcobicnpdmgnjaa
open Go.RowKit Go.Shelf Go.Proofs.Wd
set_option linter.unusedVariables false
set_option linter.unusedSimpArgs false

theorem LS.nilD (w : World) : LS w [] [] [] w := ⟨Kp.refl _, fun _ h => absurd h List.not_mem_nil, fun _ h => absurd h List.not_mem_nil, fun _ h => absurd h List.not_mem_nil⟩
theorem LS.subD {w : World} {E E' : List Nat} {bx bx' : List (Nat × Array Value)} {rows rows' : List (Option Addr × Nat × (Nat → Int))} {wx : World} (h : LS w E bx rows wx) (hE : ∀ x ∈ E', x ∈ E) (hb : ∀ x ∈ bx', x ∈ bx) (hr : ∀ x ∈ rows', x ∈ rows) : LS w E' bx' rows' wx :=
  ⟨h.1, fun e he => h.2.1 e (hE e he), fun b hb' => ⟨(h.2.2.1 b (hb b hb')).1, fun he => (h.2.2.1 b (hb b hb')).2 (hE _ he)⟩, fun r hr' => ⟨(h.2.2.2 r (hr r hr')).1, fun e he => (h.2.2.2 r (hr r hr')).2 e (hE e he)⟩⟩
theorem LS.swapD {w : World} {U V : Nat} {bx : List (Nat × Array Value)} {rows : List (Option Addr × Nat × (Nat → Int))} {wx : World} (h : LS w [V, U] bx rows wx) : LS w [U, V] bx rows wx :=
  h.subD (fun x hx => by simp at hx ⊢; exact hx.symm) (fun _ h => h) (fun _ h => h)
theorem LS.cellsD {w : World} {E : List Nat} {bx : List (Nat × Array Value)} {rows : List (Option Addr × Nat × (Nat → Int))} {wx : World} (h : LS w E bx rows wx) {b : Nat} {x y z : Value} (hb : (b, #[x, y, z]) ∈ bx) : wx.cell? ⟨b, 0, none⟩ = some x ∧ wx.cell? ⟨b, 1, none⟩ = some y ∧ wx.cell? ⟨b, 2, none⟩ = some z := ⟨h.cell hb 0, h.cell hb 1, h.cell hb 2⟩
section
variable {w : World} {U V : Nat} {cu cv cu' cv' : Array Value} {tu tv : TypeId} {bx : List (Nat × Array Value)} {rows : List (Option Addr × Nat × (Nat → Int))} {wx w' : World} {r c err : Int} {len : Nat} {Z : Nat → Int} {e : Ending}
theorem TS.toldDoc (h : TS w U V cu tu cv tv bx rows wx) (m : DocP r c len Z err (fun w' => Blk V cv' tv w' ∧ Mk V wx w') wx e w') :
    ∃ ao cap, e = .returned (.tuple #[.agg #[.int .i64 r, .int .i64 c, .slice ao len cap], .int .i64 err]) ∧ len ≤ cap ∧ TS w U V cu tu cv' tv bx ((ao, len, Z) :: rows) w' := by
  obtain ⟨ao, cap, rfl, h1, h2, h3, h4, h5⟩ := m
  have t := h.mkV h5 h4
  exact ⟨ao, cap, rfl, h1, t.1, t.2.1, t.2.2.1, t.2.2.2.row h2 (fun e he => h3 e (h.2.2.2.2.1 e he).2)⟩
theorem TS.listDoc (h : TS w U V cu tu cv tv bx rows wx) (m : LiD len Z err (fun w' => Blk V cv' tv w' ∧ Mk V wx w') wx e w') :
    ∃ ao cap, e = .returned (.tuple #[.slice ao len cap, .int .i64 err]) ∧ len ≤ cap ∧ TS w U V cu tu cv' tv bx ((ao, len, Z) :: rows) w' := by
  obtain ⟨ao, cap, rfl, h1, h2, h3, h4, h5⟩ := m
  have t := h.mkV h5 h4
  exact ⟨ao, cap, rfl, h1, t.1, t.2.1, t.2.2.1, t.2.2.2.row h2 (fun e he => h3 e (h.2.2.2.2.1 e he).2)⟩
theorem TS.listU (h : TS w U V cu tu cv tv bx rows wx) (m : ListP len Z err (fun w' => Blk U cu' tu w' ∧ Mk U wx w') wx e w') :
    ∃ ao cap, e = .returned (.tuple #[.slice ao len cap, .int .i64 err]) ∧ len ≤ cap ∧ TS w U V cu' tu cv tv bx ((ao, len, Z) :: rows) w' := by
  obtain ⟨ao, cap, B, rfl, h1, h2, h3, h4, h5⟩ := m
  have t := h.mkU h5 h4
  refine ⟨ao, cap, rfl, h3, t.1, t.2.1, t.2.2.1, t.2.2.2.row ?_ (fun e he => ?_)⟩
  · rcases h2 with rfl | ⟨rfl, hb⟩
    · exact Or.inl rfl
    · exact hb.row
  · rcases h2 with rfl | ⟨rfl, hb⟩
    · exact fun hl => absurd hl (Nat.lt_irrefl _)
    · exact fun _ a ha => by cases ha; have := (h.2.2.2.2.1 e he).2; show B ≠ e; omega
end
theorem refUCutD (R : Nat) (c : Bool) (n : Int) (w : World) (h : RC R c n w) : Calls Try.prog 32 #[.pointer (some ⟨R, 0, none⟩)] w fun e w' => e = .returned (.bool c) ∧ w' = w := by
  have c0 := RC.c0 h
  clear h
  go_enter Try.func32, Try.ntmps32
  go_wp2
  go_ret
  exact ⟨rfl, rfl⟩

end Go.Proofs.Ytcobicnpdmgnjaa

/- MatShapes. -/
namespace Go.Proofs.Ytcobicnpdmgnjaa
open Go.RowKit Go.Shelf Go.Proofs.Wd
set_option linter.unusedVariables false
set_option linter.unusedSimpArgs false

theorem eyeO_bounds {n : Int} {q : MO} (h : eyeO n = q) : q.len ≤ 144 := by
  subst h
  unfold eyeO
  by_cases hg : 1 ≤ n ∧ n ≤ 12
  · rw [if_pos hg]
    have := mul12n n.toNat n.toNat (by omega) (by omega)
    show n.toNat * n.toNat ≤ 144
    omega
  · rw [if_neg hg]; exact Nat.zero_le _
theorem diagO_bounds {n : Nat} {L : Nat → Int} {q : MO} (h : diagO n L = q) : q.len ≤ 144 := by
  subst h
  unfold diagO
  by_cases hg : 1 ≤ n ∧ n ≤ 12
  · rw [if_pos hg]
    have := mul12n n n hg hg
    show n * n ≤ 144
    omega
  · rw [if_neg hg]; exact Nat.zero_le _
theorem turnO_bounds {R C : Int} {len : Nat} {A : Nat → Int} {q : MO} (h : turnO R C len A = q) : q.len ≤ 144 := by
  subst h
  unfold turnO
  by_cases hg : okM R C len
  · rw [if_pos hg]
    have h1 := hg.1
    have h2 := hg.2.1
    have := mul12n C.toNat R.toNat (by omega) (by omega)
    show C.toNat * R.toNat ≤ 144
    omega
  · rw [if_neg hg]; exact Nat.zero_le _
theorem rowO_bounds {R C i : Int} {len : Nat} {A : Nat → Int} {q : MO} (h : rowO R C len A i = q) : q.len ≤ 144 := by
  subst h
  unfold rowO
  by_cases hg : okM R C len ∧ 0 ≤ i ∧ i < R
  · rw [if_pos hg]
    have h2 := hg.1.2.1
    show C.toNat ≤ 144
    omega
  · rw [if_neg hg]; exact Nat.zero_le _
section
variable {w wx w' : World} {E : List Nat} {bx : List (Nat × Array Value)} {rows : List (Option Addr × Nat × (Nat → Int))} {r c err : Int} {len : Nat} {Z : Nat → Int} {e : Ending}
theorem LS.toldE (h : LS w E bx rows wx) (m : DocP r c len Z err (Kp wx) wx e w') : ∃ ao cap, e = .returned (.tuple #[.agg #[.int .i64 r, .int .i64 c, .slice ao len cap], .int .i64 err]) ∧ LS w E bx ((ao, len, Z) :: rows) w' ∧ Kp wx w' := by
  obtain ⟨ao, cap, rfl, h1, h2, h3, h4⟩ := m
  exact ⟨ao, cap, rfl, (h.kp h4).row h2 (fun e he => h3 e (h.2.1 e he).2), h4⟩
theorem LS.liE (h : LS w E bx rows wx) (m : LiD len Z err (Kp wx) wx e w') : ∃ ao cap, e = .returned (.tuple #[.slice ao len cap, .int .i64 err]) ∧ LS w E bx ((ao, len, Z) :: rows) w' ∧ Kp wx w' := by
  obtain ⟨ao, cap, rfl, h1, h2, h3, h4⟩ := m
  exact ⟨ao, cap, rfl, (h.kp h4).row h2 (fun e he => h3 e (h.2.1 e he).2), h4⟩
theorem LS.copyE (h : LS w E bx rows wx) (m : CopyQ len Z wx e w') : ∃ ao cap, e = .returned (.slice ao len cap) ∧ LS w E bx ((ao, len, Z) :: rows) w' ∧ Kp wx w' := by
  obtain ⟨ao, cap, rfl, h1, h2, h3, h4⟩ := m
  exact ⟨ao, cap, rfl, (h.kp h4).row h2 (fun e he => h3 e (h.2.1 e he).2), h4⟩
theorem LS.rowE (h : LS w E bx rows wx) (m : RowP len Z err wx e w') : ∃ ao cap B, e = .returned (.tuple #[.slice ao len cap, .int .i64 err]) ∧ (len = 0 ∨ (ao = some ⟨B, 0, none⟩ ∧ Own B len Z w')) ∧ wx.heap.size ≤ B ∧ LS w E bx ((ao, len, Z) :: rows) w' ∧ Kp wx w' := by
  obtain ⟨ao, cap, B, rfl, h1, h2, h3⟩ := m
  refine ⟨ao, cap, B, rfl, h2, h1, (h.kp h3).row ?_ (fun e he => ?_), h3⟩
  · rcases h2 with rfl | ⟨rfl, hb⟩
    · exact Or.inl rfl
    · exact hb.row
  · rcases h2 with rfl | ⟨rfl, hb⟩
    · exact fun hl => absurd hl (Nat.lt_irrefl _)
    · exact off_blk (by have := (h.2.1 e he).2; omega)
/-- Where a result lies. -/
def OwG (ao : Option Addr) (len : Nat) (Z : Nat → Int) (b : Nat) (wx : World) : Prop := len = 0 ∨ (ao = some ⟨b, 0, none⟩ ∧ Own b len Z wx)
theorem OwG.kp {ao : Option Addr} {b : Nat} (h : OwG ao len Z b wx) (k : Kp wx w') : OwG ao len Z b w' := h.imp id (fun q => ⟨q.1, q.2.kp k⟩)
theorem OwG.alloc {ao : Option Addr} {b : Nat} (h : OwG ao len Z b wx) (cs : Array Value) (t : TypeId) : OwG ao len Z b (wx.alloc (.cells cs t)) := h.kp ((Kp.refl _).alloc _ _)
theorem Own.lt {b : Nat} (h : Own b len Z wx) : b < wx.heap.size := let ⟨_, h1, _⟩ := h; Blk.lt h1
end
theorem wpOp_want {P : Program} {ops : Array Oper} {Q : Exit → Act → World → Prop} {i : Nat} {K : Act → World → Prop} {a : Act} {w : World} {o : Oper} (hi : ops[i]? = some o) (hw : Region.wanted o (yielded ops a.tmps) = true) (h : o.wp P a w K Q) : wpOp P ops Q i K a w := by
  unfold wpOp
  simp only [hi]
  rw [if_pos hw]
  exact Or.inl h


set_option maxRecDepth 50000 in
set_option maxHeartbeats 8000000 in
theorem lawMatShapes_not (R1 C1 n : Int) (a1 xo : Option Addr) (l1 p1 xl xc : Nat) (A X : Nat → Int) (h1 : l1 ≤ p1) (z1 : a1 = none → l1 = 0 ∧ p1 = 0) (zx : xo = none → xl = 0 ∧ xc = 0) (w : World) (ra : Row w a1 l1 A) (rx : Row w xo xl X) (hc : 160 < l1 ∨ 40 < xl) :
    Calls Try.prog 3 #[.agg #[.int .i64 R1, .int .i64 C1, .slice a1 l1 p1], .slice xo xl xc, .int .i64 n] w fun e w' => e = .returned (.bool true) ∧ Kp w w' := by
  have HC := hide hc
  clear hc z1 zx h1
  have L0 := hide ((((LS.nilD w).row ra (by simp)).row rx (by simp)).box #[.int .i64 R1, .int .i64 C1, .slice a1 l1 p1])
  have LA := hide (fun w => lawLong R1 C1 a1 l1 p1 w)
  clear ra rx
  obtain ⟨x0, x1, x2⟩ := (unhide L0).cellsD (b := w.heap.size) (x := .int .i64 R1) (y := .int .i64 C1) (z := .slice a1 l1 p1) (by simp)
  go_enter Try.func3, Try.ntmps3
  go_wp2_with fail
  generalize w.alloc (.cells #[.int .i64 R1, .int .i64 C1, .slice a1 l1 p1] 24) = w0 at *
  refine (unhide LA _).mono ?_
  rintro e w3 ⟨rfl, g3⟩
  have L3 := hide ((unhide L0).kp (Kp.of g3))
  clear x0 x1 x2 g3 L0

  by_cases hl : 160 < l1
  · rw [decide_eq_true hl]
    clear HC
    go_wp2_with fail
    refine (lawMatAwake _).mono ?_
    rintro e w5 ⟨rfl, k5⟩
    have L5 := hide ((unhide L3).kp k5)
    clear k5 L3
    go_wp2
    go_ret
    exact ⟨rfl, (unhide L5).1⟩
  · have hx : 40 < xl := (unhide HC).resolve_left hl
    rw [decide_eq_false hl]
    clear HC hl
    go_wp2_with fail
    refine (lawMatAwake _).mono ?_
    rintro e w5 ⟨rfl, k5⟩
    have L5 := hide ((unhide L3).kp k5)
    clear k5 L3
    go_wp2
    go_ret
    exact ⟨rfl, (unhide L5).1⟩


set_option maxRecDepth 50000 in
set_option maxHeartbeats 32000000 in
theorem lawMatShapes_ok (R1 C1 n : Int) (a1 xo : Option Addr) (l1 p1 xl xc : Nat) (A X : Nat → Int) (h1 : l1 ≤ p1) (z1 : a1 = none → l1 = 0 ∧ p1 = 0) (zx : xo = none → xl = 0 ∧ xc = 0) (w : World) (ra : Row w a1 l1 A) (rx : Row w xo xl X) (hc : l1 ≤ 160 ∧ xl ≤ 40) :
    Calls Try.prog 3 #[.agg #[.int .i64 R1, .int .i64 C1, .slice a1 l1 p1], .slice xo xl xc, .int .i64 n] w fun e w' => e = .returned (.bool true) ∧ Kp w w' := by
  have HC := hide hc
  have K1 := hide (fun w hr => kitCopyM R1 C1 a1 l1 p1 A (by omega) z1 w hr)
  have K3 := hide (fun w hr => kitCopyC xo xl xc X (by omega) zx w hr)
  have H1 := hide h1
  clear hc z1 zx h1
  have L0 := hide ((((LS.nilD w).row ra (by simp)).row rx (by simp)).box #[.int .i64 R1, .int .i64 C1, .slice a1 l1 p1])
  have LA := hide (fun w => lawLong R1 C1 a1 l1 p1 w)
  clear ra rx
  obtain ⟨x0, x1, x2⟩ := (unhide L0).cellsD (b := w.heap.size) (x := .int .i64 R1) (y := .int .i64 C1) (z := .slice a1 l1 p1) (by simp)
  go_enter Try.func3, Try.ntmps3
  go_wp2_with fail
  generalize w.alloc (.cells #[.int .i64 R1, .int .i64 C1, .slice a1 l1 p1] 24) = w0 at *
  refine (unhide LA _).mono ?_
  rintro e w3 ⟨rfl, g3⟩
  have L3 := hide ((unhide L0).kp (Kp.of g3))
  clear x0 x1 x2 g3 L0

  rw [decide_eq_false (by have := unhide HC; omega)]
  have hx : xl ≤ 40 := (unhide HC).2
  obtain ⟨k00, k01, k02⟩ := (unhide L3).cellsD (b := w.heap.size) (x := .int .i64 R1) (y := .int .i64 C1) (z := .slice a1 l1 p1) (by simp)
  go_wp2_with fail
  clear hx
  refine (unhide K1 _ ((unhide L3).at (ao := a1) (len := l1) (Z := A) (by simp)).1).mono ?_
  intro e w4 hm
  obtain ⟨aa, pa, rfl, hpa, T4⟩ := (unhide L3).copy hm
  have L4 := hide T4
  clear hm T4 L3 k00 k01 k02 K1
  go_wp2_with fail
  refine (unhide K3 _ ((unhide L4).at (ao := xo) (len := xl) (Z := X) (by simp)).1).mono ?_
  intro e w5 hm
  obtain ⟨xa, pc, rfl, T5, kk⟩ := (unhide L4).copyE hm
  have L5 := hide (T5.box #[.int .i64 R1, .int .i64 C1, .slice aa l1 pa])
  have HP := hide (And.intro (unhide H1) hpa)
  clear hm T5 L4 kk K3 hpa H1
  obtain ⟨A1, hA1⟩ : ∃ A1, w5.heap.size = A1 := ⟨_, rfl⟩
  rw [hA1] at L5
  go_wp2_with fail
  (try rw [hA1])
  clear hA1
  obtain ⟨q1, hq1⟩ : ∃ q, eyeO n = q := ⟨_, rfl⟩
  have Q1 := hide (eyeO_bounds hq1)
  obtain ⟨q2, hq2⟩ : ∃ q, diagO xl X = q := ⟨_, rfl⟩
  have Q2 := hide (diagO_bounds hq2)
  obtain ⟨q3, hq3⟩ : ∃ q, turnO R1 C1 l1 A = q := ⟨_, rfl⟩
  have Q3 := hide (turnO_bounds hq3)
  obtain ⟨q4, hq4⟩ : ∃ q, rowO R1 C1 l1 A n = q := ⟨_, rfl⟩
  have Q4 := hide (rowO_bounds hq4)
  have HQ := hide (And.intro hq1 (And.intro hq2 (And.intro hq3 hq4)))
  clear hq1 hq2 hq3 hq4
  go_wp2_with fail
  refine (eyeAny n _ q1 (unhide HQ).1).mono ?_
  intro e v1 hm
  have kk : Kp _ v1 := (let ⟨_, _, _, _, _, _, _, x⟩ := hm; x)
  obtain ⟨s1, t1, b1, rfl, hc1, ho1, hf1, T1, _⟩ := (unhide L5).told ((unhide L5).kp kk) hm
  have L6 := hide (T1.box #[.int .i64 q1.r, .int .i64 q1.c, .slice s1 q1.len t1])
  clear hm kk T1 L5 hc1 ho1 hf1
  go_wp2_with fail
  refine (refEyeAny n _ q1 (unhide HQ).1).mono ?_
  intro e v2 hm
  obtain ⟨s2, t2, rfl, T2, kk⟩ := (unhide L6).toldE hm
  have L7 := hide (T2.box #[.int .i64 q1.r, .int .i64 q1.c, .slice s2 q1.len t2])
  clear hm kk T2 L6
  go_wp2_with fail
  refine (diagAny xl pc xa X _ ((unhide L7).at (ao := xa) (len := xl) (Z := X) (by simp)).1 q2 (unhide HQ).2.1).mono ?_
  intro e v3 hm
  have kk : Kp _ v3 := (let ⟨_, _, _, _, _, _, _, x⟩ := hm; x)
  obtain ⟨s3, t3, b3, rfl, hc3, ho3, hf3, T3, _⟩ := (unhide L7).told ((unhide L7).kp kk) hm
  have L8 := hide (T3.box #[.int .i64 q2.r, .int .i64 q2.c, .slice s3 q2.len t3])
  have P3 : Hid (OwG s3 q2.len q2.Z b3 (v3.alloc (.cells #[.int .i64 q2.r, .int .i64 q2.c, .slice s3 q2.len t3] 24))) := OwG.alloc (ho3.imp id (fun q => ⟨q.1, Own.of q.2⟩)) _ _
  have G3 := hide (And.intro (Nat.le_trans (unhide L7).1.2.2.2 hf3) (And.intro ((unhide L7).fresh hf3) (ho3.imp id (fun q => Blk.lt q.2))))
  clear hm kk T3 L7 hc3 ho3 hf3
  go_wp2_with fail
  refine (refDiagAny xl xc xo X _ ((unhide L8).at (ao := xo) (len := xl) (Z := X) (by simp)).1 q2 (unhide HQ).2.1).mono ?_
  intro e v4 hm
  obtain ⟨s4, t4, rfl, T4, kk⟩ := (unhide L8).toldE hm
  have L9 := hide (T4.box #[.int .i64 q2.r, .int .i64 q2.c, .slice s4 q2.len t4])
  have P3' := hide ((unhide P3).kp kk)
  clear P3
  have P3 := hide ((unhide P3').alloc #[.int .i64 q2.r, .int .i64 q2.c, .slice s4 q2.len t4] 24)
  clear P3'
  clear hm kk T4 L8
  obtain ⟨k00, k01, k02⟩ := (unhide L9).cellsD (b := A1) (x := .int .i64 R1) (y := .int .i64 C1) (z := .slice aa l1 pa) (by simp)
  go_wp2_with fail
  refine (turnAny R1 C1 aa l1 pa A _ ((unhide L9).at (ao := aa) (len := l1) (Z := A) (by simp)).1 q3 (unhide HQ).2.2.1).mono ?_
  intro e v5 hm
  have kk : Kp _ v5 := (let ⟨_, _, _, _, _, _, _, x⟩ := hm; x)
  obtain ⟨s5, t5, b5, rfl, hc5, ho5, hf5, T5, _⟩ := (unhide L9).told ((unhide L9).kp kk) hm
  have LX := hide (T5.box #[.int .i64 q3.r, .int .i64 q3.c, .slice s5 q3.len t5])
  have P3' := hide ((unhide P3).kp kk)
  clear P3
  have P3 := hide ((unhide P3').alloc #[.int .i64 q3.r, .int .i64 q3.c, .slice s5 q3.len t5] 24)
  clear P3'
  have P5 : Hid (OwG s5 q3.len q3.Z b5 (v5.alloc (.cells #[.int .i64 q3.r, .int .i64 q3.c, .slice s5 q3.len t5] 24))) := OwG.alloc (ho5.imp id (fun q => ⟨q.1, Own.of q.2⟩)) _ _
  have G5 := hide (And.intro (Nat.le_trans (unhide L9).1.2.2.2 hf5) (And.intro ((unhide L9).fresh hf5) (ho5.imp id (fun q => Blk.lt q.2))))
  have O5 : Hid (v3.heap.size < v5.heap.size ∧ v3.heap.size < b5) := ⟨T5.lt (b := v3.heap.size) (cs := #[.int .i64 q2.r, .int .i64 q2.c, .slice s3 q2.len t3]) (by simp), Nat.lt_of_lt_of_le ((unhide L9).lt (b := v3.heap.size) (cs := #[.int .i64 q2.r, .int .i64 q2.c, .slice s3 q2.len t3]) (by simp)) hf5⟩
  clear hm kk T5 L9 hc5 ho5 hf5 k00 k01 k02
  obtain ⟨k00, k01, k02⟩ := (unhide LX).cellsD (b := w.heap.size) (x := .int .i64 R1) (y := .int .i64 C1) (z := .slice a1 l1 p1) (by simp)
  go_wp2_with fail
  refine (refTurnAny R1 C1 a1 l1 p1 A _ ((unhide LX).at (ao := a1) (len := l1) (Z := A) (by simp)).1 q3 (unhide HQ).2.2.1).mono ?_
  intro e v6 hm
  obtain ⟨s6, t6, rfl, T6, kk⟩ := (unhide LX).toldE hm
  have LY := hide (T6.box #[.int .i64 q3.r, .int .i64 q3.c, .slice s6 q3.len t6])
  have P3' := hide ((unhide P3).kp kk)
  clear P3
  have P3 := hide ((unhide P3').alloc #[.int .i64 q3.r, .int .i64 q3.c, .slice s6 q3.len t6] 24)
  clear P3'
  have P5' := hide ((unhide P5).kp kk)
  clear P5
  have P5 := hide ((unhide P5').alloc #[.int .i64 q3.r, .int .i64 q3.c, .slice s6 q3.len t6] 24)
  clear P5'
  clear hm kk T6 LX k00 k01 k02
  obtain ⟨k00, k01, k02⟩ := (unhide LY).cellsD (b := A1) (x := .int .i64 R1) (y := .int .i64 C1) (z := .slice aa l1 pa) (by simp)
  go_wp2_with fail
  refine (rowAny R1 C1 aa l1 pa A n (unhide HP).2 _ ((unhide LY).at (ao := aa) (len := l1) (Z := A) (by simp)).1 q4 (unhide HQ).2.2.2).mono ?_
  intro e v7 hm
  obtain ⟨s7, t7, b7, rfl, ho7, hf7, T7, kk⟩ := (unhide LY).rowE hm
  have LZ := hide T7
  have P3' := hide ((unhide P3).kp kk)
  clear P3
  have P3 := hide (unhide P3')
  clear P3'
  have P5' := hide ((unhide P5).kp kk)
  clear P5
  have P5 := hide (unhide P5')
  clear P5'
  have P7 : Hid (OwG s7 q4.len q4.Z b7 v7) := ho7
  have G7 := hide (And.intro (Nat.le_trans (unhide LY).1.2.2.2 hf7) (And.intro ((unhide LY).fresh hf7) (ho7.imp id (fun q => Own.lt q.2))))
  have O7 : Hid (v5.heap.size < b7) := Nat.lt_of_lt_of_le ((unhide LY).lt (b := v5.heap.size) (cs := #[.int .i64 q3.r, .int .i64 q3.c, .slice s5 q3.len t5]) (by simp)) hf7
  clear hm kk T7 LY ho7 hf7 k00 k01 k02
  obtain ⟨k00, k01, k02⟩ := (unhide LZ).cellsD (b := w.heap.size) (x := .int .i64 R1) (y := .int .i64 C1) (z := .slice a1 l1 p1) (by simp)
  go_wp2_with fail
  refine (refRowAny R1 C1 a1 l1 p1 A n (unhide HP).1 _ ((unhide LZ).at (ao := a1) (len := l1) (Z := A) (by simp)).1 q4 (unhide HQ).2.2.2).mono ?_
  intro e v8 hm
  obtain ⟨s8, t8, rfl, T8, kk⟩ := (unhide LZ).liE hm
  have M0 := hide T8
  have P3' := hide ((unhide P3).kp kk)
  clear P3
  have P3 := hide (unhide P3')
  clear P3'
  have P5' := hide ((unhide P5).kp kk)
  clear P5
  have P5 := hide (unhide P5')
  clear P5'
  have P7' := hide ((unhide P7).kp kk)
  clear P7
  have P7 := hide (unhide P7')
  clear P7'
  clear hm kk T8 LZ k00 k01 k02

  go_wp2
  refine region_G (LS w [] [(v6.heap.size, #[.int .i64 q3.r, .int .i64 q3.c, .slice s6 q3.len t6]), (v5.heap.size, #[.int .i64 q3.r, .int .i64 q3.c, .slice s5 q3.len t5]), (v4.heap.size, #[.int .i64 q2.r, .int .i64 q2.c, .slice s4 q2.len t4]), (v3.heap.size, #[.int .i64 q2.r, .int .i64 q2.c, .slice s3 q2.len t3]), (v2.heap.size, #[.int .i64 q1.r, .int .i64 q1.c, .slice s2 q1.len t2]), (v1.heap.size, #[.int .i64 q1.r, .int .i64 q1.c, .slice s1 q1.len t1]), (A1, #[.int .i64 R1, .int .i64 C1, .slice aa l1 pa]), (w.heap.size, #[.int .i64 R1, .int .i64 C1, .slice a1 l1 p1])] [(s8, q4.len, q4.Z), (s7, q4.len, q4.Z), (s6, q3.len, q3.Z), (s5, q3.len, q3.Z), (s4, q2.len, q2.Z), (s3, q2.len, q2.Z), (s2, q1.len, q1.Z), (s1, q1.len, q1.Z), (xa, xl, X), (aa, l1, A), (xo, xl, X), (a1, l1, A)]) 45 (by kernel_rfl) (unhide M0) (fun hHeld => ?_)
  clear M0
  have M0 := hide hHeld
  refine take_G (i := 0) (d := 80) (v := .agg #[.int .i64 q1.r, .int .i64 q1.c, .slice s1 q1.len t1]) rfl rfl (by kernel_rfl) (by kernel_rfl) (by kernel_rfl) (by kernel_rfl) (by kernel_rfl) (Or.inl ⟨by rfl, ?_⟩) hHeld ?_
  · intro wS hSw
    obtain ⟨k00, k01, k02⟩ := hSw.cellsD (b := v1.heap.size) (x := .int .i64 q1.r) (y := .int .i64 q1.c) (z := .slice s1 q1.len t1) (by simp)
    clear hSw hHeld
    go_simp
  (try simp only [Act.put, List.setIfInBounds_toArray, List.set_cons_zero, List.set_cons_succ])
  refine take_G (i := 1) (d := 81) (v := .agg #[.int .i64 q1.r, .int .i64 q1.c, .slice s2 q1.len t2]) rfl rfl (by kernel_rfl) (by kernel_rfl) (by kernel_rfl) (by kernel_rfl) (by kernel_rfl) (Or.inl ⟨by rfl, ?_⟩) hHeld ?_
  · intro wS hSw
    obtain ⟨k00, k01, k02⟩ := hSw.cellsD (b := v2.heap.size) (x := .int .i64 q1.r) (y := .int .i64 q1.c) (z := .slice s2 q1.len t2) (by simp)
    clear hSw hHeld
    go_simp
  (try simp only [Act.put, List.setIfInBounds_toArray, List.set_cons_zero, List.set_cons_succ])
  refine step_G (i := 2) (by kernel_rfl) (fun K hK => ?_)
  refine wpOp_want rfl (by rfl) ?_
  unfold Oper.wp
  go_simp
  refine (kitSameM q1.r q1.c s1 s2 q1.len t1 t2 q1.Z (by have := unhide Q1; omega) _ ((unhide M0).at (ao := s1) (len := q1.len) (Z := q1.Z) (by simp)).1 ((unhide M0).at (ao := s2) (len := q1.len) (Z := q1.Z) (by simp)).1).mono ?_
  rintro e x1 ⟨rfl, kk⟩
  have M1 := hide ((unhide M0).kp kk)
  have P3' := hide ((unhide P3).kp kk)
  clear P3
  have P3 := hide (unhide P3')
  clear P3'
  have P5' := hide ((unhide P5).kp kk)
  clear P5
  have P5 := hide (unhide P5')
  clear P5'
  have P7' := hide ((unhide P7).kp kk)
  clear P7
  have P7 := hide (unhide P7')
  clear P7'
  clear hHeld M0 kk
  refine hK _ _ (fun _ => unhide M1) ?_
  clear hK K
  have hHeld := unhide M1
  (try simp only [Act.put, List.setIfInBounds_toArray, List.set_cons_zero, List.set_cons_succ])
  refine take_G (i := 3) (d := 83) (v := .bool true) rfl rfl (by kernel_rfl) (by kernel_rfl) (by kernel_rfl) (by kernel_rfl) (by kernel_rfl) (Or.inl ⟨by rfl, ?_⟩) hHeld ?_
  · intro wS hSw
    clear hSw hHeld
    go_simp
  (try simp only [Act.put, List.setIfInBounds_toArray, List.set_cons_zero, List.set_cons_succ])
  refine take_G (i := 4) (d := 84) (v := .int .i64 q1.err) rfl rfl (by kernel_rfl) (by kernel_rfl) (by kernel_rfl) (by kernel_rfl) (by kernel_rfl) (Or.inl ⟨by rfl, ?_⟩) hHeld ?_
  · intro wS hSw
    clear hSw hHeld
    go_simp
  (try simp only [Act.put, List.setIfInBounds_toArray, List.set_cons_zero, List.set_cons_succ])
  refine take_G (i := 5) (d := 85) (v := .int .i64 q1.err) rfl rfl (by kernel_rfl) (by kernel_rfl) (by kernel_rfl) (by kernel_rfl) (by kernel_rfl) (Or.inl ⟨by rfl, ?_⟩) hHeld ?_
  · intro wS hSw
    clear hSw hHeld
    go_simp
  (try simp only [Act.put, List.setIfInBounds_toArray, List.set_cons_zero, List.set_cons_succ])
  refine take_G (i := 6) (d := 86) (v := .bool true) rfl rfl (by kernel_rfl) (by kernel_rfl) (by kernel_rfl) (by kernel_rfl) (by kernel_rfl) (Or.inl ⟨by rfl, ?_⟩) hHeld ?_
  · intro wS hSw
    clear hSw hHeld
    go_simp
  (try simp only [Act.put, List.setIfInBounds_toArray, List.set_cons_zero, List.set_cons_succ])
  refine take_G (i := 7) (d := 87) (v := .bool true) rfl rfl (by kernel_rfl) (by kernel_rfl) (by kernel_rfl) (by kernel_rfl) (by kernel_rfl) (Or.inl ⟨by rfl, ?_⟩) hHeld ?_
  · intro wS hSw
    clear hSw hHeld
    go_simp
  (try simp only [Act.put, List.setIfInBounds_toArray, List.set_cons_zero, List.set_cons_succ])
  refine take_G (i := 8) (d := 88) (v := .bool true) rfl rfl (by kernel_rfl) (by kernel_rfl) (by kernel_rfl) (by kernel_rfl) (by kernel_rfl) (Or.inl ⟨by rfl, ?_⟩) hHeld ?_
  · intro wS hSw
    clear hSw hHeld
    go_simp
  (try simp only [Act.put, List.setIfInBounds_toArray, List.set_cons_zero, List.set_cons_succ])
  refine take_G (i := 9) (d := 89) (v := .agg #[.int .i64 q2.r, .int .i64 q2.c, .slice s3 q2.len t3]) rfl rfl (by kernel_rfl) (by kernel_rfl) (by kernel_rfl) (by kernel_rfl) (by kernel_rfl) (Or.inl ⟨by rfl, ?_⟩) hHeld ?_
  · intro wS hSw
    obtain ⟨k00, k01, k02⟩ := hSw.cellsD (b := v3.heap.size) (x := .int .i64 q2.r) (y := .int .i64 q2.c) (z := .slice s3 q2.len t3) (by simp)
    clear hSw hHeld
    go_simp
  (try simp only [Act.put, List.setIfInBounds_toArray, List.set_cons_zero, List.set_cons_succ])
  refine take_G (i := 10) (d := 90) (v := .agg #[.int .i64 q2.r, .int .i64 q2.c, .slice s4 q2.len t4]) rfl rfl (by kernel_rfl) (by kernel_rfl) (by kernel_rfl) (by kernel_rfl) (by kernel_rfl) (Or.inl ⟨by rfl, ?_⟩) hHeld ?_
  · intro wS hSw
    obtain ⟨k00, k01, k02⟩ := hSw.cellsD (b := v4.heap.size) (x := .int .i64 q2.r) (y := .int .i64 q2.c) (z := .slice s4 q2.len t4) (by simp)
    clear hSw hHeld
    go_simp
  (try simp only [Act.put, List.setIfInBounds_toArray, List.set_cons_zero, List.set_cons_succ])
  refine step_G (i := 11) (by kernel_rfl) (fun K hK => ?_)
  refine wpOp_want rfl (by rfl) ?_
  unfold Oper.wp
  go_simp
  refine (kitSameM q2.r q2.c s3 s4 q2.len t3 t4 q2.Z (by have := unhide Q2; omega) _ ((unhide M1).at (ao := s3) (len := q2.len) (Z := q2.Z) (by simp)).1 ((unhide M1).at (ao := s4) (len := q2.len) (Z := q2.Z) (by simp)).1).mono ?_
  rintro e x2 ⟨rfl, kk⟩
  have M2 := hide ((unhide M1).kp kk)
  have P3' := hide ((unhide P3).kp kk)
  clear P3
  have P3 := hide (unhide P3')
  clear P3'
  have P5' := hide ((unhide P5).kp kk)
  clear P5
  have P5 := hide (unhide P5')
  clear P5'
  have P7' := hide ((unhide P7).kp kk)
  clear P7
  have P7 := hide (unhide P7')
  clear P7'
  clear hHeld M1 kk
  refine hK _ _ (fun _ => unhide M2) ?_
  clear hK K
  have hHeld := unhide M2
  (try simp only [Act.put, List.setIfInBounds_toArray, List.set_cons_zero, List.set_cons_succ])
  refine take_G (i := 12) (d := 92) (v := .bool true) rfl rfl (by kernel_rfl) (by kernel_rfl) (by kernel_rfl) (by kernel_rfl) (by kernel_rfl) (Or.inl ⟨by rfl, ?_⟩) hHeld ?_
  · intro wS hSw
    clear hSw hHeld
    go_simp
  (try simp only [Act.put, List.setIfInBounds_toArray, List.set_cons_zero, List.set_cons_succ])
  refine take_G (i := 13) (d := 93) (v := .bool true) rfl rfl (by kernel_rfl) (by kernel_rfl) (by kernel_rfl) (by kernel_rfl) (by kernel_rfl) (Or.inl ⟨by rfl, ?_⟩) hHeld ?_
  · intro wS hSw
    clear hSw hHeld
    go_simp
  (try simp only [Act.put, List.setIfInBounds_toArray, List.set_cons_zero, List.set_cons_succ])
  refine take_G (i := 14) (d := 94) (v := .int .i64 q2.err) rfl rfl (by kernel_rfl) (by kernel_rfl) (by kernel_rfl) (by kernel_rfl) (by kernel_rfl) (Or.inl ⟨by rfl, ?_⟩) hHeld ?_
  · intro wS hSw
    clear hSw hHeld
    go_simp
  (try simp only [Act.put, List.setIfInBounds_toArray, List.set_cons_zero, List.set_cons_succ])
  refine take_G (i := 15) (d := 95) (v := .int .i64 q2.err) rfl rfl (by kernel_rfl) (by kernel_rfl) (by kernel_rfl) (by kernel_rfl) (by kernel_rfl) (Or.inl ⟨by rfl, ?_⟩) hHeld ?_
  · intro wS hSw
    clear hSw hHeld
    go_simp
  (try simp only [Act.put, List.setIfInBounds_toArray, List.set_cons_zero, List.set_cons_succ])
  refine take_G (i := 16) (d := 96) (v := .bool true) rfl rfl (by kernel_rfl) (by kernel_rfl) (by kernel_rfl) (by kernel_rfl) (by kernel_rfl) (Or.inl ⟨by rfl, ?_⟩) hHeld ?_
  · intro wS hSw
    clear hSw hHeld
    go_simp
  (try simp only [Act.put, List.setIfInBounds_toArray, List.set_cons_zero, List.set_cons_succ])
  refine take_G (i := 17) (d := 97) (v := .bool true) rfl rfl (by kernel_rfl) (by kernel_rfl) (by kernel_rfl) (by kernel_rfl) (by kernel_rfl) (Or.inl ⟨by rfl, ?_⟩) hHeld ?_
  · intro wS hSw
    clear hSw hHeld
    go_simp
  (try simp only [Act.put, List.setIfInBounds_toArray, List.set_cons_zero, List.set_cons_succ])
  refine take_G (i := 18) (d := 98) (v := .bool true) rfl rfl (by kernel_rfl) (by kernel_rfl) (by kernel_rfl) (by kernel_rfl) (by kernel_rfl) (Or.inl ⟨by rfl, ?_⟩) hHeld ?_
  · intro wS hSw
    clear hSw hHeld
    go_simp
  (try simp only [Act.put, List.setIfInBounds_toArray, List.set_cons_zero, List.set_cons_succ])
  refine take_G (i := 19) (d := 99) (v := .agg #[.int .i64 q3.r, .int .i64 q3.c, .slice s5 q3.len t5]) rfl rfl (by kernel_rfl) (by kernel_rfl) (by kernel_rfl) (by kernel_rfl) (by kernel_rfl) (Or.inl ⟨by rfl, ?_⟩) hHeld ?_
  · intro wS hSw
    obtain ⟨k00, k01, k02⟩ := hSw.cellsD (b := v5.heap.size) (x := .int .i64 q3.r) (y := .int .i64 q3.c) (z := .slice s5 q3.len t5) (by simp)
    clear hSw hHeld
    go_simp
  (try simp only [Act.put, List.setIfInBounds_toArray, List.set_cons_zero, List.set_cons_succ])
  refine take_G (i := 20) (d := 100) (v := .agg #[.int .i64 q3.r, .int .i64 q3.c, .slice s6 q3.len t6]) rfl rfl (by kernel_rfl) (by kernel_rfl) (by kernel_rfl) (by kernel_rfl) (by kernel_rfl) (Or.inl ⟨by rfl, ?_⟩) hHeld ?_
  · intro wS hSw
    obtain ⟨k00, k01, k02⟩ := hSw.cellsD (b := v6.heap.size) (x := .int .i64 q3.r) (y := .int .i64 q3.c) (z := .slice s6 q3.len t6) (by simp)
    clear hSw hHeld
    go_simp
  (try simp only [Act.put, List.setIfInBounds_toArray, List.set_cons_zero, List.set_cons_succ])
  refine step_G (i := 21) (by kernel_rfl) (fun K hK => ?_)
  refine wpOp_want rfl (by rfl) ?_
  unfold Oper.wp
  go_simp
  refine (kitSameM q3.r q3.c s5 s6 q3.len t5 t6 q3.Z (by have := unhide Q3; omega) _ ((unhide M2).at (ao := s5) (len := q3.len) (Z := q3.Z) (by simp)).1 ((unhide M2).at (ao := s6) (len := q3.len) (Z := q3.Z) (by simp)).1).mono ?_
  rintro e x3 ⟨rfl, kk⟩
  have M3 := hide ((unhide M2).kp kk)
  have P3' := hide ((unhide P3).kp kk)
  clear P3
  have P3 := hide (unhide P3')
  clear P3'
  have P5' := hide ((unhide P5).kp kk)
  clear P5
  have P5 := hide (unhide P5')
  clear P5'
  have P7' := hide ((unhide P7).kp kk)
  clear P7
  have P7 := hide (unhide P7')
  clear P7'
  clear hHeld M2 kk
  refine hK _ _ (fun _ => unhide M3) ?_
  clear hK K
  have hHeld := unhide M3
  (try simp only [Act.put, List.setIfInBounds_toArray, List.set_cons_zero, List.set_cons_succ])
  refine take_G (i := 22) (d := 102) (v := .bool true) rfl rfl (by kernel_rfl) (by kernel_rfl) (by kernel_rfl) (by kernel_rfl) (by kernel_rfl) (Or.inl ⟨by rfl, ?_⟩) hHeld ?_
  · intro wS hSw
    clear hSw hHeld
    go_simp
  (try simp only [Act.put, List.setIfInBounds_toArray, List.set_cons_zero, List.set_cons_succ])
  refine take_G (i := 23) (d := 103) (v := .bool true) rfl rfl (by kernel_rfl) (by kernel_rfl) (by kernel_rfl) (by kernel_rfl) (by kernel_rfl) (Or.inl ⟨by rfl, ?_⟩) hHeld ?_
  · intro wS hSw
    clear hSw hHeld
    go_simp
  (try simp only [Act.put, List.setIfInBounds_toArray, List.set_cons_zero, List.set_cons_succ])
  refine take_G (i := 24) (d := 104) (v := .int .i64 q3.err) rfl rfl (by kernel_rfl) (by kernel_rfl) (by kernel_rfl) (by kernel_rfl) (by kernel_rfl) (Or.inl ⟨by rfl, ?_⟩) hHeld ?_
  · intro wS hSw
    clear hSw hHeld
    go_simp
  (try simp only [Act.put, List.setIfInBounds_toArray, List.set_cons_zero, List.set_cons_succ])
  refine take_G (i := 25) (d := 105) (v := .int .i64 q3.err) rfl rfl (by kernel_rfl) (by kernel_rfl) (by kernel_rfl) (by kernel_rfl) (by kernel_rfl) (Or.inl ⟨by rfl, ?_⟩) hHeld ?_
  · intro wS hSw
    clear hSw hHeld
    go_simp
  (try simp only [Act.put, List.setIfInBounds_toArray, List.set_cons_zero, List.set_cons_succ])
  refine take_G (i := 26) (d := 106) (v := .bool true) rfl rfl (by kernel_rfl) (by kernel_rfl) (by kernel_rfl) (by kernel_rfl) (by kernel_rfl) (Or.inl ⟨by rfl, ?_⟩) hHeld ?_
  · intro wS hSw
    clear hSw hHeld
    go_simp
  (try simp only [Act.put, List.setIfInBounds_toArray, List.set_cons_zero, List.set_cons_succ])
  refine take_G (i := 27) (d := 107) (v := .bool true) rfl rfl (by kernel_rfl) (by kernel_rfl) (by kernel_rfl) (by kernel_rfl) (by kernel_rfl) (Or.inl ⟨by rfl, ?_⟩) hHeld ?_
  · intro wS hSw
    clear hSw hHeld
    go_simp
  (try simp only [Act.put, List.setIfInBounds_toArray, List.set_cons_zero, List.set_cons_succ])
  refine take_G (i := 28) (d := 108) (v := .bool true) rfl rfl (by kernel_rfl) (by kernel_rfl) (by kernel_rfl) (by kernel_rfl) (by kernel_rfl) (Or.inl ⟨by rfl, ?_⟩) hHeld ?_
  · intro wS hSw
    clear hSw hHeld
    go_simp
  (try simp only [Act.put, List.setIfInBounds_toArray, List.set_cons_zero, List.set_cons_succ])
  refine take_G (i := 29) (d := 109) (v := .slice s7 q4.len t7) rfl rfl (by kernel_rfl) (by kernel_rfl) (by kernel_rfl) (by kernel_rfl) (by kernel_rfl) (Or.inl ⟨by rfl, ?_⟩) hHeld ?_
  · intro wS hSw
    clear hSw hHeld
    go_simp
  (try simp only [Act.put, List.setIfInBounds_toArray, List.set_cons_zero, List.set_cons_succ])
  refine take_G (i := 30) (d := 110) (v := .slice s8 q4.len t8) rfl rfl (by kernel_rfl) (by kernel_rfl) (by kernel_rfl) (by kernel_rfl) (by kernel_rfl) (Or.inl ⟨by rfl, ?_⟩) hHeld ?_
  · intro wS hSw
    clear hSw hHeld
    go_simp
  (try simp only [Act.put, List.setIfInBounds_toArray, List.set_cons_zero, List.set_cons_succ])
  refine step_G (i := 31) (by kernel_rfl) (fun K hK => ?_)
  refine wpOp_want rfl (by rfl) ?_
  unfold Oper.wp
  go_simp
  refine (kitSameQ s7 s8 q4.len t7 t8 q4.Z (by have := unhide Q4; omega) _ ((unhide M3).at (ao := s7) (len := q4.len) (Z := q4.Z) (by simp)).1 ((unhide M3).at (ao := s8) (len := q4.len) (Z := q4.Z) (by simp)).1).mono ?_
  rintro e x4 ⟨rfl, nz, rfl⟩
  have kk : Kp x3 (World.drewN x3 nz) := Kp.refl x3
  have M4 := hide ((unhide M3).kp kk)
  have P3' := hide ((unhide P3).kp kk)
  clear P3
  have P3 := hide (unhide P3')
  clear P3'
  have P5' := hide ((unhide P5).kp kk)
  clear P5
  have P5 := hide (unhide P5')
  clear P5'
  have P7' := hide ((unhide P7).kp kk)
  clear P7
  have P7 := hide (unhide P7')
  clear P7'
  clear hHeld M3 kk
  refine hK _ _ (fun _ => unhide M4) ?_
  clear hK K
  have hHeld := unhide M4
  (try simp only [Act.put, List.setIfInBounds_toArray, List.set_cons_zero, List.set_cons_succ])
  refine take_G (i := 32) (d := 112) (v := .bool true) rfl rfl (by kernel_rfl) (by kernel_rfl) (by kernel_rfl) (by kernel_rfl) (by kernel_rfl) (Or.inl ⟨by rfl, ?_⟩) hHeld ?_
  · intro wS hSw
    clear hSw hHeld
    go_simp
  (try simp only [Act.put, List.setIfInBounds_toArray, List.set_cons_zero, List.set_cons_succ])
  refine take_G (i := 33) (d := 113) (v := .bool true) rfl rfl (by kernel_rfl) (by kernel_rfl) (by kernel_rfl) (by kernel_rfl) (by kernel_rfl) (Or.inl ⟨by rfl, ?_⟩) hHeld ?_
  · intro wS hSw
    clear hSw hHeld
    go_simp
  (try simp only [Act.put, List.setIfInBounds_toArray, List.set_cons_zero, List.set_cons_succ])
  refine take_G (i := 34) (d := 114) (v := .int .i64 q4.err) rfl rfl (by kernel_rfl) (by kernel_rfl) (by kernel_rfl) (by kernel_rfl) (by kernel_rfl) (Or.inl ⟨by rfl, ?_⟩) hHeld ?_
  · intro wS hSw
    clear hSw hHeld
    go_simp
  (try simp only [Act.put, List.setIfInBounds_toArray, List.set_cons_zero, List.set_cons_succ])
  refine take_G (i := 35) (d := 115) (v := .int .i64 q4.err) rfl rfl (by kernel_rfl) (by kernel_rfl) (by kernel_rfl) (by kernel_rfl) (by kernel_rfl) (Or.inl ⟨by rfl, ?_⟩) hHeld ?_
  · intro wS hSw
    clear hSw hHeld
    go_simp
  (try simp only [Act.put, List.setIfInBounds_toArray, List.set_cons_zero, List.set_cons_succ])
  refine take_G (i := 36) (d := 116) (v := .bool true) rfl rfl (by kernel_rfl) (by kernel_rfl) (by kernel_rfl) (by kernel_rfl) (by kernel_rfl) (Or.inl ⟨by rfl, ?_⟩) hHeld ?_
  · intro wS hSw
    clear hSw hHeld
    go_simp
  (try simp only [Act.put, List.setIfInBounds_toArray, List.set_cons_zero, List.set_cons_succ])
  refine take_G (i := 37) (d := 117) (v := .bool true) rfl rfl (by kernel_rfl) (by kernel_rfl) (by kernel_rfl) (by kernel_rfl) (by kernel_rfl) (Or.inl ⟨by rfl, ?_⟩) hHeld ?_
  · intro wS hSw
    clear hSw hHeld
    go_simp
  (try simp only [Act.put, List.setIfInBounds_toArray, List.set_cons_zero, List.set_cons_succ])
  refine take_G (i := 38) (d := 118) (v := .bool true) rfl rfl (by kernel_rfl) (by kernel_rfl) (by kernel_rfl) (by kernel_rfl) (by kernel_rfl) (Or.inl ⟨by rfl, ?_⟩) hHeld ?_
  · intro wS hSw
    clear hSw hHeld
    go_simp
  (try simp only [Act.put, List.setIfInBounds_toArray, List.set_cons_zero, List.set_cons_succ])
  refine take_G (i := 39) (d := 119) (v := .agg #[.int .i64 R1, .int .i64 C1, .slice aa l1 pa]) rfl rfl (by kernel_rfl) (by kernel_rfl) (by kernel_rfl) (by kernel_rfl) (by kernel_rfl) (Or.inl ⟨by rfl, ?_⟩) hHeld ?_
  · intro wS hSw
    obtain ⟨k00, k01, k02⟩ := hSw.cellsD (b := A1) (x := .int .i64 R1) (y := .int .i64 C1) (z := .slice aa l1 pa) (by simp)
    clear hSw hHeld
    go_simp
  (try simp only [Act.put, List.setIfInBounds_toArray, List.set_cons_zero, List.set_cons_succ])
  refine take_G (i := 41) (d := 121) (v := .agg #[.int .i64 R1, .int .i64 C1, .slice a1 l1 p1]) rfl rfl (by kernel_rfl) (by kernel_rfl) (by kernel_rfl) (by kernel_rfl) (by kernel_rfl) (Or.inl ⟨by rfl, ?_⟩) hHeld ?_
  · intro wS hSw
    obtain ⟨k00, k01, k02⟩ := hSw.cellsD (b := w.heap.size) (x := .int .i64 R1) (y := .int .i64 C1) (z := .slice a1 l1 p1) (by simp)
    clear hSw hHeld
    go_simp
  (try simp only [Act.put, List.setIfInBounds_toArray, List.set_cons_zero, List.set_cons_succ])
  refine step_G (i := 40) (by kernel_rfl) (fun K hK => ?_)
  refine wpOp_want rfl (by rfl) ?_
  unfold Oper.wp
  go_simp
  refine (matCheck R1 C1 aa l1 pa _).mono ?_
  rintro e x5 ⟨rfl, gg⟩
  have kk := Kp.of gg
  have M5 := hide ((unhide M4).kp kk)
  have P3' := hide ((unhide P3).kp kk)
  clear P3
  have P3 := hide (unhide P3')
  clear P3'
  have P5' := hide ((unhide P5).kp kk)
  clear P5
  have P5 := hide (unhide P5')
  clear P5'
  have P7' := hide ((unhide P7).kp kk)
  clear P7
  have P7 := hide (unhide P7')
  clear P7'
  clear hHeld M4 kk
  refine hK _ _ (fun _ => unhide M5) ?_
  clear hK K
  have hHeld := unhide M5
  (try simp only [Act.put, List.setIfInBounds_toArray, List.set_cons_zero, List.set_cons_succ])
  refine step_G (i := 42) (by kernel_rfl) (fun K hK => ?_)
  refine wpOp_want rfl (by rfl) ?_
  unfold Oper.wp
  go_simp
  refine (refMCheck R1 C1 a1 l1 p1 _).mono ?_
  rintro e x6 ⟨rfl, gg⟩
  have kk := Kp.of gg
  have M6 := hide ((unhide M5).kp kk)
  have P3' := hide ((unhide P3).kp kk)
  clear P3
  have P3 := hide (unhide P3')
  clear P3'
  have P5' := hide ((unhide P5).kp kk)
  clear P5
  have P5 := hide (unhide P5')
  clear P5'
  have P7' := hide ((unhide P7).kp kk)
  clear P7
  have P7 := hide (unhide P7')
  clear P7'
  clear hHeld M5 kk
  refine hK _ _ (fun _ => unhide M6) ?_
  clear hK K
  have hHeld := unhide M6
  (try simp only [Act.put, List.setIfInBounds_toArray, List.set_cons_zero, List.set_cons_succ])
  refine take_G (i := 43) (d := 123) (v := .bool true) rfl rfl (by kernel_rfl) (by kernel_rfl) (by kernel_rfl) (by kernel_rfl) (by kernel_rfl) (Or.inl ⟨by rfl, ?_⟩) hHeld ?_
  · intro wS hSw
    clear hSw hHeld
    go_simp
  (try simp only [Act.put, List.setIfInBounds_toArray, List.set_cons_zero, List.set_cons_succ])
  refine take_G (i := 44) (d := 124) (v := .bool true) rfl rfl (by kernel_rfl) (by kernel_rfl) (by kernel_rfl) (by kernel_rfl) (by kernel_rfl) (Or.inl ⟨by rfl, ?_⟩) hHeld ?_
  · intro wS hSw
    clear hSw hHeld
    go_simp
  (try simp only [Act.put, List.setIfInBounds_toArray, List.set_cons_zero, List.set_cons_succ])
  refine step_G (i := 45) (by kernel_rfl) (fun K hK => ?_)
  refine wpOp_of rfl rfl ?_
  unfold Oper.wp
  go_simp
  refine hK _ _ (fun h => absurd rfl h) ?_
  clear hK K
  refine done_G (by kernel_rfl) ?_
  (try simp only [Act.put, List.setIfInBounds_toArray, List.set_cons_zero, List.set_cons_succ])
  clear hHeld
  refine noPanic_normalE ?_

  have S0 : Hid (LS w [] [(v3.heap.size, #[.int .i64 q2.r, .int .i64 q2.c, .slice s3 q2.len t3]), (v5.heap.size, #[.int .i64 q3.r, .int .i64 q3.c, .slice s5 q3.len t5]), (A1, #[.int .i64 R1, .int .i64 C1, .slice aa l1 pa]), (w.heap.size, #[.int .i64 R1, .int .i64 C1, .slice a1 l1 p1])] [(xa, xl, X), (aa, l1, A), (xo, xl, X), (a1, l1, A)] _) := (unhide M6).subD (by simp) (by intro x hx; simp at hx ⊢; rcases hx with rfl | rfl | rfl | rfl <;> simp) (by intro x hx; simp at hx ⊢; rcases hx with rfl | rfl | rfl | rfl <;> simp)
  have X3 : Hid (q2.len = 0 ∨ OffR b3 [(v3.heap.size, #[.int .i64 q2.r, .int .i64 q2.c, .slice s3 q2.len t3]), (v5.heap.size, #[.int .i64 q3.r, .int .i64 q3.c, .slice s5 q3.len t5]), (A1, #[.int .i64 R1, .int .i64 C1, .slice aa l1 pa]), (w.heap.size, #[.int .i64 R1, .int .i64 C1, .slice a1 l1 p1])] [(xa, xl, X), (aa, l1, A), (xo, xl, X), (a1, l1, A)]) := by
    obtain ⟨_, f, g⟩ := unhide G3
    have o5 := unhide O5
    have o7 := unhide O7
    refine g.imp id (fun g => ⟨fun x hx => ?_, fun r hr => f.2 r (by simp at hr ⊢; rcases hr with rfl | rfl | rfl | rfl <;> simp)⟩)
    simp at hx
    rcases hx with rfl | rfl | rfl | rfl
    · show v3.heap.size ≠ b3; omega
    · show v5.heap.size ≠ b3; omega
    all_goals exact f.1 _ (by simp)
  have X5 : Hid (q3.len = 0 ∨ OffR b5 [(v3.heap.size, #[.int .i64 q2.r, .int .i64 q2.c, .slice s3 q2.len t3]), (v5.heap.size, #[.int .i64 q3.r, .int .i64 q3.c, .slice s5 q3.len t5]), (A1, #[.int .i64 R1, .int .i64 C1, .slice aa l1 pa]), (w.heap.size, #[.int .i64 R1, .int .i64 C1, .slice a1 l1 p1])] [(xa, xl, X), (aa, l1, A), (xo, xl, X), (a1, l1, A)]) := by
    obtain ⟨_, f, g⟩ := unhide G5
    have o5 := unhide O5
    have o7 := unhide O7
    refine g.imp id (fun g => ⟨fun x hx => ?_, fun r hr => f.2 r (by simp at hr ⊢; rcases hr with rfl | rfl | rfl | rfl <;> simp)⟩)
    simp at hx
    rcases hx with rfl | rfl | rfl | rfl
    · show v3.heap.size ≠ b5; omega
    · show v5.heap.size ≠ b5; omega
    all_goals exact f.1 _ (by simp)
  have X7 : Hid (q4.len = 0 ∨ OffR b7 [(v3.heap.size, #[.int .i64 q2.r, .int .i64 q2.c, .slice s3 q2.len t3]), (v5.heap.size, #[.int .i64 q3.r, .int .i64 q3.c, .slice s5 q3.len t5]), (A1, #[.int .i64 R1, .int .i64 C1, .slice aa l1 pa]), (w.heap.size, #[.int .i64 R1, .int .i64 C1, .slice a1 l1 p1])] [(xa, xl, X), (aa, l1, A), (xo, xl, X), (a1, l1, A)]) := by
    obtain ⟨_, f, g⟩ := unhide G7
    have o5 := unhide O5
    have o7 := unhide O7
    refine g.imp id (fun g => ⟨fun x hx => ?_, fun r hr => f.2 r (by simp at hr ⊢; rcases hr with rfl | rfl | rfl | rfl <;> simp)⟩)
    simp at hx
    rcases hx with rfl | rfl | rfl | rfl
    · show v3.heap.size ≠ b7; omega
    · show v5.heap.size ≠ b7; omega
    all_goals exact f.1 _ (by simp)
  have D35 : Hid (q2.len = 0 ∨ b5 ≠ b3) := by
    obtain ⟨_, _, g⟩ := unhide G3
    have o5 := unhide O5
    have o7 := unhide O7
    exact g.imp id (fun g => by omega)
  have D37 : Hid (q2.len = 0 ∨ b7 ≠ b3) := by
    obtain ⟨_, _, g⟩ := unhide G3
    have o5 := unhide O5
    have o7 := unhide O7
    exact g.imp id (fun g => by omega)
  have D57 : Hid (q3.len = 0 ∨ b7 ≠ b5) := by
    obtain ⟨_, _, g⟩ := unhide G5
    have o5 := unhide O5
    have o7 := unhide O7
    exact g.imp id (fun g => by omega)
  have HW := hide (And.intro (unhide G3).1 (And.intro (unhide G5).1 (unhide G7).1))
  clear M6 G3 G5 G7 O5 O7
  obtain ⟨k00, k01, k02⟩ := (unhide S0).cellsD (b := v3.heap.size) (x := .int .i64 q2.r) (y := .int .i64 q2.c) (z := .slice s3 q2.len t3) (by simp)
  go_wp2_with fail
  refine (kitOverL (b := b3) (Z := q2.Z) (by have := unhide Q2; omega) (unhide S0) (unhide P3) (by have := unhide HW; omega) (unhide X3)).mono ?_
  rintro e y3 ⟨rfl, hl, hk⟩
  have S1 := hide hl
  have P5' : Hid (OwG s5 q3.len q3.Z b5 y3) := (unhide P5).imp id (fun q => ⟨q.1, let ⟨cur, c1, c2⟩ := q.2; ⟨cur, hk b5 _ _ (unhide D35) c1, c2⟩⟩)
  clear P5
  have P5 := hide (unhide P5')
  clear P5'
  have P7' : Hid (OwG s7 q4.len q4.Z b7 y3) := (unhide P7).imp id (fun q => ⟨q.1, let ⟨cur, c1, c2⟩ := q.2; ⟨cur, hk b7 _ _ (unhide D37) c1, c2⟩⟩)
  clear P7
  have P7 := hide (unhide P7')
  clear P7'
  clear hl hk S0 P3 X3 k00 k01 k02
  obtain ⟨k00, k01, k02⟩ := (unhide S1).cellsD (b := v5.heap.size) (x := .int .i64 q3.r) (y := .int .i64 q3.c) (z := .slice s5 q3.len t5) (by simp)
  go_wp2_with fail
  refine (kitOverL (b := b5) (Z := q3.Z) (by have := unhide Q3; omega) (unhide S1) (unhide P5) (by have := unhide HW; omega) (unhide X5)).mono ?_
  rintro e y5 ⟨rfl, hl, hk⟩
  have S2 := hide hl
  have P7' : Hid (OwG s7 q4.len q4.Z b7 y5) := (unhide P7).imp id (fun q => ⟨q.1, let ⟨cur, c1, c2⟩ := q.2; ⟨cur, hk b7 _ _ (unhide D57) c1, c2⟩⟩)
  clear P7
  have P7 := hide (unhide P7')
  clear P7'
  clear hl hk S1 P5 X5 k00 k01 k02
  go_wp2_with fail
  refine (kitOverL (b := b7) (Z := q4.Z) (by have := unhide Q4; omega) (unhide S2) (unhide P7) (by have := unhide HW; omega) (unhide X7)).mono ?_
  rintro e y7 ⟨rfl, hl, hk⟩
  have S3 := hide hl
  clear hl hk S2 P7 X7
  obtain ⟨k00, k01, k02⟩ := (unhide S3).cellsD (b := A1) (x := .int .i64 R1) (y := .int .i64 C1) (z := .slice aa l1 pa) (by simp)
  obtain ⟨k10, k11, k12⟩ := (unhide S3).cellsD (b := w.heap.size) (x := .int .i64 R1) (y := .int .i64 C1) (z := .slice a1 l1 p1) (by simp)
  go_wp2_with fail
  refine (kitSameM R1 C1 aa a1 l1 pa p1 A (by have := unhide HC; omega) _ ((unhide S3).at (ao := aa) (len := l1) (Z := A) (by simp)).1 ((unhide S3).at (ao := a1) (len := l1) (Z := A) (by simp)).1).mono ?_
  rintro e z1 ⟨rfl, kk⟩
  have S4 := hide ((unhide S3).kp kk)
  clear kk S3 k00 k01 k02 k10 k11 k12
  go_wp2_with fail
  refine (kitSameQ xa xo xl pc xc X (by have := unhide HC; omega) _ ((unhide S4).at (ao := xa) (len := xl) (Z := X) (by simp)).1 ((unhide S4).at (ao := xo) (len := xl) (Z := X) (by simp)).1).mono ?_
  rintro e z2 ⟨rfl, nz, rfl⟩
  have S5 := hide ((unhide S4).kp (w' := World.drewN _ nz) (Kp.refl _))
  clear S4
  go_wp2_with fail
  refine (lawMatAwake _).mono ?_
  rintro e z3 ⟨rfl, kk⟩
  have S6 := hide ((unhide S5).kp kk)
  clear kk S5
  go_wp2
  go_ret
  exact ⟨rfl, (unhide S6).1⟩


theorem lawMatShapes (R1 C1 n : Int) (a1 xo : Option Addr) (l1 p1 xl xc : Nat) (A X : Nat → Int) (h1 : l1 ≤ p1) (z1 : a1 = none → l1 = 0 ∧ p1 = 0) (zx : xo = none → xl = 0 ∧ xc = 0) (w : World) (ra : Row w a1 l1 A) (rx : Row w xo xl X) : Calls Try.prog 3 #[.agg #[.int .i64 R1, .int .i64 C1, .slice a1 l1 p1], .slice xo xl xc, .int .i64 n] w fun e w' => e = .returned (.bool true) ∧ Kp w w' := by
  by_cases h : 160 < l1 ∨ 40 < xl
  · exact lawMatShapes_not R1 C1 n a1 xo l1 p1 xl xc A X h1 z1 zx w ra rx h
  · exact lawMatShapes_ok R1 C1 n a1 xo l1 p1 xl xc A X h1 z1 zx w ra rx (by omega)


end Go.Proofs.Ytcobicnpdmgnjaa

/- The statement MatShapes holds for every input: the law returns true, and its arguments read afterwards as before. No condition. -/
namespace Go.Proofs.Ytcobicnpdmgnjaa.matShapes
open Go.ChangeShapes Go.WideShapes Go.ChangeAt Go.RowKit Go.Joins Go.Proofs.Wd
set_option linter.unusedVariables false
set_option linter.unusedSimpArgs false

theorem own : ownKnob Try.prog.godebug = none := by kernel_rfl

set_option maxRecDepth 100000 in
theorem lifted (os : Os) (started : os.Started) (H : Type) (enc : TypeId × Value → H) :
    ReturnsInHanded {} Try.checked os 3 .any (Rows.matShapesSpec.pre6 enc Try.prog Try.f3 Rows.matShapesRow.domain false) (Rows.matShapesSpec.post enc Try.prog Try.f3 false true false false) := by
  refine returnsInHanded_of_change (C := Try.checked) own started (by kernel_rfl) Try.func3
    (ChangeSpec.witness6 (enc := enc) (C := Try.checked) false ⟨#[], #[.agg #[.int .i64 0, .int .i64 0, .slice none 0 0], .slice none 0 0, .int .i64 0], []⟩ 8 (by kernel_rfl) (by kernel_rfl) (by kernel_rfl) (by kernel_rfl)) ?_
  intro W base args ds gs before hval0 hW hcnd _
  have hval : ∀ (j : Nat) t v, Try.f3.params[j]? = some t → args[j]? = some v → Value.okWide Try.prog W .any base t v := hval0
  have hW' := hW
  obtain ⟨p, q, hA0, hV, rfl, hfz, hnd⟩ := hW
  have hA : DataW.TrodAll enc Try.prog W 0 (fun _ => true) true Try.f3.params.toList args.toList ds p := hA0
  rw [Try.params3] at hA hval
  obtain ⟨v0, vs0, d0, ds0, p0, q0, hargs, rfl, rfl, h0, r0⟩ := trodAll_cons hA
  obtain ⟨v1, vs1, d1, ds1, p1, q1, rfl, rfl, rfl, h1, r1⟩ := trodAll_cons r0
  obtain ⟨v2, vs2, d2, ds2, p2, q2, rfl, rfl, rfl, h2, r2⟩ := trodAll_cons r1
  obtain ⟨rfl, rfl, rfl⟩ := trodAll_nil r2
  obtain rfl : args = #[v0, v1, v2] := by cases args; simp_all
  obtain ⟨rfl, rfl⟩ := trodVars_none hV
  have hlt := hW'.lt
  have k0 := h0
  obtain ⟨fuel0, t0⟩ := h0
  obtain ⟨cs0, rfl, _⟩ := okWide_struct Try.underlying24 (hval 0 24 v0 rfl rfl)
  obtain ⟨R0, C0, ao0, ln0, lc0, Z0, e0, iR0, iC0, le0, lm0, row0, num0, nil0⟩ := open_mat t0
  obtain rfl : cs0 = #[.int .i64 R0, .int .i64 C0, .slice ao0 ln0 lc0] := Array.ext' (by simpa [Value.cells] using e0)
  have k1 := h1
  obtain ⟨fuel1, t1⟩ := h1
  obtain ⟨ao1, ln1, lc1, rfl⟩ := okWide_slice Try.underlying22 (hval 1 22 v1 rfl rfl)
  obtain ⟨ya1, yl1, yc1, Z1, e1, le1, lm1, row1, num1, nil1⟩ := open_row0 t1
  cases e1
  obtain ⟨a2, rfl, rfl, rfl, wa2⟩ := open_int Try.underlying3 (hval 2 3 v2 rfl rfl) h2
  clear hA0 hval0
  refine (lawMatShapes R0 C0 a2 ao0 ao1 ln0 lc0 ln1 lc1 Z0 Z1 le0 nil0 nil1 W row0 row1).mono fun e W' ⟨he, hg⟩ => ?_
  subst he
  exact ⟨_, rfl, post_of_kp (pa := p0 ++ (p1 ++ ([] ++ ([])))) (pv := []) hW' (fun _ => (trodAll_cons_mk (shut_bool Try.underlying4 _) trodAll_mk0)) (trodAll_cons_mk (WideElems.Trod_stays laid (by kernel_rfl) (of_decide_eq_true (by kernel_rfl)) k0 (fun x hx => hg.same (hlt x (by simp [hx]))) (fun x hx => by simpa using hlt x (by simp [hx]))) (trodAll_cons_mk (WideElems.Trod_stays laid (by kernel_rfl) (of_decide_eq_true (by kernel_rfl)) k1 (fun x hx => hg.same (hlt x (by simp [hx]))) (fun x hx => by simpa using hlt x (by simp [hx]))) (trodAll_cons_mk (shut_int Try.underlying3 wa2) trodAll_mk0))) rfl hg⟩

end Go.Proofs.Ytcobicnpdmgnjaa.matShapes
namespace Go.Proofs.Ytcobicnpdmgnjaa
theorem matShapes_holds : Rows.MatShapesSaid :=
  OpenClaim.holds_of_wide 3 Try.f3 rfl rfl rfl rfl rfl rfl rfl ⟨rfl, rfl, rfl, rfl, rfl⟩ rfl rfl rfl rfl rfl (by kernel_rfl) Try.func3 (by kernel_rfl)
    (of_decide_eq_true (by kernel_rfl)) (by unfold Func.isWrapper; first | (rw [if_pos (by decide +kernel)]; kernel_rfl) | (rw [if_neg (by decide +kernel)]; exact ⟨rfl, rfl⟩))
    (fun os started H enc _ => matShapes.lifted os started H enc)
#print axioms matShapes_holds
end Go.Proofs.Ytcobicnpdmgnjaa
