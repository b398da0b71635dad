/- MatAw MatRL MatTS MatS MatSu RegJ RegTwo RegG MatRa MatRb MatOs MatOv MatSs MatSumsLaw, one after another. -/
import Derived.Test.YtcobicnpdmgnjaaGreatMatO
import Derived.Test.YtcobicnpdmgnjaaGreatMatN
import Derived.Test.YtcobicnpdmgnjaaGreatRowL
import Derived.Test.YtcobicnpdmgnjaaGreatMatI
import Derived.Orders
import Derived.OrdersHeld
import Derived.Deep.RegionHeld3
import Derived.Test.YtcobicnpdmgnjaaGreatMatSumsDoc
import Derived.Test.YtcobicnpdmgnjaaGreatAppA
import Derived.Deep.RegionLaw
import Derived.Test.YtcobicnpdmgnjaaGreatRows
import Derived.ProofKit
import Derived.OpenShut
import Derived.Lib.SmallJoins
/- The laws' helper awake: some of the chapter's examples. -/
namespace Go.Proofs.YtcobicnpdmgnjaaGreat
open Go.RowKit Go.Shelf Go.Proofs.Wd
set_option linter.unusedVariables false
set_option linter.unusedSimpArgs false
set_option maxRecDepth 10000

/-- A list of whole numbers, as it is written, times One. -/
def oneL (l : List Int) : Nat → Int := fun i => ix l i * 4294967296
theorem lits_small {l : List Int} (h : ∀ x ∈ l, -1000000 ≤ x ∧ x ≤ 1000000) : ∀ i, i < l.length → -1000000 ≤ ix l i ∧ ix l i ≤ 1000000 := by
  intro i hi
  have : ix l i = l[i] := by simp [ix, hi]
  rw [this]
  exact h _ (List.getElem_mem _)
theorem oneL_I64 {l : List Int} (h : ∀ x ∈ l, -1000000 ≤ x ∧ x ≤ 1000000) : ∀ i, i < l.length → I64 (oneL l i) := by
  intro i hi
  have := lits_small h i hi
  unfold oneL I64
  omega
/-- A list that is written out, and the matrix of it. -/
theorem lawOfL (l : List Int) (n : Nat) (hl : l.length = n) (hn : n ≤ 1000000) (h : ∀ x ∈ l, -1000000 ≤ x ∧ x ≤ 1000000) (r c : Int) (b cap : Nat) (w : World) (hb : Blk b (l.map (Value.int .i64)).toArray 3 w) :
    Calls Tryz.prog 19 #[.int .i64 r, .int .i64 c, .slice (some ⟨b, 0, none⟩) n cap] w fun e w' => CopyM r c n (oneL l) w e w' := by
  subst hl
  exact lawOf r c _ _ cap (ix l) hn (lits_small h) w (row_lit hb)

theorem ok22 : okM 2 2 4 := ⟨⟨by omega, by omega⟩, ⟨by omega, by omega⟩, by decide⟩
theorem mul22 : ∀ i, i < 4 → mulZ (oneL [1, 2, 3, 4]) (oneL [0, 1, 1, 0]) 2 2 i = oneL [2, 1, 4, 3] i := by decide +kernel
theorem mul22c : (false || orC (mulG (oneL [1, 2, 3, 4]) (oneL [0, 1, 1, 0]) 2 2) 4) = false := by decide +kernel
theorem turn22 : ∀ i, i < 4 → turnZ (oneL [1, 2, 3, 4]) 2 2 i = oneL [1, 3, 2, 4] i := by decide +kernel

set_option maxRecDepth 20000 in
set_option maxHeartbeats 4000000 in
theorem lawMatAwake (w : World) : Calls Tryz.prog 7 #[] w fun e w' => e = .returned (.bool true) ∧ Kp w w' := by
  have N1 := hide (unitNew w)
  have hU := Nat.le_refl w.heap.size
  generalize e : w.heap.size = U at N1 hU
  replace hU : w.heap.size ≤ U := by omega
  have HE := hide hU
  clear e hU
  go_enter Tryz.func7, Tryz.ntmps7
  go_wp2_with fail
  refine (unhide N1).mono ?_
  rintro e w1 ⟨rfl, h1, g1⟩
  have S1 : Hid (UC U false 0 w1 ∧ LS w [U] [] [] w1) := ⟨h1, Kp.of g1, fun e he => (by simp at he; subst he; exact ⟨unhide HE, Blk.lt h1⟩), fun _ h => absurd h List.not_mem_nil, fun _ h => absurd h List.not_mem_nil⟩
  clear h1 g1 N1
  have b1 := Blk.new w1 #[.int .i64 1, .int .i64 2, .int .i64 3, .int .i64 4] 3
  have O1 := hide (lawOfL [1, 2, 3, 4] 4 rfl (by omega) (by simp) 2 2 w1.heap.size 4 _ b1)
  have K1 : Hid (Kp w1 (w1.alloc (.cells #[.int .i64 1, .int .i64 2, .int .i64 3, .int .i64 4] 3))) := (Kp.refl _).alloc _ _
  clear b1
  go_wp2_with fail
  generalize w1.alloc (.cells #[.int .i64 1, .int .i64 2, .int .i64 3, .int .i64 4] 3) = w2 at *
  refine (unhide O1).mono ?_
  intro e w3 hv
  have S3 : Hid (UC U false 0 w3) := Blk.kp (unhide S1).1 ((unhide K1).trans (let ⟨_, _, _, _, _, _, k⟩ := hv; k))
  obtain ⟨a1, p1, rfl, hp1, s3⟩ := ((unhide S1).2.kp (unhide K1)).copy hv
  have L3 := hide (And.intro hp1 s3)
  clear hv hp1 s3 O1 K1 S1
  have b1 := Blk.new w3 #[.int .i64 0, .int .i64 1, .int .i64 1, .int .i64 0] 3
  have O1 := hide (lawOfL [0, 1, 1, 0] 4 rfl (by omega) (by simp) 2 2 w3.heap.size 4 _ b1)
  have K1 : Hid (Kp w3 (w3.alloc (.cells #[.int .i64 0, .int .i64 1, .int .i64 1, .int .i64 0] 3))) := (Kp.refl _).alloc _ _
  clear b1
  go_wp2_with fail
  generalize w3.alloc (.cells #[.int .i64 0, .int .i64 1, .int .i64 1, .int .i64 0] 3) = w4 at *
  refine (unhide O1).mono ?_
  intro e w5 hv
  have S5 : Hid (UC U false 0 w5) := Blk.kp (unhide S3) ((unhide K1).trans (let ⟨_, _, _, _, _, _, k⟩ := hv; k))
  obtain ⟨a2, p2, rfl, hp2, s5⟩ := ((unhide L3).2.kp (unhide K1)).copy hv
  have L5 := hide (And.intro (unhide L3).1 (And.intro hp2 s5))
  clear hv hp2 s5 O1 K1 S3 L3
  have L6 := hide ((unhide L5).2.2.box2 #[.int .i64 2, .int .i64 2, .slice a1 4 p1] #[.int .i64 2, .int .i64 2, .slice a2 4 p2])
  have K6 : Hid (Kp w5 ((w5.alloc (.cells #[.int .i64 2, .int .i64 2, .slice a1 4 p1] 24)).alloc (.cells #[.int .i64 2, .int .i64 2, .slice a2 4 p2] 24))) := ((Kp.refl _).alloc _ _).alloc _ _
  go_wp2_with fail
  generalize (w5.alloc (.cells #[.int .i64 2, .int .i64 2, .slice a1 4 p1] 24)).alloc (.cells #[.int .i64 2, .int .i64 2, .slice a2 4 p2] 24) = w6 at *
  have U6 : Hid (UC U false 0 w6) := Blk.kp (unhide S5) (unhide K6)
  have r1 := (unhide L6).at (ao := a1) (len := 4) (Z := oneL [1, 2, 3, 4]) (by simp)
  have r2 := (unhide L6).at (ao := a2) (len := 4) (Z := oneL [0, 1, 1, 0]) (by simp)
  refine (mulAny U false 0 ⟨by omega, by omega⟩ 2 2 2 2 a1 a2 4 p1 4 p2 (oneL [1, 2, 3, 4]) (oneL [0, 1, 1, 0]) (unhide L5).1 (oneL_I64 (l := [1, 2, 3, 4]) (by simp)) (oneL_I64 (l := [0, 1, 1, 0]) (by simp)) w6 (unhide U6) r1.1 (r1.2 U (by simp)) r2.1 (r2.2 U (by simp)) _ (mulO_of ok22 ok22 rfl)).mono ?_
  intro e w7 hv
  have ls7 : LS w [U] _ _ w7 := (unhide L6).mk (by simp) (let ⟨_, _, _, _, _, _, _, x⟩ := hv; x.2)
  obtain ⟨ac, pc, B7, rfl, _, _, _, s7, u7⟩ := (unhide L6).told ls7 hv
  have s7' := s7.congr (Y := oneL [2, 1, 4, 3]) mul22
  have L7 := hide s7'
  have d0 : w7.cell? ⟨w5.heap.size, 0, none⟩ = some (.int .i64 2) := s7'.cell (b := w5.heap.size) (cs := #[.int .i64 2, .int .i64 2, .slice a1 4 p1]) (by simp) 0
  have d1 : w7.cell? ⟨w5.heap.size, 1, none⟩ = some (.int .i64 2) := s7'.cell (b := w5.heap.size) (cs := #[.int .i64 2, .int .i64 2, .slice a1 4 p1]) (by simp) 1
  have d2 : w7.cell? ⟨w5.heap.size, 2, none⟩ = some (.slice a1 4 p1) := s7'.cell (b := w5.heap.size) (cs := #[.int .i64 2, .int .i64 2, .slice a1 4 p1]) (by simp) 2
  have hlt := s7'.lt (b := w5.heap.size) (cs := #[.int .i64 2, .int .i64 2, .slice a1 4 p1]) (by simp)
  clear hv ls7 s7 s7' u7 r1 r2 U6 K6 S5
  have L8 := hide ((unhide L7).box #[.int .i64 2, .int .i64 2, .slice ac 4 pc])
  simp only [show Int.toNat 2 = 2 from rfl, show 2 * 2 = 4 from rfl]
  go_wp2_with fail
  generalize w7.alloc (.cells #[.int .i64 2, .int .i64 2, .slice ac 4 pc] 24) = w8 at *
  have r1 := (unhide L8).at (ao := a1) (len := 4) (Z := oneL [1, 2, 3, 4]) (by simp)
  refine (turnAny 2 2 a1 4 p1 (oneL [1, 2, 3, 4]) w8 r1.1 _ (turnO_of ok22)).mono ?_
  intro e w9 hv
  obtain ⟨ad, pd, B9, rfl, _, _, _, s9, _⟩ := (unhide L8).told ((unhide L8).kp (let ⟨_, _, _, _, _, _, _, x⟩ := hv; x)) hv
  have L9 := hide (s9.congr (Y := oneL [1, 3, 2, 4]) turn22)
  clear hv s9 r1 d0 d1 d2 hlt
  have L10 := hide ((unhide L9).box #[.int .i64 2, .int .i64 2, .slice ad 4 pd])
  simp only [show Int.toNat 2 = 2 from rfl, show 2 * 2 = 4 from rfl]
  go_wp2_with fail
  generalize w9.alloc (.cells #[.int .i64 2, .int .i64 2, .slice ad 4 pd] 24) = w10 at *
  have CW : Hid (∀ wx, Kp w10 wx → wx.cell? ⟨w7.heap.size, 0, none⟩ = some (.int .i64 2) ∧ wx.cell? ⟨w7.heap.size, 1, none⟩ = some (.int .i64 2) ∧ wx.cell? ⟨w7.heap.size, 2, none⟩ = some (.slice ac 4 pc) ∧ wx.cell? ⟨w9.heap.size, 0, none⟩ = some (.int .i64 2) ∧ wx.cell? ⟨w9.heap.size, 1, none⟩ = some (.int .i64 2) ∧ wx.cell? ⟨w9.heap.size, 2, none⟩ = some (.slice ad 4 pd)) := fun wx k => by
    have h := (unhide L10).kp k
    exact ⟨h.cell (b := w7.heap.size) (cs := #[.int .i64 2, .int .i64 2, .slice ac 4 pc]) (by simp) 0, h.cell (b := w7.heap.size) (cs := #[.int .i64 2, .int .i64 2, .slice ac 4 pc]) (by simp) 1, h.cell (b := w7.heap.size) (cs := #[.int .i64 2, .int .i64 2, .slice ac 4 pc]) (by simp) 2, h.cell (b := w9.heap.size) (cs := #[.int .i64 2, .int .i64 2, .slice ad 4 pd]) (by simp) 0, h.cell (b := w9.heap.size) (cs := #[.int .i64 2, .int .i64 2, .slice ad 4 pd]) (by simp) 1, h.cell (b := w9.heap.size) (cs := #[.int .i64 2, .int .i64 2, .slice ad 4 pd]) (by simp) 2⟩
  have Rc : Hid (∀ wx, Kp w10 wx → Row wx ac 4 (oneL [2, 1, 4, 3])) := fun wx k => (((unhide L10).kp k).at (ao := ac) (len := 4) (Z := oneL [2, 1, 4, 3]) (by simp)).1
  have Rd : Hid (∀ wx, Kp w10 wx → Row wx ad 4 (oneL [1, 3, 2, 4])) := fun wx k => (((unhide L10).kp k).at (ao := ad) (len := 4) (Z := oneL [1, 3, 2, 4]) (by simp)).1
  obtain ⟨x1, x2, x3, x4, x5, x6⟩ := unhide CW w10 (Kp.refl _)
  have hz1 : w7.heap.size < w10.heap.size := heap_gt x1
  have hz2 : w9.heap.size < w10.heap.size := heap_gt x4
  have O1 : Hid (∀ wx b, Blk b #[.int .i64 2, .int .i64 1, .int .i64 4, .int .i64 3] 3 wx → Calls Tryz.prog 19 #[.int .i64 2, .int .i64 2, .slice (some ⟨b, 0, none⟩) 4 4] wx fun e w' => CopyM 2 2 4 (oneL [2, 1, 4, 3]) wx e w') := fun wx b hb => lawOfL [2, 1, 4, 3] 4 rfl (by omega) (by simp) 2 2 b 4 wx hb
  have O2 : Hid (∀ wx b, Blk b #[.int .i64 1, .int .i64 3, .int .i64 2, .int .i64 4] 3 wx → Calls Tryz.prog 19 #[.int .i64 2, .int .i64 2, .slice (some ⟨b, 0, none⟩) 4 4] wx fun e w' => CopyM 2 2 4 (oneL [1, 3, 2, 4]) wx e w') := fun wx b hb => lawOfL [1, 3, 2, 4] 4 rfl (by omega) (by simp) 2 2 b 4 wx hb
  have KD : Hid (Kp w10 (w10.alloc (.cells #[.int .i64 2, .int .i64 1, .int .i64 4, .int .i64 3] 3)).drew) := (Kp.refl w10).alloc _ _
  have KW := hide (unhide L10).1
  clear L10 L9 L8 L7 L6 L5
  go_region_held3 (fun w' => w'.cell? ⟨w7.heap.size, 0, none⟩ = some (.int .i64 2) ∧ w'.cell? ⟨w7.heap.size, 1, none⟩ = some (.int .i64 2) ∧ w'.cell? ⟨w7.heap.size, 2, none⟩ = some (.slice ac 4 pc) ∧ w'.cell? ⟨w9.heap.size, 0, none⟩ = some (.int .i64 2) ∧ w'.cell? ⟨w9.heap.size, 1, none⟩ = some (.int .i64 2) ∧ w'.cell? ⟨w9.heap.size, 2, none⟩ = some (.slice ad 4 pd))
      (simp [go_sem, *])
      (first
        | (go_at_call 19; refine (unhide O1 _ w10.heap.size (show Blk w10.heap.size #[.int .i64 2, .int .i64 1, .int .i64 4, .int .i64 3] 3 (w10.alloc (.cells #[.int .i64 2, .int .i64 1, .int .i64 4, .int .i64 3] 3)).drew from Blk.new w10 _ _)).mono ?_; clear O1; rintro e w11 ⟨a3, p3, rfl, hp3, r3, _, k3⟩; have K11 : Hid (Kp w10 w11) := ((unhide KD).trans k3); have R3 := hide r3; obtain ⟨y1, y2, y3, y4, y5, y6⟩ := unhide CW w11 (unhide K11); have hz3 := heap_gt y1; have hz4 := heap_gt y4; clear r3 k3 KD hp3)
        | (go_at_call 15; refine (kitSameM 2 2 ac a3 4 pc p3 (oneL [2, 1, 4, 3]) (by omega) _ (unhide Rc _ (unhide K11)) (unhide R3)).mono ?_; clear R3 Rc; rintro e w12 ⟨rfl, k12⟩; have K12 : Hid (Kp w10 w12) := ((unhide K11).trans k12); obtain ⟨z1, z2, z3, z4, z5, z6⟩ := unhide CW w12 (unhide K12); have hz5 := heap_gt z1; have hz6 := heap_gt z4; have KE : Hid (Kp w10 (w12.alloc (.cells #[.int .i64 1, .int .i64 3, .int .i64 2, .int .i64 4] 3))) := ((unhide K12).alloc _ _); clear k12)
        | (go_at_call 19; refine (unhide O2 _ _ (Blk.new _ _ _)).mono ?_; clear O2; rintro e w13 ⟨a4, p4, rfl, hp4, r4, _, k4⟩; have K13 : Hid (Kp w10 w13) := ((unhide KE).trans k4); have R4 := hide r4; obtain ⟨v1, v2, v3, v4, v5, v6⟩ := unhide CW w13 (unhide K13); clear r4 k4 hp4 KE)
        | (go_at_call 15; refine (kitSameM 2 2 ad a4 4 pd p4 (oneL [1, 3, 2, 4]) (by omega) _ (unhide Rd _ (unhide K13)) (unhide R4)).mono ?_; clear R4 Rd; rintro e w14 ⟨rfl, k14⟩; have K14 : Hid (Kp w10 w14) := ((unhide K13).trans k14); obtain ⟨t1, t2, t3, t4, t5, t6⟩ := unhide CW w14 (unhide K14); clear k14))
  go_wp2
  go_ret
  exact ⟨rfl, (unhide KW).trans (unhide K14)⟩

end Go.Proofs.YtcobicnpdmgnjaaGreat

/- How matrices that are handed in lie in memory. -/
namespace Go.Proofs.YtcobicnpdmgnjaaGreat
open Go.ChangeShapes Go.WideShapes Go.ChangeAt Go.RowKit Go.Joins Go.Proofs.Wd Go.Deep
set_option linter.unusedVariables false
set_option linter.unusedSimpArgs false
set_option maxRecDepth 10000

set_option maxRecDepth 20000 in
theorem open_mat {H : Type} {enc : TypeId × Value → H} {W : World} {n : Nat} {cs : List Value} {y : DataW H × List MemPlace} (h : DataW.trod enc Tryz.prog W 0 (fun _ => true) true n 24 cs = some y) :
    ∃ (R C : Int) (ao : Option Addr) (ln lc : Nat) (Z : Nat → Int), cs = [.int .i64 R, .int .i64 C, .slice ao ln lc] ∧ I64 R ∧ I64 C ∧ ln ≤ lc ∧ lc ≤ 9223372036854775807 ∧ Row W ao ln Z ∧ (∀ i, i < ln → I64 (Z i)) ∧ (ao = none → ln = 0 ∧ lc = 0) := by
  obtain ⟨xs, m, _, _, hlen, hxl, hf⟩ := DataW.trod_struct Tryz.underlying24 h
  rw [show Tryz.prog.cellsOf 24 = 3 by kernel_rfl] at hlen
  match cs, hlen with
  | [v0, v1, v2], _ =>
  match xs, hxl with
  | [x0, x1, x2], _ =>
  have f0 : DataW.trod enc Tryz.prog W 0 (fun _ => true) true m 3 (([v0, v1, v2].drop 0).take (Tryz.prog.cellsOf 3)) = some x0 := hf 0 _ rfl
  rw [cellsInt] at f0
  have f1 : DataW.trod enc Tryz.prog W 0 (fun _ => true) true m 3 (([v0, v1, v2].drop 1).take (Tryz.prog.cellsOf 3)) = some x1 := hf 1 _ rfl
  rw [cellsInt] at f1
  have f2 : DataW.trod enc Tryz.prog W 0 (fun _ => true) true m 22 (([v0, v1, v2].drop 2).take (Tryz.prog.cellsOf 22)) = some x2 := hf 2 _ rfl
  rw [cellsInts] at f2
  obtain ⟨R, e0, _, w0⟩ := DataW.trod_int Tryz.underlying3 f0
  obtain ⟨C, e1, _, w1⟩ := DataW.trod_int Tryz.underlying3 f1
  obtain ⟨lo, ln, lc, lz, rfl, l1, l2, l3, l4, l5⟩ := open_row0 f2
  simp at e0 e1
  subst e0 e1
  exact ⟨R, C, lo, ln, lc, lz, rfl, i64_wf w0, i64_wf w1, l1, l2, l3, l4, l5⟩

end Go.Proofs.YtcobicnpdmgnjaaGreat

/- Laws with two units under way. -/
namespace Go.Proofs.YtcobicnpdmgnjaaGreat
open Go.RowKit Go.Shelf Go.Proofs.Wd
set_option linter.unusedVariables false
set_option linter.unusedSimpArgs false
set_option maxRecDepth 10000

def TS (w : World) (U V : Nat) (cu : Array Value) (tu : TypeId) (cv : Array Value) (tv : TypeId) (bx : List (Nat × Array Value)) (rows : List (Option Addr × Nat × (Nat → Int))) (wx : World) : Prop :=
  Blk U cu tu wx ∧ Blk V cv tv wx ∧ U ≠ V ∧ LS w [U, V] bx rows wx
theorem LS.unit {w : World} {E : List Nat} {bx : List (Nat × Array Value)} {rows : List (Option Addr × Nat × (Nat → Int))} {wx w1 : World} {cs : Array Value} {T : TypeId} (h : LS w E bx rows wx) (g : Grown wx w1) (hu : Blk wx.heap.size cs T w1) : LS w (wx.heap.size :: E) bx rows w1 := by
  have k := h.kp (Kp.of g)
  refine ⟨k.1, fun e he => ?_, fun b hb => ⟨(k.2.2.1 b hb).1, fun he => ?_⟩, fun r hr => ⟨(k.2.2.2 r hr).1, fun e he => ?_⟩⟩
  · rcases List.mem_cons.1 he with rfl | he
    · exact ⟨h.1.2.2.2, Blk.lt hu⟩
    · exact k.2.1 e he
  · rcases List.mem_cons.1 he with e | he
    · have := Blk.lt (h.2.2.1 b hb).1; omega
    · exact (k.2.2.1 b hb).2 he
  · rcases List.mem_cons.1 he with rfl | he
    · exact (h.2.2.2 r hr).1.off (Nat.le_refl _)
    · exact (k.2.2.2 r hr).2 e he
section
variable {w : World} {U V : Nat} {cu cv : Array Value} {tu tv : TypeId} {bx : List (Nat × Array Value)} {rows : List (Option Addr × Nat × (Nat → Int))} {wx w' : World}
theorem TS.kp (h : TS w U V cu tu cv tv bx rows wx) (k : Kp wx w') : TS w U V cu tu cv tv bx rows w' := ⟨Blk.kp h.1 k, Blk.kp h.2.1 k, h.2.2.1, h.2.2.2.kp k⟩
theorem TS.box (h : TS w U V cu tu cv tv bx rows wx) (cs : Array Value) : TS w U V cu tu cv tv ((wx.heap.size, cs) :: bx) rows (wx.alloc (.cells cs 24)) :=
  ⟨Blk.grown h.1 ((Grown.refl _).alloc _ _), Blk.grown h.2.1 ((Grown.refl _).alloc _ _), h.2.2.1, h.2.2.2.box cs⟩
theorem TS.mkU {cu' : Array Value} (h : TS w U V cu tu cv tv bx rows wx) (m : Mk U wx w') (u : Blk U cu' tu w') : TS w U V cu' tu cv tv bx rows w' := ⟨u, Blk.mk h.2.1 m (Ne.symm h.2.2.1), h.2.2.1, h.2.2.2.mk (by simp) m⟩
theorem TS.mkV {cv' : Array Value} (h : TS w U V cu tu cv tv bx rows wx) (m : Mk V wx w') (u : Blk V cv' tv w') : TS w U V cu tu cv' tv bx rows w' := ⟨Blk.mk h.1 m h.2.2.1, u, h.2.2.1, h.2.2.2.mk (by simp) m⟩
theorem TS.toldU {cu' : Array Value} {r c err : Int} {len : Nat} {Z : Nat → Int} {e : Ending} (h : TS w U V cu tu cv tv bx rows wx) (m : MatP r c len Z err (fun w' => Blk U cu' tu w' ∧ Mk U wx w') wx e w') :
    ∃ ao cap B, e = .returned (.tuple #[.agg #[.int .i64 r, .int .i64 c, .slice ao len cap], .int .i64 err]) ∧ len ≤ cap ∧ (len = 0 ∨ (ao = some ⟨B, 0, none⟩ ∧ Blk B (ints len Z) 3 w')) ∧ wx.heap.size ≤ B ∧ TS w U V cu' tu cv tv bx ((ao, len, Z) :: rows) w' := by
  have hx : Blk U cu' tu w' ∧ Mk U wx w' := let ⟨_, _, _, _, _, _, _, x⟩ := m; x
  have t := h.mkU hx.2 hx.1
  obtain ⟨ao, cap, B, h1, h2, h3, h4, h5, _⟩ := h.2.2.2.told t.2.2.2 m
  exact ⟨ao, cap, B, h1, h2, h3, h4, t.1, t.2.1, t.2.2.1, h5⟩
theorem TS.toldV {cv' : Array Value} {r c err : Int} {len : Nat} {Z : Nat → Int} {e : Ending} (h : TS w U V cu tu cv tv bx rows wx) (m : MatP r c len Z err (fun w' => Blk V cv' tv w' ∧ Mk V wx w') wx e w') :
    ∃ ao cap B, e = .returned (.tuple #[.agg #[.int .i64 r, .int .i64 c, .slice ao len cap], .int .i64 err]) ∧ len ≤ cap ∧ (len = 0 ∨ (ao = some ⟨B, 0, none⟩ ∧ Blk B (ints len Z) 3 w')) ∧ wx.heap.size ≤ B ∧ TS w U V cu tu cv' tv bx ((ao, len, Z) :: rows) w' := by
  have hx : Blk V cv' tv w' ∧ Mk V wx w' := let ⟨_, _, _, _, _, _, _, x⟩ := m; x
  have t := h.mkV hx.2 hx.1
  obtain ⟨ao, cap, B, h1, h2, h3, h4, h5, _⟩ := h.2.2.2.told t.2.2.2 m
  exact ⟨ao, cap, B, h1, h2, h3, h4, t.1, t.2.1, t.2.2.1, h5⟩
theorem TS.toldK {r c err : Int} {len : Nat} {Z : Nat → Int} {e : Ending} (h : TS w U V cu tu cv tv bx rows wx) (m : MatP r c len Z err (Kp wx) wx e w') :
    ∃ ao cap B, e = .returned (.tuple #[.agg #[.int .i64 r, .int .i64 c, .slice ao len cap], .int .i64 err]) ∧ len ≤ cap ∧ (len = 0 ∨ (ao = some ⟨B, 0, none⟩ ∧ Blk B (ints len Z) 3 w')) ∧ wx.heap.size ≤ B ∧ TS w U V cu tu cv tv bx ((ao, len, Z) :: rows) w' := by
  have hx : Kp wx w' := let ⟨_, _, _, _, _, _, _, x⟩ := m; x
  have t := h.kp hx
  obtain ⟨ao, cap, B, h1, h2, h3, h4, h5, _⟩ := h.2.2.2.told t.2.2.2 m
  exact ⟨ao, cap, B, h1, h2, h3, h4, t.1, t.2.1, t.2.2.1, h5⟩
theorem TS.congr {ao : Option Addr} {len : Nat} {Z Y : Nat → Int} (h : TS w U V cu tu cv tv bx ((ao, len, Z) :: rows) wx) (hz : ∀ i, i < len → Z i = Y i) : TS w U V cu tu cv tv bx ((ao, len, Y) :: rows) wx := ⟨h.1, h.2.1, h.2.2.1, h.2.2.2.congr hz⟩
/-- The three cells of a matrix. -/
theorem TS.cells (h : TS w U V cu tu cv tv bx rows wx) {b : Nat} {x y z : Value} (hb : (b, #[x, y, z]) ∈ bx) : wx.cell? ⟨b, 0, none⟩ = some x ∧ wx.cell? ⟨b, 1, none⟩ = some y ∧ wx.cell? ⟨b, 2, none⟩ = some z := ⟨h.2.2.2.cell hb 0, h.2.2.2.cell hb 1, h.2.2.2.cell hb 2⟩
theorem TS.lt (h : TS w U V cu tu cv tv bx rows wx) {b : Nat} {cs : Array Value} (hb : (b, cs) ∈ bx) : b < wx.heap.size := h.2.2.2.lt hb
theorem TS.rowU (h : TS w U V cu tu cv tv bx rows wx) {ao : Option Addr} {len : Nat} {Z : Nat → Int} (hr : (ao, len, Z) ∈ rows) : Row wx ao len Z ∧ Off U len ao ∧ Off V len ao :=
  ⟨(h.2.2.2.at hr).1, (h.2.2.2.at hr).2 U (by simp), (h.2.2.2.at hr).2 V (by simp)⟩
end

end Go.Proofs.YtcobicnpdmgnjaaGreat

/- Package mat: the funcs that Scale and reckon hand on. -/
namespace Go.Proofs.YtcobicnpdmgnjaaGreat
open Go.RowKit Go.Shelf Go.Proofs.Wd
set_option linter.unusedVariables false
set_option linter.unusedSimpArgs false
set_option maxRecDepth 10000

theorem pair_rowM (w : World) (x y : Int) : Row (w.alloc (.cells #[.int .i64 x, .int .i64 y] 3)) (some ⟨w.heap.size, 0, none⟩) 2 (pairZ x y) := by
  refine Or.inr ⟨_, 0, rfl, fun i hi => ?_⟩
  rw [Nat.zero_add, Blk.cell (Blk.new w _ _)]
  match i, hi with
  | 0, _ => rfl
  | 1, _ => rfl
theorem addTwoM (U : Nat) (a b : Int) (c : Bool) (n : Int) (bo cap : Nat) (w : World) (ha : I64 a) (hb : I64 b) (hn : 0 ≤ n ∧ n < 2305843009213693952) (h : UC U c n w) (hr : Row w (some ⟨bo, 0, none⟩) 2 (pairZ a b)) (ho : bo ≠ U) :
    Calls Tryz.prog 24 #[.pointer (some ⟨U, 0, none⟩), .slice (some ⟨bo, 0, none⟩) 2 cap] w fun e w' => e = .returned (.int .i64 (s2N a b)) ∧ UC U (c || s2C a b) (n + 2) w' ∧ Mod U w w' := by
  have := unitAdd U c n (some ⟨bo, 0, none⟩) 2 cap (pairZ a b) hn (by omega) (pairZ_I64 ha hb) w h hr (off_blk ho)
  rw [s2N_th, s2C_th] at this
  exact this
theorem mulTwoM (U : Nat) (a b : Int) (c : Bool) (n : Int) (bo cap : Nat) (w : World) (ha : I64 a) (hb : I64 b) (hn : 0 ≤ n ∧ n < 2305843009213693952) (h : UC U c n w) (hr : Row w (some ⟨bo, 0, none⟩) 2 (pairZ a b)) (ho : bo ≠ U) :
    Calls Tryz.prog 33 #[.pointer (some ⟨U, 0, none⟩), .slice (some ⟨bo, 0, none⟩) 2 cap] w fun e w' => e = .returned (.int .i64 (m2N a b)) ∧ UC U (c || m2C a b) (n + 2) w' ∧ Mod U w w' := by
  have := unitMul U c n (some ⟨bo, 0, none⟩) 2 cap (pairZ a b) hn (by omega) (pairZ_I64 ha hb) w h hr (off_blk ho)
  rw [m2N_th, m2C_th] at this
  exact this
/-- The k-th of row i: new memory alone. -/
theorem matAtG (r c i k b o cap : Nat) (Z : Nat → Int) (hr : 1 ≤ r ∧ r ≤ 12) (hc : 1 ≤ c ∧ c ≤ 12) (hi : i < r) (hk : k < c) (w : World) (hz : w.cell? ⟨b, o + (i * c + k), none⟩ = some (.int .i64 (Z (i * c + k)))) :
    Calls Tryz.prog 34 #[.agg #[.int .i64 r, .int .i64 c, .slice (some ⟨b, o, none⟩) (r * c) cap], .int .i64 i, .int .i64 k] w fun e w' => e = .returned (.int .i64 (Z (i * c + k))) ∧ Grown w w' :=
  (matAt r c i k b o cap Z hr hc hi hk w hz).mono fun e w' h => ⟨h.1, by rw [h.2]; exact (Grown.refl _).alloc _ _⟩


set_option maxRecDepth 20000 in
set_option maxHeartbeats 4000000 in
theorem scale1 (U : Nat) (cc : Bool) (nn : Int) (hn : 0 ≤ nn ∧ nn < 2305843009213693952) (r c i k b o cap Bu Ba Bs : Nat) (s : Int) (A : Nat → Int) (hr : 1 ≤ r ∧ r ≤ 12) (hc : 1 ≤ c ∧ c ≤ 12) (hi : i < r) (hk : k < c) (hs : I64 s) (hA : ∀ j, j < r * c → I64 (A j)) (w : World) (h : UC U cc nn w)
    (hBu : Blk Bu #[.pointer (some ⟨U, 0, none⟩)] 25 w) (hBa : Blk Ba #[.int .i64 r, .int .i64 c, .slice (some ⟨b, o, none⟩) (r * c) cap] 24 w) (hBs : Blk Bs #[.int .i64 s] 3 w) (za : ∀ j, j < r * c → w.cell? ⟨b, o + j, none⟩ = some (.int .i64 (A j))) (n1 : Bu ≠ U) (n2 : Ba ≠ U) (n3 : Bs ≠ U) (n4 : b ≠ U) :
    Calls Tryz.prog 32 #[.int .i64 (i : Int), .int .i64 (k : Int), .pointer (some ⟨Bu, 0, none⟩), .pointer (some ⟨Ba, 0, none⟩), .pointer (some ⟨Bs, 0, none⟩)] w fun e w' => e = .returned (.int .i64 (m2N (A (i * c + k)) s)) ∧ UC U (cc || m2C (A (i * c + k)) s) (nn + 2) w' ∧ Mk U w w' := by
  have hp := place_in i k r c hi hk
  have AT : Hid (∀ wx, Mod U w wx → Calls Tryz.prog 34 #[.agg #[.int .i64 r, .int .i64 c, .slice (some ⟨b, o, none⟩) (r * c) cap], .int .i64 i, .int .i64 k] wx fun e w' => e = .returned (.int .i64 (A (i * c + k))) ∧ Grown wx w') := fun wx mu => matAtG r c i k b o cap A hr hc hi hk wx (mu.cell (za _ hp) n4)
  have ix := hA _ hp
  obtain ⟨x, hx⟩ : ∃ x, A (i * c + k) = x := ⟨_, rfl⟩
  rw [hx] at AT ix
  rw [hx]
  have ML : Hid (∀ wx bo, bo ≠ U → UC U cc nn wx → Row wx (some ⟨bo, 0, none⟩) 2 (pairZ x s) → Calls Tryz.prog 33 #[.pointer (some ⟨U, 0, none⟩), .slice (some ⟨bo, 0, none⟩) 2 2] wx fun e w' => e = .returned (.int .i64 (m2N x s)) ∧ UC U (cc || m2C x s) (nn + 2) w' ∧ Mod U wx w') := fun wx bo hb hu hr => mulTwoM U x s cc nn bo 2 wx ix hs hn hu hr hb
  obtain ⟨z, hz⟩ : ∃ z, m2N x s = z := ⟨_, rfl⟩
  rw [hz] at ML
  rw [hz]
  obtain ⟨len, hlen⟩ : ∃ q, r * c = q := ⟨_, rfl⟩
  rw [hlen] at AT hBa
  have CW : Hid (∀ w', Mod U w w' → w'.cell? ⟨Bu, 0, none⟩ = some (.pointer (some ⟨U, 0, none⟩)) ∧ w'.cell? ⟨Ba, 0, none⟩ = some (.int .i64 r) ∧ w'.cell? ⟨Ba, 1, none⟩ = some (.int .i64 c) ∧ w'.cell? ⟨Ba, 2, none⟩ = some (.slice (some ⟨b, o, none⟩) len cap) ∧ w'.cell? ⟨Bs, 0, none⟩ = some (.int .i64 s)) := fun wx mu => ⟨Blk.cell (Blk.keep hBu mu n1) 0, Blk.cell (Blk.keep hBa mu n2) 0, Blk.cell (Blk.keep hBa mu n2) 1, Blk.cell (Blk.keep hBa mu n2) 2, Blk.cell (Blk.keep hBs mu n3) 0⟩
  have H : Hid (UC U cc nn w.drew) := h
  have hU : Hid (U < w.heap.size) := Blk.lt h
  obtain ⟨x1, x2, x3, x4, x5⟩ := unhide CW w (Mod.refl _ _)
  clear h hBu hBa hBs za hA hn hr hc hi hk hs hx hz hlen n1 n2 n3 n4 hp ix
  go_enter Tryz.func32, Tryz.ntmps32
  go_wp2
  go_region_held3 (fun w' => w'.cell? ⟨Bu, 0, none⟩ = some (.pointer (some ⟨U, 0, none⟩)) ∧ w'.cell? ⟨Ba, 0, none⟩ = some (.int .i64 r) ∧ w'.cell? ⟨Ba, 1, none⟩ = some (.int .i64 c) ∧ w'.cell? ⟨Ba, 2, none⟩ = some (.slice (some ⟨b, o, none⟩) len cap) ∧ w'.cell? ⟨Bs, 0, none⟩ = some (.int .i64 s))
      (simp [go_sem, *])
      (first
        | (go_at_call 34; refine (unhide AT _ (mod_drew U w)).mono ?_; rintro e w2 ⟨rfl, g2⟩; have M2 : Hid (Mod U w w2) := (mod_drew U w).trans (Mod.of g2); have U2 : Hid (UC U cc nn w2) := Blk.grown (unhide H) g2; obtain ⟨y1, y2, y3, y4, y5⟩ := unhide CW w2 (unhide M2); have j1 := heap_gt y1; have j2 := heap_gt y2; have j3 := heap_gt y5; have M3 : Hid (Mod U w (w2.alloc (.cells #[.int .i64 x, .int .i64 s] 3))) := (unhide M2).trans (Mod.of ((Grown.refl _).alloc _ _)); have U3 : Hid (UC U cc nn (w2.alloc (.cells #[.int .i64 x, .int .i64 s] 3))) := Blk.grown (unhide U2) ((Grown.refl _).alloc _ _); have ne : Hid (w2.heap.size ≠ U) := Nat.ne_of_gt (Blk.lt (unhide U2)); clear g2 AT)
        | (go_at_call 33; refine (unhide ML _ _ (unhide ne) (unhide U3) (pair_rowM w2 x s)).mono ?_; rintro e w4 ⟨rfl, h4, m4⟩; obtain ⟨t1, t2, t3, t4, t5⟩ := unhide CW w4 ((unhide M3).trans m4); have R4 : Hid (UC U (cc || m2C x s) (nn + 2) w4 ∧ Mk U w w4) := ⟨h4, Mk.of ((unhide M3).trans m4)⟩; clear h4 m4 ML))
  go_wp2
  go_ret
  exact ⟨rfl, unhide R4⟩


set_option maxRecDepth 20000 in
set_option maxHeartbeats 4000000 in
theorem reckon1M (U Q F : Nat) (eF : ∀ args w, (callFunc F args).run Tryz.prog w = .ok (.enter F args) w) (f : Int → Int → Int) (g : Int → Int → Bool) (d : Int) (cc : Bool) (nn : Int) (r c i k b o cap b2 o2 cap2 Bo Ba Bb : Nat) (A B : Nat → Int) (hr : 1 ≤ r ∧ r ≤ 12) (hc : 1 ≤ c ∧ c ≤ 12) (hi : i < r) (hk : k < c) (w : World) (h : UC U cc nn w)
    (C : ∀ wx bo, bo ≠ U → UC U cc nn wx → Mod U w wx → Row wx (some ⟨bo, 0, none⟩) 2 (pairZ (A (i * c + k)) (B (i * c + k))) → Calls Tryz.prog F #[.pointer (some ⟨U, 0, none⟩), .slice (some ⟨bo, 0, none⟩) 2 2] wx fun e w' => e = .returned (.int .i64 (f (A (i * c + k)) (B (i * c + k)))) ∧ UC U (cc || g (A (i * c + k)) (B (i * c + k))) (nn + d) w' ∧ Mod U wx w')
    (hBo : Blk Bo #[.func (.func F) #[.pointer (some ⟨U, 0, none⟩)] #[]] 51 w) (hBa : Blk Ba #[.int .i64 r, .int .i64 c, .slice (some ⟨b, o, none⟩) (r * c) cap] 24 w) (hBb : Blk Bb #[.int .i64 r, .int .i64 c, .slice (some ⟨b2, o2, none⟩) (r * c) cap2] 24 w) (za : ∀ j, j < r * c → w.cell? ⟨b, o + j, none⟩ = some (.int .i64 (A j))) (zb : ∀ j, j < r * c → w.cell? ⟨b2, o2 + j, none⟩ = some (.int .i64 (B j))) (n1 : Bo ≠ U) (n2 : Ba ≠ U) (n3 : Bb ≠ U) (n4 : b ≠ U) (n5 : b2 ≠ U) :
    Calls Tryz.prog 43 #[.int .i64 (i : Int), .int .i64 (k : Int), .pointer (some ⟨Bo, 0, none⟩), .pointer (some ⟨Ba, 0, none⟩), .pointer (some ⟨Bb, 0, none⟩)] w fun e w' => e = .returned (.int .i64 (f (A (i * c + k)) (B (i * c + k)))) ∧ UC U (cc || g (A (i * c + k)) (B (i * c + k))) (nn + d) w' ∧ Mk U w w' := by
  have hp := place_in i k r c hi hk
  have AT : Hid (∀ wx, Mod U w wx → Calls Tryz.prog 34 #[.agg #[.int .i64 r, .int .i64 c, .slice (some ⟨b, o, none⟩) (r * c) cap], .int .i64 i, .int .i64 k] wx fun e w' => e = .returned (.int .i64 (A (i * c + k))) ∧ Grown wx w') := fun wx mu => matAtG r c i k b o cap A hr hc hi hk wx (mu.cell (za _ hp) n4)
  have AT2 : Hid (∀ wx, Mod U w wx → Calls Tryz.prog 34 #[.agg #[.int .i64 r, .int .i64 c, .slice (some ⟨b2, o2, none⟩) (r * c) cap2], .int .i64 i, .int .i64 k] wx fun e w' => e = .returned (.int .i64 (B (i * c + k))) ∧ Grown wx w') := fun wx mu => matAtG r c i k b2 o2 cap2 B hr hc hi hk wx (mu.cell (zb _ hp) n5)
  have OP := hide C
  obtain ⟨x, hx⟩ : ∃ x, A (i * c + k) = x := ⟨_, rfl⟩
  obtain ⟨y, hy⟩ : ∃ y, B (i * c + k) = y := ⟨_, rfl⟩
  rw [hx] at AT
  rw [hy] at AT2
  rw [hx, hy] at OP
  rw [hx, hy]
  obtain ⟨z, hz⟩ : ∃ z, f x y = z := ⟨_, rfl⟩
  rw [hz] at OP
  rw [hz]
  obtain ⟨len, hlen⟩ : ∃ q, r * c = q := ⟨_, rfl⟩
  rw [hlen] at AT AT2 hBa hBb
  have CW : Hid (∀ w', Mod U w w' → w'.cell? ⟨Bo, 0, none⟩ = some (.func (.func F) #[.pointer (some ⟨U, 0, none⟩)] #[]) ∧ w'.cell? ⟨Ba, 0, none⟩ = some (.int .i64 r) ∧ w'.cell? ⟨Ba, 1, none⟩ = some (.int .i64 c) ∧ w'.cell? ⟨Ba, 2, none⟩ = some (.slice (some ⟨b, o, none⟩) len cap) ∧ w'.cell? ⟨Bb, 0, none⟩ = some (.int .i64 r) ∧ w'.cell? ⟨Bb, 1, none⟩ = some (.int .i64 c) ∧ w'.cell? ⟨Bb, 2, none⟩ = some (.slice (some ⟨b2, o2, none⟩) len cap2)) := fun wx mu => ⟨Blk.cell (Blk.keep hBo mu n1) 0, Blk.cell (Blk.keep hBa mu n2) 0, Blk.cell (Blk.keep hBa mu n2) 1, Blk.cell (Blk.keep hBa mu n2) 2, Blk.cell (Blk.keep hBb mu n3) 0, Blk.cell (Blk.keep hBb mu n3) 1, Blk.cell (Blk.keep hBb mu n3) 2⟩
  have H : Hid (UC U cc nn w.drew) := h
  obtain ⟨x1, x2, x3, x4, x5, x6, x7⟩ := unhide CW w (Mod.refl _ _)
  clear h hBo hBa hBb za zb hr hc hi hk hx hy hz hlen n1 n2 n3 n4 n5 hp C
  go_enter Tryz.func43, Tryz.ntmps43
  go_wp2
  go_region_held3 (fun w' => w'.cell? ⟨Bo, 0, none⟩ = some (.func (.func F) #[.pointer (some ⟨U, 0, none⟩)] #[]) ∧ w'.cell? ⟨Ba, 0, none⟩ = some (.int .i64 r) ∧ w'.cell? ⟨Ba, 1, none⟩ = some (.int .i64 c) ∧ w'.cell? ⟨Ba, 2, none⟩ = some (.slice (some ⟨b, o, none⟩) len cap) ∧ w'.cell? ⟨Bb, 0, none⟩ = some (.int .i64 r) ∧ w'.cell? ⟨Bb, 1, none⟩ = some (.int .i64 c) ∧ w'.cell? ⟨Bb, 2, none⟩ = some (.slice (some ⟨b2, o2, none⟩) len cap2))
      (simp [go_sem, *])
      (first
        | (go_at_call 34; refine (unhide AT _ (mod_drew U w)).mono ?_; clear AT; rintro e w2 ⟨rfl, g2⟩; have M2 : Hid (Mod U w w2) := (mod_drew U w).trans (Mod.of g2); have U2 : Hid (UC U cc nn w2) := Blk.grown (unhide H) g2; obtain ⟨y1, y2, y3, y4, y5, y6, y7⟩ := unhide CW w2 (unhide M2); clear g2)
        | (go_at_call 34; refine (unhide AT2 _ (unhide M2)).mono ?_; clear AT2; rintro e w3 ⟨rfl, g3⟩; have M3 : Hid (Mod U w w3) := (unhide M2).trans (Mod.of g3); have U3 : Hid (UC U cc nn w3) := Blk.grown (unhide U2) g3; obtain ⟨v1, v2, v3, v4, v5, v6, v7⟩ := unhide CW w3 (unhide M3); have j1 := heap_gt v1; have j2 := heap_gt v2; have j3 := heap_gt v5; have M4 : Hid (Mod U w (w3.alloc (.cells #[.int .i64 x, .int .i64 y] 3))) := (unhide M3).trans (Mod.of ((Grown.refl _).alloc _ _)); have U4 : Hid (UC U cc nn (w3.alloc (.cells #[.int .i64 x, .int .i64 y] 3))) := Blk.grown (unhide U3) ((Grown.refl _).alloc _ _); have ne : Hid (w3.heap.size ≠ U) := Nat.ne_of_gt (Blk.lt (unhide U3)); clear g3)
        | (refine (unhide OP _ _ (unhide ne) (unhide U4) (unhide M4) (pair_rowM w3 x y)).mono ?_; rintro e w5 ⟨rfl, h5, m5⟩; obtain ⟨t1, t2, t3, t4, t5, t6, t7⟩ := unhide CW w5 ((unhide M4).trans m5); have R4 : Hid (UC U (cc || g x y) (nn + d) w5 ∧ Mk U w w5) := ⟨h5, Mk.of ((unhide M4).trans m5)⟩; clear h5 m5 OP))
  go_wp2
  go_ret
  exact ⟨rfl, unhide R4⟩


set_option maxRecDepth 20000 in
set_option maxHeartbeats 4000000 in
theorem reckon1P (U Q F : Nat) (eF : ∀ args w, (callFunc F args).run Tryz.prog w = .ok (.enter F args) w) (f : Int → Int → Int) (g : Int → Int → Bool) (d : Int) (cc : Bool) (nn : Int) (r c i k b o cap b2 o2 cap2 Bo Ba Bb : Nat) (A B : Nat → Int) (hr : 1 ≤ r ∧ r ≤ 12) (hc : 1 ≤ c ∧ c ≤ 12) (hi : i < r) (hk : k < c) (w : World) (h : UC U cc nn w)
    (C : ∀ wx bo, bo ≠ U → UC U cc nn wx → Mod U w wx → Row wx (some ⟨bo, 0, none⟩) 2 (pairZ (A (i * c + k)) (B (i * c + k))) → Calls Tryz.prog F #[.slice (some ⟨bo, 0, none⟩) 2 2, .pointer (some ⟨Q, 0, none⟩)] wx fun e w' => e = .returned (.int .i64 (f (A (i * c + k)) (B (i * c + k)))) ∧ UC U (cc || g (A (i * c + k)) (B (i * c + k))) (nn + d) w' ∧ Mod U wx w')
    (hBo : Blk Bo #[.func (.func F) #[] #[.pointer (some ⟨Q, 0, none⟩)]] 51 w) (hBa : Blk Ba #[.int .i64 r, .int .i64 c, .slice (some ⟨b, o, none⟩) (r * c) cap] 24 w) (hBb : Blk Bb #[.int .i64 r, .int .i64 c, .slice (some ⟨b2, o2, none⟩) (r * c) cap2] 24 w) (za : ∀ j, j < r * c → w.cell? ⟨b, o + j, none⟩ = some (.int .i64 (A j))) (zb : ∀ j, j < r * c → w.cell? ⟨b2, o2 + j, none⟩ = some (.int .i64 (B j))) (n1 : Bo ≠ U) (n2 : Ba ≠ U) (n3 : Bb ≠ U) (n4 : b ≠ U) (n5 : b2 ≠ U) :
    Calls Tryz.prog 43 #[.int .i64 (i : Int), .int .i64 (k : Int), .pointer (some ⟨Bo, 0, none⟩), .pointer (some ⟨Ba, 0, none⟩), .pointer (some ⟨Bb, 0, none⟩)] w fun e w' => e = .returned (.int .i64 (f (A (i * c + k)) (B (i * c + k)))) ∧ UC U (cc || g (A (i * c + k)) (B (i * c + k))) (nn + d) w' ∧ Mk U w w' := by
  have hp := place_in i k r c hi hk
  have AT : Hid (∀ wx, Mod U w wx → Calls Tryz.prog 34 #[.agg #[.int .i64 r, .int .i64 c, .slice (some ⟨b, o, none⟩) (r * c) cap], .int .i64 i, .int .i64 k] wx fun e w' => e = .returned (.int .i64 (A (i * c + k))) ∧ Grown wx w') := fun wx mu => matAtG r c i k b o cap A hr hc hi hk wx (mu.cell (za _ hp) n4)
  have AT2 : Hid (∀ wx, Mod U w wx → Calls Tryz.prog 34 #[.agg #[.int .i64 r, .int .i64 c, .slice (some ⟨b2, o2, none⟩) (r * c) cap2], .int .i64 i, .int .i64 k] wx fun e w' => e = .returned (.int .i64 (B (i * c + k))) ∧ Grown wx w') := fun wx mu => matAtG r c i k b2 o2 cap2 B hr hc hi hk wx (mu.cell (zb _ hp) n5)
  have OP := hide C
  obtain ⟨x, hx⟩ : ∃ x, A (i * c + k) = x := ⟨_, rfl⟩
  obtain ⟨y, hy⟩ : ∃ y, B (i * c + k) = y := ⟨_, rfl⟩
  rw [hx] at AT
  rw [hy] at AT2
  rw [hx, hy] at OP
  rw [hx, hy]
  obtain ⟨z, hz⟩ : ∃ z, f x y = z := ⟨_, rfl⟩
  rw [hz] at OP
  rw [hz]
  obtain ⟨len, hlen⟩ : ∃ q, r * c = q := ⟨_, rfl⟩
  rw [hlen] at AT AT2 hBa hBb
  have CW : Hid (∀ w', Mod U w w' → w'.cell? ⟨Bo, 0, none⟩ = some (.func (.func F) #[] #[.pointer (some ⟨Q, 0, none⟩)]) ∧ w'.cell? ⟨Ba, 0, none⟩ = some (.int .i64 r) ∧ w'.cell? ⟨Ba, 1, none⟩ = some (.int .i64 c) ∧ w'.cell? ⟨Ba, 2, none⟩ = some (.slice (some ⟨b, o, none⟩) len cap) ∧ w'.cell? ⟨Bb, 0, none⟩ = some (.int .i64 r) ∧ w'.cell? ⟨Bb, 1, none⟩ = some (.int .i64 c) ∧ w'.cell? ⟨Bb, 2, none⟩ = some (.slice (some ⟨b2, o2, none⟩) len cap2)) := fun wx mu => ⟨Blk.cell (Blk.keep hBo mu n1) 0, Blk.cell (Blk.keep hBa mu n2) 0, Blk.cell (Blk.keep hBa mu n2) 1, Blk.cell (Blk.keep hBa mu n2) 2, Blk.cell (Blk.keep hBb mu n3) 0, Blk.cell (Blk.keep hBb mu n3) 1, Blk.cell (Blk.keep hBb mu n3) 2⟩
  have H : Hid (UC U cc nn w.drew) := h
  obtain ⟨x1, x2, x3, x4, x5, x6, x7⟩ := unhide CW w (Mod.refl _ _)
  clear h hBo hBa hBb za zb hr hc hi hk hx hy hz hlen n1 n2 n3 n4 n5 hp C
  go_enter Tryz.func43, Tryz.ntmps43
  go_wp2
  go_region_held3 (fun w' => w'.cell? ⟨Bo, 0, none⟩ = some (.func (.func F) #[] #[.pointer (some ⟨Q, 0, none⟩)]) ∧ w'.cell? ⟨Ba, 0, none⟩ = some (.int .i64 r) ∧ w'.cell? ⟨Ba, 1, none⟩ = some (.int .i64 c) ∧ w'.cell? ⟨Ba, 2, none⟩ = some (.slice (some ⟨b, o, none⟩) len cap) ∧ w'.cell? ⟨Bb, 0, none⟩ = some (.int .i64 r) ∧ w'.cell? ⟨Bb, 1, none⟩ = some (.int .i64 c) ∧ w'.cell? ⟨Bb, 2, none⟩ = some (.slice (some ⟨b2, o2, none⟩) len cap2))
      (simp [go_sem, *])
      (first
        | (go_at_call 34; refine (unhide AT _ (mod_drew U w)).mono ?_; clear AT; rintro e w2 ⟨rfl, g2⟩; have M2 : Hid (Mod U w w2) := (mod_drew U w).trans (Mod.of g2); have U2 : Hid (UC U cc nn w2) := Blk.grown (unhide H) g2; obtain ⟨y1, y2, y3, y4, y5, y6, y7⟩ := unhide CW w2 (unhide M2); clear g2)
        | (go_at_call 34; refine (unhide AT2 _ (unhide M2)).mono ?_; clear AT2; rintro e w3 ⟨rfl, g3⟩; have M3 : Hid (Mod U w w3) := (unhide M2).trans (Mod.of g3); have U3 : Hid (UC U cc nn w3) := Blk.grown (unhide U2) g3; obtain ⟨v1, v2, v3, v4, v5, v6, v7⟩ := unhide CW w3 (unhide M3); have j1 := heap_gt v1; have j2 := heap_gt v2; have j3 := heap_gt v5; have M4 : Hid (Mod U w (w3.alloc (.cells #[.int .i64 x, .int .i64 y] 3))) := (unhide M3).trans (Mod.of ((Grown.refl _).alloc _ _)); have U4 : Hid (UC U cc nn (w3.alloc (.cells #[.int .i64 x, .int .i64 y] 3))) := Blk.grown (unhide U3) ((Grown.refl _).alloc _ _); have ne : Hid (w3.heap.size ≠ U) := Nat.ne_of_gt (Blk.lt (unhide U3)); clear g3)
        | (refine (unhide OP _ _ (unhide ne) (unhide U4) (unhide M4) (pair_rowM w3 x y)).mono ?_; rintro e w5 ⟨rfl, h5, m5⟩; obtain ⟨t1, t2, t3, t4, t5, t6, t7⟩ := unhide CW w5 ((unhide M4).trans m5); have R4 : Hid (UC U (cc || g x y) (nn + d) w5 ∧ Mk U w w5) := ⟨h5, Mk.of ((unhide M4).trans m5)⟩; clear h5 m5 OP))
  go_wp2
  go_ret
  exact ⟨rfl, unhide R4⟩


set_option maxRecDepth 20000 in
set_option maxHeartbeats 4000000 in
theorem less1 (U Q bo : Nat) (x y : Int) (hx : I64 x) (hy : I64 y) (cc : Bool) (nn : Int) (hn : 0 ≤ nn ∧ nn < 2305843009213693952) (w : World) (h : UC U cc nn w) (hQ : Blk Q #[.pointer (some ⟨U, 0, none⟩)] 25 w) (nq : Q ≠ U) (nb : bo ≠ U) (hr : Row w (some ⟨bo, 0, none⟩) 2 (pairZ x y)) :
    Calls Tryz.prog 27 #[.slice (some ⟨bo, 0, none⟩) 2 2, .pointer (some ⟨Q, 0, none⟩)] w fun e w' => e = .returned (.int .i64 (subN x y)) ∧ UC U (cc || subC x y) (nn + 1) w' ∧ Mod U w w' := by
  obtain ⟨b', o', e, c0⟩ := hr.at (k := 0) (by omega)
  cases e
  obtain ⟨b', o', e, c1⟩ := hr.at (k := 1) (by omega)
  cases e
  rw [Nat.zero_add] at c0 c1
  have d0 : w.cell? ⟨bo, 0, none⟩ = some (.int .i64 x) := c0
  have d1 : w.cell? ⟨bo, 1, none⟩ = some (.int .i64 y) := c1
  have d2 : w.cell? ⟨Q, 0, none⟩ = some (.pointer (some ⟨U, 0, none⟩)) := Blk.cell hQ 0
  have SB := hide (unitSub U cc nn x y hx hy hn w.drew h)
  have CW : Hid (∀ w', Mod U w w' → w'.cell? ⟨Q, 0, none⟩ = some (.pointer (some ⟨U, 0, none⟩)) ∧ w'.cell? ⟨bo, 0, none⟩ = some (.int .i64 x) ∧ w'.cell? ⟨bo, 1, none⟩ = some (.int .i64 y)) := fun wx mu => ⟨Blk.cell (Blk.keep hQ mu nq) 0, mu.cell d0 nb, mu.cell d1 nb⟩
  generalize subN x y = z at *
  clear c0 c1 hr h hQ hx hy hn
  go_enter Tryz.func27, Tryz.ntmps27
  go_wp2
  go_region_held3 (fun w' => w'.cell? ⟨Q, 0, none⟩ = some (.pointer (some ⟨U, 0, none⟩)) ∧ w'.cell? ⟨bo, 0, none⟩ = some (.int .i64 x) ∧ w'.cell? ⟨bo, 1, none⟩ = some (.int .i64 y))
      (simp [go_sem, *])
      (first
        | (go_at_call 28; refine (unhide SB).mono ?_; rintro e w4 ⟨rfl, h4, m4⟩; have m5 : Mod U w w4 := (mod_drew U w).trans m4; obtain ⟨t1, t2, t3⟩ := unhide CW w4 m5; have R4 := hide (And.intro h4 m5); clear h4 m4 m5 SB))
  go_wp2
  go_ret
  exact ⟨rfl, unhide R4⟩


end Go.Proofs.YtcobicnpdmgnjaaGreat

/- Package mat: reckon, Sum, Less, Scale. -/
namespace Go.Proofs.YtcobicnpdmgnjaaGreat
open Go.RowKit Go.Shelf Go.Proofs.Wd
set_option linter.unusedVariables false
set_option linter.unusedSimpArgs false
set_option maxRecDepth 10000


set_option maxHeartbeats 2000000 in
theorem matReckonM (U Q F : Nat) (eF : ∀ args w, (callFunc F args).run Tryz.prog w = .ok (.enter F args) w) (f : Int → Int → Int) (g : Int → Int → Bool) (d : Int) (hd : 0 ≤ d ∧ d ≤ 1000) (I : World → Prop) (hI : ∀ a b, I a → Mk U a b → I b) (c0 : Bool) (n0 : Int) (hn : 0 ≤ n0 ∧ n0 < 1152921504606846976) (r c b o cap b2 o2 cap2 : Nat) (A B : Nat → Int) (hr : 1 ≤ r ∧ r ≤ 12) (hc : 1 ≤ c ∧ c ≤ 12)
    (hA : ∀ j, j < r * c → I64 (A j)) (hB : ∀ j, j < r * c → I64 (B j)) (w : World) (h : UC U c0 n0 w) (iw : I w)
    (C : ∀ cc nn x y wx bo, I64 x → I64 y → 0 ≤ nn ∧ nn < 2305843009213693952 → bo ≠ U → UC U cc nn wx → I wx → Row wx (some ⟨bo, 0, none⟩) 2 (pairZ x y) → Calls Tryz.prog F #[.pointer (some ⟨U, 0, none⟩), .slice (some ⟨bo, 0, none⟩) 2 2] wx fun e w' => e = .returned (.int .i64 (f x y)) ∧ UC U (cc || g x y) (nn + d) w' ∧ Mod U wx w')
    (za : ∀ j, j < r * c → w.cell? ⟨b, o + j, none⟩ = some (.int .i64 (A j))) (zb : ∀ j, j < r * c → w.cell? ⟨b2, o2 + j, none⟩ = some (.int .i64 (B j))) (n4 : b ≠ U) (n5 : b2 ≠ U) :
    Calls Tryz.prog 23 #[.pointer (some ⟨U, 0, none⟩), .agg #[.int .i64 r, .int .i64 c, .slice (some ⟨b, o, none⟩) (r * c) cap], .agg #[.int .i64 r, .int .i64 c, .slice (some ⟨b2, o2, none⟩) (r * c) cap2], .func (.func F) #[.pointer (some ⟨U, 0, none⟩)] #[]] w fun e w' => MatP r c (r * c) (fun p => f (A p) (B p)) 0 (fun w' => UC U (c0 || orC (fun p => g (A p) (B p)) (r * c)) (n0 + d * ((r * c : Nat) : Int)) w' ∧ Mk U w w') w e w' := by
  have hlt := Blk.lt h
  obtain ⟨G, s5, ba, bb, bo, br, bx⟩ := alloc5 w #[.int .i64 r, .int .i64 c, .slice (some ⟨b, o, none⟩) (r * c) cap] 24 #[.int .i64 r, .int .i64 c, .slice (some ⟨b2, o2, none⟩) (r * c) cap2] 24 #[.func (.func F) #[.pointer (some ⟨U, 0, none⟩)] #[]] 51 #[.int .i64 0, .int .i64 0, .slice none 0 0] 24 #[.int .i64 r, .int .i64 c, .slice (some ⟨b, o, none⟩) (r * c) cap, .int .i64 r, .int .i64 c, .slice (some ⟨b2, o2, none⟩) (r * c) cap2] 24
  have ok : okM r c (r * c) := ⟨by omega, by omega, by rw [Int.natCast_mul]⟩
  have RF := hide (refuse2 U c0 n0 ⟨hn.1, by omega⟩ r c (some ⟨b, o, none⟩) (r * c) cap r c (some ⟨b2, o2, none⟩) (r * c) cap2 (w.heap.size + 1 + 1 + 1 + 1) 0 (Or.inl ⟨⟨ok, ok⟩, rfl⟩) _ (Blk.grown h G) bx (by omega))
  have MD : Hid (∀ wx, Mk U w wx → UC U c0 n0 wx → Blk w.heap.size #[.int .i64 r, .int .i64 c, .slice (some ⟨b, o, none⟩) (r * c) cap] 24 wx → Blk (w.heap.size + 1) #[.int .i64 r, .int .i64 c, .slice (some ⟨b2, o2, none⟩) (r * c) cap2] 24 wx → Blk (w.heap.size + 1 + 1) #[.func (.func F) #[.pointer (some ⟨U, 0, none⟩)] #[]] 51 wx →
      Calls Tryz.prog 31 #[.int .i64 r, .int .i64 c, .func (.func 43) #[] #[.pointer (some ⟨w.heap.size + 1 + 1, 0, none⟩), .pointer (some ⟨w.heap.size, 0, none⟩), .pointer (some ⟨w.heap.size + 1, 0, none⟩)]] wx fun e w' => MadeP r c (fun p => f (A p) (B p)) (fun w' => UC U (c0 || orC (fun p => g (A p) (B p)) (r * c)) (n0 + d * ((r * c : Nat) : Int)) w' ∧ Mk U wx w') wx e w') := by
    intro wx mx ux xa xb xo
    refine madeU U c0 n0 d hd (fun p => g (A p) (B p)) 43 (enters_of Tryz.func43 (by kernel_rfl) rfl) _ r c hr hc (fun p => f (A p) (B p)) wx hn ux (fun cc nn i k a hi hk hnn ua ma => ?_)
    exact reckon1M U Q F eF f g d cc nn r c i k b o cap b2 o2 cap2 (w.heap.size + 1 + 1) w.heap.size (w.heap.size + 1) A B hr hc hi hk a ua
      (fun wy bo hbo hu my hrow => C cc nn _ _ wy bo (hA _ (place_in _ _ _ _ hi hk)) (hB _ (place_in _ _ _ _ hi hk)) hnn hbo hu (hI _ _ iw ((mx.trans ma).trans (Mk.of my))) hrow)
      (Blk.mk xo ma (by omega)) (Blk.mk xa ma (by omega)) (Blk.mk xb ma (by omega)) (fun j hj => ma.cell (mx.cell (za j hj) n4) n4) (fun j hj => ma.cell (mx.cell (zb j hj) n5) n5) (by omega) (by omega) (by omega) n4 n5
  have HB := hide (And.intro ba (And.intro bb (And.intro bo br)))
  have HG := hide (And.intro G (And.intro s5 hlt))
  obtain ⟨len, hlen⟩ : ∃ q, r * c = q := ⟨_, rfl⟩
  simp only [hlen] at RF HG HB MD
  rw [hlen]
  have HL := hide hlen
  clear G s5 ba bb bo br bx h hlt za zb hA hB hr hc hlen n4 n5 hn ok C hI iw
  go_enter Tryz.func23, Tryz.ntmps23
  go_wp2_with fail
  generalize (((((w.alloc (.cells #[.int .i64 r, .int .i64 c, .slice (some ⟨b, o, none⟩) len cap] 24)).alloc (.cells #[.int .i64 r, .int .i64 c, .slice (some ⟨b2, o2, none⟩) len cap2] 24)).alloc (.cells #[.func (.func F) #[.pointer (some ⟨U, 0, none⟩)] #[]] 51)).alloc (.cells #[.int .i64 0, .int .i64 0, .slice none 0 0] 24)).alloc (.cells #[.int .i64 r, .int .i64 c, .slice (some ⟨b, o, none⟩) len cap, .int .i64 r, .int .i64 c, .slice (some ⟨b2, o2, none⟩) len cap2] 24)) = w1 at *
  refine (unhide RF).mono ?_
  rintro e w2 ⟨rfl, u2, m2⟩
  have M2 : Hid (Mk U w w2) := Mk.of ((Mod.of (unhide HG).1).trans m2)
  have Z2 : Hid (w.heap.size + 1 + 1 + 1 + 1 + 1 ≤ w2.heap.size) := by have := (unhide HG).2.1; have := m2.2.2.2.2; show _ ≤ _; omega
  obtain ⟨ba, bb, bo, br⟩ := unhide HB
  have lU : Hid (U < w.heap.size) := (unhide HG).2.2
  have ba2 := Blk.keep ba m2 (by have := unhide lU; omega)
  have bb2 := Blk.keep bb m2 (by have := unhide lU; omega)
  have bo2 := Blk.keep bo m2 (by have := unhide lU; omega)
  have br2 := Blk.keep br m2 (by have := unhide lU; omega)
  have p0 : w2.cell? ⟨w.heap.size, 0, none⟩ = some (.int .i64 r) := Blk.cell ba2 0
  have p1 : w2.cell? ⟨w.heap.size, 1, none⟩ = some (.int .i64 c) := Blk.cell ba2 1
  have q0 : w2.cell? ⟨w.heap.size + 1, 0, none⟩ = some (.int .i64 r) := Blk.cell bb2 0
  have q1 : w2.cell? ⟨w.heap.size + 1, 1, none⟩ = some (.int .i64 c) := Blk.cell bb2 1
  have M4 := hide (unhide MD w2 (unhide M2) u2 ba2 bb2 bo2)
  have HR := hide br2
  clear ba bb bo br ba2 bb2 bo2 br2 u2 m2 RF HB MD
  go_wp2_with fail
  refine (unhide M4).mono ?_
  rintro e w5 ⟨Lb, h1, rfl, h3, u5, mk5⟩
  have b3 : Blk (w.heap.size + 1 + 1 + 1) #[.int .i64 0, .int .i64 0, .slice none 0 0] 24 w5 := Blk.mk (unhide HR) mk5 (by have := unhide lU; omega)
  have e0 : w5.cell? ⟨w.heap.size + 1 + 1 + 1, 0, none⟩ = some (.int .i64 0) := Blk.cell b3 0
  have e1 : w5.cell? ⟨w.heap.size + 1 + 1 + 1, 1, none⟩ = some (.int .i64 0) := Blk.cell b3 1
  have e2 : w5.cell? ⟨w.heap.size + 1 + 1 + 1, 2, none⟩ = some (.slice none 0 0) := Blk.cell b3 2
  have f := Blk.free b3
  have R := hide (And.intro b3 (And.intro h1 (And.intro h3 (And.intro u5 mk5))))
  clear b3 h1 h3 u5 mk5 M4 p0 p1 q0 q1
  go_wp2
  obtain ⟨b3, h1, h3, u5, mk5⟩ := unhide R
  have P := putM b3 (.int .i64 r) (.int .i64 c) (.slice (some ⟨Lb, 0, none⟩) (r * c) (r * c))
  generalize (((w5.setCell ⟨w.heap.size + 1 + 1 + 1, 0, none⟩ (.int .i64 r)).setCell ⟨w.heap.size + 1 + 1 + 1, 1, none⟩ (.int .i64 c)).setCell ⟨w.heap.size + 1 + 1 + 1, 2, none⟩ (.slice (some ⟨Lb, 0, none⟩) (r * c) (r * c))) = wE at *
  have c0 : wE.cell? ⟨w.heap.size + 1 + 1 + 1, 0, none⟩ = some (.int .i64 r) := Blk.cell P.1 0
  have c1 : wE.cell? ⟨w.heap.size + 1 + 1 + 1, 1, none⟩ = some (.int .i64 c) := Blk.cell P.1 1
  have c2 : wE.cell? ⟨w.heap.size + 1 + 1 + 1, 2, none⟩ = some (.slice (some ⟨Lb, 0, none⟩) (r * c) (r * c)) := Blk.cell P.1 2
  refine bodyPost_ret (v := .tuple #[.agg #[.int .i64 r, .int .i64 c, .slice (some ⟨Lb, 0, none⟩) (r * c) (r * c)], .int .i64 0]) (by simp [results, Tryz.results23, go_sem, c0, c1, c2]) rfl ?_
  have hz := unhide Z2
  have hu := unhide lU
  have mw := unhide M2
  have hl' := unhide HL
  subst hl'
  exact ⟨_, _, Lb, rfl, by omega, Or.inr ⟨rfl, Blk.keep h3 P.2 (by omega)⟩, Nat.le_refl _, Blk.keep u5 P.2 (by omega), (mw.trans mk5).new P.2 (by omega)⟩


set_option maxHeartbeats 2000000 in
theorem matReckonP (U Q F : Nat) (eF : ∀ args w, (callFunc F args).run Tryz.prog w = .ok (.enter F args) w) (f : Int → Int → Int) (g : Int → Int → Bool) (d : Int) (hd : 0 ≤ d ∧ d ≤ 1000) (I : World → Prop) (hI : ∀ a b, I a → Mk U a b → I b) (c0 : Bool) (n0 : Int) (hn : 0 ≤ n0 ∧ n0 < 1152921504606846976) (r c b o cap b2 o2 cap2 : Nat) (A B : Nat → Int) (hr : 1 ≤ r ∧ r ≤ 12) (hc : 1 ≤ c ∧ c ≤ 12)
    (hA : ∀ j, j < r * c → I64 (A j)) (hB : ∀ j, j < r * c → I64 (B j)) (w : World) (h : UC U c0 n0 w) (iw : I w)
    (C : ∀ cc nn x y wx bo, I64 x → I64 y → 0 ≤ nn ∧ nn < 2305843009213693952 → bo ≠ U → UC U cc nn wx → I wx → Row wx (some ⟨bo, 0, none⟩) 2 (pairZ x y) → Calls Tryz.prog F #[.slice (some ⟨bo, 0, none⟩) 2 2, .pointer (some ⟨Q, 0, none⟩)] wx fun e w' => e = .returned (.int .i64 (f x y)) ∧ UC U (cc || g x y) (nn + d) w' ∧ Mod U wx w')
    (za : ∀ j, j < r * c → w.cell? ⟨b, o + j, none⟩ = some (.int .i64 (A j))) (zb : ∀ j, j < r * c → w.cell? ⟨b2, o2 + j, none⟩ = some (.int .i64 (B j))) (n4 : b ≠ U) (n5 : b2 ≠ U) :
    Calls Tryz.prog 23 #[.pointer (some ⟨U, 0, none⟩), .agg #[.int .i64 r, .int .i64 c, .slice (some ⟨b, o, none⟩) (r * c) cap], .agg #[.int .i64 r, .int .i64 c, .slice (some ⟨b2, o2, none⟩) (r * c) cap2], .func (.func F) #[] #[.pointer (some ⟨Q, 0, none⟩)]] w fun e w' => MatP r c (r * c) (fun p => f (A p) (B p)) 0 (fun w' => UC U (c0 || orC (fun p => g (A p) (B p)) (r * c)) (n0 + d * ((r * c : Nat) : Int)) w' ∧ Mk U w w') w e w' := by
  have hlt := Blk.lt h
  obtain ⟨G, s5, ba, bb, bo, br, bx⟩ := alloc5 w #[.int .i64 r, .int .i64 c, .slice (some ⟨b, o, none⟩) (r * c) cap] 24 #[.int .i64 r, .int .i64 c, .slice (some ⟨b2, o2, none⟩) (r * c) cap2] 24 #[.func (.func F) #[] #[.pointer (some ⟨Q, 0, none⟩)]] 51 #[.int .i64 0, .int .i64 0, .slice none 0 0] 24 #[.int .i64 r, .int .i64 c, .slice (some ⟨b, o, none⟩) (r * c) cap, .int .i64 r, .int .i64 c, .slice (some ⟨b2, o2, none⟩) (r * c) cap2] 24
  have ok : okM r c (r * c) := ⟨by omega, by omega, by rw [Int.natCast_mul]⟩
  have RF := hide (refuse2 U c0 n0 ⟨hn.1, by omega⟩ r c (some ⟨b, o, none⟩) (r * c) cap r c (some ⟨b2, o2, none⟩) (r * c) cap2 (w.heap.size + 1 + 1 + 1 + 1) 0 (Or.inl ⟨⟨ok, ok⟩, rfl⟩) _ (Blk.grown h G) bx (by omega))
  have MD : Hid (∀ wx, Mk U w wx → UC U c0 n0 wx → Blk w.heap.size #[.int .i64 r, .int .i64 c, .slice (some ⟨b, o, none⟩) (r * c) cap] 24 wx → Blk (w.heap.size + 1) #[.int .i64 r, .int .i64 c, .slice (some ⟨b2, o2, none⟩) (r * c) cap2] 24 wx → Blk (w.heap.size + 1 + 1) #[.func (.func F) #[] #[.pointer (some ⟨Q, 0, none⟩)]] 51 wx →
      Calls Tryz.prog 31 #[.int .i64 r, .int .i64 c, .func (.func 43) #[] #[.pointer (some ⟨w.heap.size + 1 + 1, 0, none⟩), .pointer (some ⟨w.heap.size, 0, none⟩), .pointer (some ⟨w.heap.size + 1, 0, none⟩)]] wx fun e w' => MadeP r c (fun p => f (A p) (B p)) (fun w' => UC U (c0 || orC (fun p => g (A p) (B p)) (r * c)) (n0 + d * ((r * c : Nat) : Int)) w' ∧ Mk U wx w') wx e w') := by
    intro wx mx ux xa xb xo
    refine madeU U c0 n0 d hd (fun p => g (A p) (B p)) 43 (enters_of Tryz.func43 (by kernel_rfl) rfl) _ r c hr hc (fun p => f (A p) (B p)) wx hn ux (fun cc nn i k a hi hk hnn ua ma => ?_)
    exact reckon1P U Q F eF f g d cc nn r c i k b o cap b2 o2 cap2 (w.heap.size + 1 + 1) w.heap.size (w.heap.size + 1) A B hr hc hi hk a ua
      (fun wy bo hbo hu my hrow => C cc nn _ _ wy bo (hA _ (place_in _ _ _ _ hi hk)) (hB _ (place_in _ _ _ _ hi hk)) hnn hbo hu (hI _ _ iw ((mx.trans ma).trans (Mk.of my))) hrow)
      (Blk.mk xo ma (by omega)) (Blk.mk xa ma (by omega)) (Blk.mk xb ma (by omega)) (fun j hj => ma.cell (mx.cell (za j hj) n4) n4) (fun j hj => ma.cell (mx.cell (zb j hj) n5) n5) (by omega) (by omega) (by omega) n4 n5
  have HB := hide (And.intro ba (And.intro bb (And.intro bo br)))
  have HG := hide (And.intro G (And.intro s5 hlt))
  obtain ⟨len, hlen⟩ : ∃ q, r * c = q := ⟨_, rfl⟩
  simp only [hlen] at RF HG HB MD
  rw [hlen]
  have HL := hide hlen
  clear G s5 ba bb bo br bx h hlt za zb hA hB hr hc hlen n4 n5 hn ok C hI iw
  go_enter Tryz.func23, Tryz.ntmps23
  go_wp2_with fail
  generalize (((((w.alloc (.cells #[.int .i64 r, .int .i64 c, .slice (some ⟨b, o, none⟩) len cap] 24)).alloc (.cells #[.int .i64 r, .int .i64 c, .slice (some ⟨b2, o2, none⟩) len cap2] 24)).alloc (.cells #[.func (.func F) #[] #[.pointer (some ⟨Q, 0, none⟩)]] 51)).alloc (.cells #[.int .i64 0, .int .i64 0, .slice none 0 0] 24)).alloc (.cells #[.int .i64 r, .int .i64 c, .slice (some ⟨b, o, none⟩) len cap, .int .i64 r, .int .i64 c, .slice (some ⟨b2, o2, none⟩) len cap2] 24)) = w1 at *
  refine (unhide RF).mono ?_
  rintro e w2 ⟨rfl, u2, m2⟩
  have M2 : Hid (Mk U w w2) := Mk.of ((Mod.of (unhide HG).1).trans m2)
  have Z2 : Hid (w.heap.size + 1 + 1 + 1 + 1 + 1 ≤ w2.heap.size) := by have := (unhide HG).2.1; have := m2.2.2.2.2; show _ ≤ _; omega
  obtain ⟨ba, bb, bo, br⟩ := unhide HB
  have lU : Hid (U < w.heap.size) := (unhide HG).2.2
  have ba2 := Blk.keep ba m2 (by have := unhide lU; omega)
  have bb2 := Blk.keep bb m2 (by have := unhide lU; omega)
  have bo2 := Blk.keep bo m2 (by have := unhide lU; omega)
  have br2 := Blk.keep br m2 (by have := unhide lU; omega)
  have p0 : w2.cell? ⟨w.heap.size, 0, none⟩ = some (.int .i64 r) := Blk.cell ba2 0
  have p1 : w2.cell? ⟨w.heap.size, 1, none⟩ = some (.int .i64 c) := Blk.cell ba2 1
  have q0 : w2.cell? ⟨w.heap.size + 1, 0, none⟩ = some (.int .i64 r) := Blk.cell bb2 0
  have q1 : w2.cell? ⟨w.heap.size + 1, 1, none⟩ = some (.int .i64 c) := Blk.cell bb2 1
  have M4 := hide (unhide MD w2 (unhide M2) u2 ba2 bb2 bo2)
  have HR := hide br2
  clear ba bb bo br ba2 bb2 bo2 br2 u2 m2 RF HB MD
  go_wp2_with fail
  refine (unhide M4).mono ?_
  rintro e w5 ⟨Lb, h1, rfl, h3, u5, mk5⟩
  have b3 : Blk (w.heap.size + 1 + 1 + 1) #[.int .i64 0, .int .i64 0, .slice none 0 0] 24 w5 := Blk.mk (unhide HR) mk5 (by have := unhide lU; omega)
  have e0 : w5.cell? ⟨w.heap.size + 1 + 1 + 1, 0, none⟩ = some (.int .i64 0) := Blk.cell b3 0
  have e1 : w5.cell? ⟨w.heap.size + 1 + 1 + 1, 1, none⟩ = some (.int .i64 0) := Blk.cell b3 1
  have e2 : w5.cell? ⟨w.heap.size + 1 + 1 + 1, 2, none⟩ = some (.slice none 0 0) := Blk.cell b3 2
  have f := Blk.free b3
  have R := hide (And.intro b3 (And.intro h1 (And.intro h3 (And.intro u5 mk5))))
  clear b3 h1 h3 u5 mk5 M4 p0 p1 q0 q1
  go_wp2
  obtain ⟨b3, h1, h3, u5, mk5⟩ := unhide R
  have P := putM b3 (.int .i64 r) (.int .i64 c) (.slice (some ⟨Lb, 0, none⟩) (r * c) (r * c))
  generalize (((w5.setCell ⟨w.heap.size + 1 + 1 + 1, 0, none⟩ (.int .i64 r)).setCell ⟨w.heap.size + 1 + 1 + 1, 1, none⟩ (.int .i64 c)).setCell ⟨w.heap.size + 1 + 1 + 1, 2, none⟩ (.slice (some ⟨Lb, 0, none⟩) (r * c) (r * c))) = wE at *
  have c0 : wE.cell? ⟨w.heap.size + 1 + 1 + 1, 0, none⟩ = some (.int .i64 r) := Blk.cell P.1 0
  have c1 : wE.cell? ⟨w.heap.size + 1 + 1 + 1, 1, none⟩ = some (.int .i64 c) := Blk.cell P.1 1
  have c2 : wE.cell? ⟨w.heap.size + 1 + 1 + 1, 2, none⟩ = some (.slice (some ⟨Lb, 0, none⟩) (r * c) (r * c)) := Blk.cell P.1 2
  refine bodyPost_ret (v := .tuple #[.agg #[.int .i64 r, .int .i64 c, .slice (some ⟨Lb, 0, none⟩) (r * c) (r * c)], .int .i64 0]) (by simp [results, Tryz.results23, go_sem, c0, c1, c2]) rfl ?_
  have hz := unhide Z2
  have hu := unhide lU
  have mw := unhide M2
  have hl' := unhide HL
  subst hl'
  exact ⟨_, _, Lb, rfl, by omega, Or.inr ⟨rfl, Blk.keep h3 P.2 (by omega)⟩, Nat.le_refl _, Blk.keep u5 P.2 (by omega), (mw.trans mk5).new P.2 (by omega)⟩


set_option maxHeartbeats 2000000 in
theorem matReckonM_bad (U Q F : Nat) (c0 : Bool) (n0 : Int) (hn : 0 ≤ n0 ∧ n0 < 1152921504606846976) (R1 C1 R2 C2 : Int) (a1 a2 : Option Addr) (l1 p1 l2 p2 : Nat) (Z : Nat → Int) (hb : ¬ (okM R1 C1 l1 ∧ okM R2 C2 l2 ∧ R1 = R2 ∧ C1 = C2)) (w : World) (h : UC U c0 n0 w) :
    Calls Tryz.prog 23 #[.pointer (some ⟨U, 0, none⟩), .agg #[.int .i64 R1, .int .i64 C1, .slice a1 l1 p1], .agg #[.int .i64 R2, .int .i64 C2, .slice a2 l2 p2], .func (.func F) #[.pointer (some ⟨U, 0, none⟩)] #[]] w fun e w' => MatP 0 0 0 Z 3 (fun w' => UC U c0 n0 w' ∧ Mk U w w') w e w' := by
  have hlt := Blk.lt h
  obtain ⟨G, s5, ba, bb, bo, br, bx⟩ := alloc5 w #[.int .i64 R1, .int .i64 C1, .slice a1 l1 p1] 24 #[.int .i64 R2, .int .i64 C2, .slice a2 l2 p2] 24 #[.func (.func F) #[.pointer (some ⟨U, 0, none⟩)] #[]] 51 #[.int .i64 0, .int .i64 0, .slice none 0 0] 24 #[.int .i64 R1, .int .i64 C1, .slice a1 l1 p1, .int .i64 R2, .int .i64 C2, .slice a2 l2 p2] 24
  have hu := Blk.grown h G
  have lU : Hid (U < w.heap.size) := hlt
  have HB := hide (And.intro ba (And.intro bb br))
  have HG := hide G
  by_cases ho : okM R1 C1 l1 ∧ okM R2 C2 l2
  · have RF := hide (refuse2 U c0 n0 ⟨hn.1, by omega⟩ R1 C1 a1 l1 p1 R2 C2 a2 l2 p2 (w.heap.size + 1 + 1 + 1 + 1) 0 (Or.inl ⟨ho, rfl⟩) _ hu bx (by omega))
    have hne : (R1 != R2) = true ∨ ((R1 != R2) = false ∧ (C1 != C2) = true) := by
      by_cases e1 : R1 = R2
      · refine Or.inr ⟨by simpa using e1, ?_⟩
        simpa using (fun e2 => hb ⟨ho.1, ho.2, e1, e2⟩)
      · exact Or.inl (by simpa using e1)
    clear G s5 ba bb bo br bx h hu hlt hb ho hn
    go_enter Tryz.func23, Tryz.ntmps23
    go_wp2_with fail
    generalize (((((w.alloc (.cells #[.int .i64 R1, .int .i64 C1, .slice a1 l1 p1] 24)).alloc (.cells #[.int .i64 R2, .int .i64 C2, .slice a2 l2 p2] 24)).alloc (.cells #[.func (.func F) #[.pointer (some ⟨U, 0, none⟩)] #[]] 51)).alloc (.cells #[.int .i64 0, .int .i64 0, .slice none 0 0] 24)).alloc (.cells #[.int .i64 R1, .int .i64 C1, .slice a1 l1 p1, .int .i64 R2, .int .i64 C2, .slice a2 l2 p2] 24)) = w1 at *
    refine (unhide RF).mono ?_
    rintro e w2 ⟨rfl, u2, m2⟩
    have b3 := Blk.keep (unhide HB).2.2 m2 (by have := unhide lU; omega)
    have x0 : w2.cell? ⟨w.heap.size, 0, none⟩ = some (.int .i64 R1) := Blk.cell (Blk.keep (unhide HB).1 m2 (by have := unhide lU; omega)) 0
    have x1 : w2.cell? ⟨w.heap.size, 1, none⟩ = some (.int .i64 C1) := Blk.cell (Blk.keep (unhide HB).1 m2 (by have := unhide lU; omega)) 1
    have y0 : w2.cell? ⟨w.heap.size + 1, 0, none⟩ = some (.int .i64 R2) := Blk.cell (Blk.keep (unhide HB).2.1 m2 (by have := unhide lU; omega)) 0
    have y1 : w2.cell? ⟨w.heap.size + 1, 1, none⟩ = some (.int .i64 C2) := Blk.cell (Blk.keep (unhide HB).2.1 m2 (by have := unhide lU; omega)) 1
    have e0 : w2.cell? ⟨w.heap.size + 1 + 1 + 1, 0, none⟩ = some (.int .i64 0) := Blk.cell b3 0
    have e1 : w2.cell? ⟨w.heap.size + 1 + 1 + 1, 1, none⟩ = some (.int .i64 0) := Blk.cell b3 1
    have e2 : w2.cell? ⟨w.heap.size + 1 + 1 + 1, 2, none⟩ = some (.slice none 0 0) := Blk.cell b3 2
    have f := Blk.free b3
    have R := hide (And.intro b3 (And.intro u2 (Mk.of ((Mod.of (unhide HG)).trans m2))))
    clear b3 u2 m2 RF
    rcases hne with hne | ⟨he, hne⟩
    · go_wp2
      obtain ⟨b3, u2, m2⟩ := unhide R
      have P := putM b3 (.int .i64 0) (.int .i64 0) (.slice none 0 0)
      generalize (((w2.setCell ⟨w.heap.size + 1 + 1 + 1, 0, none⟩ (.int .i64 0)).setCell ⟨w.heap.size + 1 + 1 + 1, 1, none⟩ (.int .i64 0)).setCell ⟨w.heap.size + 1 + 1 + 1, 2, none⟩ (.slice none 0 0)) = wE at *
      have c0 : wE.cell? ⟨w.heap.size + 1 + 1 + 1, 0, none⟩ = some (.int .i64 0) := Blk.cell P.1 0
      have c1 : wE.cell? ⟨w.heap.size + 1 + 1 + 1, 1, none⟩ = some (.int .i64 0) := Blk.cell P.1 1
      have c2 : wE.cell? ⟨w.heap.size + 1 + 1 + 1, 2, none⟩ = some (.slice none 0 0) := Blk.cell P.1 2
      refine bodyPost_ret (v := .tuple #[.agg #[.int .i64 0, .int .i64 0, .slice none 0 0], .int .i64 3]) (by simp [results, Tryz.results23, go_sem, c0, c1, c2]) rfl ?_
      exact ⟨none, 0, w.heap.size, rfl, Nat.le_refl _, Or.inl rfl, Nat.le_refl _, Blk.keep u2 P.2 (by have := unhide lU; omega), m2.new P.2 (by omega)⟩
    · go_wp2
      obtain ⟨b3, u2, m2⟩ := unhide R
      have P := putM b3 (.int .i64 0) (.int .i64 0) (.slice none 0 0)
      generalize (((w2.setCell ⟨w.heap.size + 1 + 1 + 1, 0, none⟩ (.int .i64 0)).setCell ⟨w.heap.size + 1 + 1 + 1, 1, none⟩ (.int .i64 0)).setCell ⟨w.heap.size + 1 + 1 + 1, 2, none⟩ (.slice none 0 0)) = wE at *
      have c0 : wE.cell? ⟨w.heap.size + 1 + 1 + 1, 0, none⟩ = some (.int .i64 0) := Blk.cell P.1 0
      have c1 : wE.cell? ⟨w.heap.size + 1 + 1 + 1, 1, none⟩ = some (.int .i64 0) := Blk.cell P.1 1
      have c2 : wE.cell? ⟨w.heap.size + 1 + 1 + 1, 2, none⟩ = some (.slice none 0 0) := Blk.cell P.1 2
      refine bodyPost_ret (v := .tuple #[.agg #[.int .i64 0, .int .i64 0, .slice none 0 0], .int .i64 3]) (by simp [results, Tryz.results23, go_sem, c0, c1, c2]) rfl ?_
      exact ⟨none, 0, w.heap.size, rfl, Nat.le_refl _, Or.inl rfl, Nat.le_refl _, Blk.keep u2 P.2 (by have := unhide lU; omega), m2.new P.2 (by omega)⟩
  · have RF := hide (refuse2 U c0 n0 ⟨hn.1, by omega⟩ R1 C1 a1 l1 p1 R2 C2 a2 l2 p2 (w.heap.size + 1 + 1 + 1 + 1) 3 (Or.inr ⟨ho, rfl⟩) _ hu bx (by omega))
    clear G s5 ba bb bo br bx h hu hlt hb ho hn
    go_enter Tryz.func23, Tryz.ntmps23
    go_wp2_with fail
    generalize (((((w.alloc (.cells #[.int .i64 R1, .int .i64 C1, .slice a1 l1 p1] 24)).alloc (.cells #[.int .i64 R2, .int .i64 C2, .slice a2 l2 p2] 24)).alloc (.cells #[.func (.func F) #[.pointer (some ⟨U, 0, none⟩)] #[]] 51)).alloc (.cells #[.int .i64 0, .int .i64 0, .slice none 0 0] 24)).alloc (.cells #[.int .i64 R1, .int .i64 C1, .slice a1 l1 p1, .int .i64 R2, .int .i64 C2, .slice a2 l2 p2] 24)) = w1 at *
    refine (unhide RF).mono ?_
    rintro e w2 ⟨rfl, u2, m2⟩
    have b3 := Blk.keep (unhide HB).2.2 m2 (by have := unhide lU; omega)
    have e0 : w2.cell? ⟨w.heap.size + 1 + 1 + 1, 0, none⟩ = some (.int .i64 0) := Blk.cell b3 0
    have e1 : w2.cell? ⟨w.heap.size + 1 + 1 + 1, 1, none⟩ = some (.int .i64 0) := Blk.cell b3 1
    have e2 : w2.cell? ⟨w.heap.size + 1 + 1 + 1, 2, none⟩ = some (.slice none 0 0) := Blk.cell b3 2
    have f := Blk.free b3
    have R := hide (And.intro b3 (And.intro u2 (Mk.of ((Mod.of (unhide HG)).trans m2))))
    clear b3 u2 m2 RF
    go_wp2
    obtain ⟨b3, u2, m2⟩ := unhide R
    have P := putM b3 (.int .i64 0) (.int .i64 0) (.slice none 0 0)
    generalize (((w2.setCell ⟨w.heap.size + 1 + 1 + 1, 0, none⟩ (.int .i64 0)).setCell ⟨w.heap.size + 1 + 1 + 1, 1, none⟩ (.int .i64 0)).setCell ⟨w.heap.size + 1 + 1 + 1, 2, none⟩ (.slice none 0 0)) = wE at *
    have c0 : wE.cell? ⟨w.heap.size + 1 + 1 + 1, 0, none⟩ = some (.int .i64 0) := Blk.cell P.1 0
    have c1 : wE.cell? ⟨w.heap.size + 1 + 1 + 1, 1, none⟩ = some (.int .i64 0) := Blk.cell P.1 1
    have c2 : wE.cell? ⟨w.heap.size + 1 + 1 + 1, 2, none⟩ = some (.slice none 0 0) := Blk.cell P.1 2
    refine bodyPost_ret (v := .tuple #[.agg #[.int .i64 0, .int .i64 0, .slice none 0 0], .int .i64 3]) (by simp [results, Tryz.results23, go_sem, c0, c1, c2]) rfl ?_
    exact ⟨none, 0, w.heap.size, rfl, Nat.le_refl _, Or.inl rfl, Nat.le_refl _, Blk.keep u2 P.2 (by have := unhide lU; omega), m2.new P.2 (by omega)⟩

set_option maxHeartbeats 2000000 in
theorem matReckonM_none (p : Option Addr) (Q F : Nat) (R1 C1 R2 C2 : Int) (a1 a2 : Option Addr) (l1 p1 l2 p2 : Nat) (Z : Nat → Int) (w : World) (h : NU p w) :
    Calls Tryz.prog 23 #[.pointer p, .agg #[.int .i64 R1, .int .i64 C1, .slice a1 l1 p1], .agg #[.int .i64 R2, .int .i64 C2, .slice a2 l2 p2], .func (.func F) #[.pointer p] #[]] w fun e w' => MatP 0 0 0 Z 1 (Kp w) w e w' := by
  obtain ⟨G, s5, ba, bb, bo, br, bx⟩ := alloc5 w #[.int .i64 R1, .int .i64 C1, .slice a1 l1 p1] 24 #[.int .i64 R2, .int .i64 C2, .slice a2 l2 p2] 24 #[.func (.func F) #[.pointer p] #[]] 51 #[.int .i64 0, .int .i64 0, .slice none 0 0] 24 #[.int .i64 R1, .int .i64 C1, .slice a1 l1 p1, .int .i64 R2, .int .i64 C2, .slice a2 l2 p2] 24
  have HB := hide br
  have HG := hide G
  have RF := hide (fun s => refuseNone p s _ (h.grown G))
  clear G s5 ba bb bo br bx h
  go_enter Tryz.func23, Tryz.ntmps23
  go_wp2_with fail
  generalize (((((w.alloc (.cells #[.int .i64 R1, .int .i64 C1, .slice a1 l1 p1] 24)).alloc (.cells #[.int .i64 R2, .int .i64 C2, .slice a2 l2 p2] 24)).alloc (.cells #[.func (.func F) #[.pointer p] #[]] 51)).alloc (.cells #[.int .i64 0, .int .i64 0, .slice none 0 0] 24)).alloc (.cells #[.int .i64 R1, .int .i64 C1, .slice a1 l1 p1, .int .i64 R2, .int .i64 C2, .slice a2 l2 p2] 24)) = w1 at *
  refine (unhide RF _).mono ?_
  rintro e w2 ⟨rfl, rfl⟩
  have e0 : w2.cell? ⟨w.heap.size + 1 + 1 + 1, 0, none⟩ = some (.int .i64 0) := Blk.cell (unhide HB) 0
  have e1 : w2.cell? ⟨w.heap.size + 1 + 1 + 1, 1, none⟩ = some (.int .i64 0) := Blk.cell (unhide HB) 1
  have e2 : w2.cell? ⟨w.heap.size + 1 + 1 + 1, 2, none⟩ = some (.slice none 0 0) := Blk.cell (unhide HB) 2
  have f := Blk.free (unhide HB)
  clear RF
  go_wp2
  have b3 := unhide HB
  have P := putM b3 (.int .i64 0) (.int .i64 0) (.slice none 0 0)
  generalize (((w2.setCell ⟨w.heap.size + 1 + 1 + 1, 0, none⟩ (.int .i64 0)).setCell ⟨w.heap.size + 1 + 1 + 1, 1, none⟩ (.int .i64 0)).setCell ⟨w.heap.size + 1 + 1 + 1, 2, none⟩ (.slice none 0 0)) = wE at *
  have c0 : wE.cell? ⟨w.heap.size + 1 + 1 + 1, 0, none⟩ = some (.int .i64 0) := Blk.cell P.1 0
  have c1 : wE.cell? ⟨w.heap.size + 1 + 1 + 1, 1, none⟩ = some (.int .i64 0) := Blk.cell P.1 1
  have c2 : wE.cell? ⟨w.heap.size + 1 + 1 + 1, 2, none⟩ = some (.slice none 0 0) := Blk.cell P.1 2
  refine bodyPost_ret (v := .tuple #[.agg #[.int .i64 0, .int .i64 0, .slice none 0 0], .int .i64 1]) (by simp [results, Tryz.results23, go_sem, c0, c1, c2]) rfl ?_
  exact ⟨none, 0, w.heap.size, rfl, Nat.le_refl _, Or.inl rfl, Nat.le_refl _, (Kp.of (unhide HG)).mod P.2 (by omega)⟩


set_option maxHeartbeats 2000000 in
theorem matReckonP_bad (U Q F : Nat) (c0 : Bool) (n0 : Int) (hn : 0 ≤ n0 ∧ n0 < 1152921504606846976) (R1 C1 R2 C2 : Int) (a1 a2 : Option Addr) (l1 p1 l2 p2 : Nat) (Z : Nat → Int) (hb : ¬ (okM R1 C1 l1 ∧ okM R2 C2 l2 ∧ R1 = R2 ∧ C1 = C2)) (w : World) (h : UC U c0 n0 w) :
    Calls Tryz.prog 23 #[.pointer (some ⟨U, 0, none⟩), .agg #[.int .i64 R1, .int .i64 C1, .slice a1 l1 p1], .agg #[.int .i64 R2, .int .i64 C2, .slice a2 l2 p2], .func (.func F) #[] #[.pointer (some ⟨Q, 0, none⟩)]] w fun e w' => MatP 0 0 0 Z 3 (fun w' => UC U c0 n0 w' ∧ Mk U w w') w e w' := by
  have hlt := Blk.lt h
  obtain ⟨G, s5, ba, bb, bo, br, bx⟩ := alloc5 w #[.int .i64 R1, .int .i64 C1, .slice a1 l1 p1] 24 #[.int .i64 R2, .int .i64 C2, .slice a2 l2 p2] 24 #[.func (.func F) #[] #[.pointer (some ⟨Q, 0, none⟩)]] 51 #[.int .i64 0, .int .i64 0, .slice none 0 0] 24 #[.int .i64 R1, .int .i64 C1, .slice a1 l1 p1, .int .i64 R2, .int .i64 C2, .slice a2 l2 p2] 24
  have hu := Blk.grown h G
  have lU : Hid (U < w.heap.size) := hlt
  have HB := hide (And.intro ba (And.intro bb br))
  have HG := hide G
  by_cases ho : okM R1 C1 l1 ∧ okM R2 C2 l2
  · have RF := hide (refuse2 U c0 n0 ⟨hn.1, by omega⟩ R1 C1 a1 l1 p1 R2 C2 a2 l2 p2 (w.heap.size + 1 + 1 + 1 + 1) 0 (Or.inl ⟨ho, rfl⟩) _ hu bx (by omega))
    have hne : (R1 != R2) = true ∨ ((R1 != R2) = false ∧ (C1 != C2) = true) := by
      by_cases e1 : R1 = R2
      · refine Or.inr ⟨by simpa using e1, ?_⟩
        simpa using (fun e2 => hb ⟨ho.1, ho.2, e1, e2⟩)
      · exact Or.inl (by simpa using e1)
    clear G s5 ba bb bo br bx h hu hlt hb ho hn
    go_enter Tryz.func23, Tryz.ntmps23
    go_wp2_with fail
    generalize (((((w.alloc (.cells #[.int .i64 R1, .int .i64 C1, .slice a1 l1 p1] 24)).alloc (.cells #[.int .i64 R2, .int .i64 C2, .slice a2 l2 p2] 24)).alloc (.cells #[.func (.func F) #[] #[.pointer (some ⟨Q, 0, none⟩)]] 51)).alloc (.cells #[.int .i64 0, .int .i64 0, .slice none 0 0] 24)).alloc (.cells #[.int .i64 R1, .int .i64 C1, .slice a1 l1 p1, .int .i64 R2, .int .i64 C2, .slice a2 l2 p2] 24)) = w1 at *
    refine (unhide RF).mono ?_
    rintro e w2 ⟨rfl, u2, m2⟩
    have b3 := Blk.keep (unhide HB).2.2 m2 (by have := unhide lU; omega)
    have x0 : w2.cell? ⟨w.heap.size, 0, none⟩ = some (.int .i64 R1) := Blk.cell (Blk.keep (unhide HB).1 m2 (by have := unhide lU; omega)) 0
    have x1 : w2.cell? ⟨w.heap.size, 1, none⟩ = some (.int .i64 C1) := Blk.cell (Blk.keep (unhide HB).1 m2 (by have := unhide lU; omega)) 1
    have y0 : w2.cell? ⟨w.heap.size + 1, 0, none⟩ = some (.int .i64 R2) := Blk.cell (Blk.keep (unhide HB).2.1 m2 (by have := unhide lU; omega)) 0
    have y1 : w2.cell? ⟨w.heap.size + 1, 1, none⟩ = some (.int .i64 C2) := Blk.cell (Blk.keep (unhide HB).2.1 m2 (by have := unhide lU; omega)) 1
    have e0 : w2.cell? ⟨w.heap.size + 1 + 1 + 1, 0, none⟩ = some (.int .i64 0) := Blk.cell b3 0
    have e1 : w2.cell? ⟨w.heap.size + 1 + 1 + 1, 1, none⟩ = some (.int .i64 0) := Blk.cell b3 1
    have e2 : w2.cell? ⟨w.heap.size + 1 + 1 + 1, 2, none⟩ = some (.slice none 0 0) := Blk.cell b3 2
    have f := Blk.free b3
    have R := hide (And.intro b3 (And.intro u2 (Mk.of ((Mod.of (unhide HG)).trans m2))))
    clear b3 u2 m2 RF
    rcases hne with hne | ⟨he, hne⟩
    · go_wp2
      obtain ⟨b3, u2, m2⟩ := unhide R
      have P := putM b3 (.int .i64 0) (.int .i64 0) (.slice none 0 0)
      generalize (((w2.setCell ⟨w.heap.size + 1 + 1 + 1, 0, none⟩ (.int .i64 0)).setCell ⟨w.heap.size + 1 + 1 + 1, 1, none⟩ (.int .i64 0)).setCell ⟨w.heap.size + 1 + 1 + 1, 2, none⟩ (.slice none 0 0)) = wE at *
      have c0 : wE.cell? ⟨w.heap.size + 1 + 1 + 1, 0, none⟩ = some (.int .i64 0) := Blk.cell P.1 0
      have c1 : wE.cell? ⟨w.heap.size + 1 + 1 + 1, 1, none⟩ = some (.int .i64 0) := Blk.cell P.1 1
      have c2 : wE.cell? ⟨w.heap.size + 1 + 1 + 1, 2, none⟩ = some (.slice none 0 0) := Blk.cell P.1 2
      refine bodyPost_ret (v := .tuple #[.agg #[.int .i64 0, .int .i64 0, .slice none 0 0], .int .i64 3]) (by simp [results, Tryz.results23, go_sem, c0, c1, c2]) rfl ?_
      exact ⟨none, 0, w.heap.size, rfl, Nat.le_refl _, Or.inl rfl, Nat.le_refl _, Blk.keep u2 P.2 (by have := unhide lU; omega), m2.new P.2 (by omega)⟩
    · go_wp2
      obtain ⟨b3, u2, m2⟩ := unhide R
      have P := putM b3 (.int .i64 0) (.int .i64 0) (.slice none 0 0)
      generalize (((w2.setCell ⟨w.heap.size + 1 + 1 + 1, 0, none⟩ (.int .i64 0)).setCell ⟨w.heap.size + 1 + 1 + 1, 1, none⟩ (.int .i64 0)).setCell ⟨w.heap.size + 1 + 1 + 1, 2, none⟩ (.slice none 0 0)) = wE at *
      have c0 : wE.cell? ⟨w.heap.size + 1 + 1 + 1, 0, none⟩ = some (.int .i64 0) := Blk.cell P.1 0
      have c1 : wE.cell? ⟨w.heap.size + 1 + 1 + 1, 1, none⟩ = some (.int .i64 0) := Blk.cell P.1 1
      have c2 : wE.cell? ⟨w.heap.size + 1 + 1 + 1, 2, none⟩ = some (.slice none 0 0) := Blk.cell P.1 2
      refine bodyPost_ret (v := .tuple #[.agg #[.int .i64 0, .int .i64 0, .slice none 0 0], .int .i64 3]) (by simp [results, Tryz.results23, go_sem, c0, c1, c2]) rfl ?_
      exact ⟨none, 0, w.heap.size, rfl, Nat.le_refl _, Or.inl rfl, Nat.le_refl _, Blk.keep u2 P.2 (by have := unhide lU; omega), m2.new P.2 (by omega)⟩
  · have RF := hide (refuse2 U c0 n0 ⟨hn.1, by omega⟩ R1 C1 a1 l1 p1 R2 C2 a2 l2 p2 (w.heap.size + 1 + 1 + 1 + 1) 3 (Or.inr ⟨ho, rfl⟩) _ hu bx (by omega))
    clear G s5 ba bb bo br bx h hu hlt hb ho hn
    go_enter Tryz.func23, Tryz.ntmps23
    go_wp2_with fail
    generalize (((((w.alloc (.cells #[.int .i64 R1, .int .i64 C1, .slice a1 l1 p1] 24)).alloc (.cells #[.int .i64 R2, .int .i64 C2, .slice a2 l2 p2] 24)).alloc (.cells #[.func (.func F) #[] #[.pointer (some ⟨Q, 0, none⟩)]] 51)).alloc (.cells #[.int .i64 0, .int .i64 0, .slice none 0 0] 24)).alloc (.cells #[.int .i64 R1, .int .i64 C1, .slice a1 l1 p1, .int .i64 R2, .int .i64 C2, .slice a2 l2 p2] 24)) = w1 at *
    refine (unhide RF).mono ?_
    rintro e w2 ⟨rfl, u2, m2⟩
    have b3 := Blk.keep (unhide HB).2.2 m2 (by have := unhide lU; omega)
    have e0 : w2.cell? ⟨w.heap.size + 1 + 1 + 1, 0, none⟩ = some (.int .i64 0) := Blk.cell b3 0
    have e1 : w2.cell? ⟨w.heap.size + 1 + 1 + 1, 1, none⟩ = some (.int .i64 0) := Blk.cell b3 1
    have e2 : w2.cell? ⟨w.heap.size + 1 + 1 + 1, 2, none⟩ = some (.slice none 0 0) := Blk.cell b3 2
    have f := Blk.free b3
    have R := hide (And.intro b3 (And.intro u2 (Mk.of ((Mod.of (unhide HG)).trans m2))))
    clear b3 u2 m2 RF
    go_wp2
    obtain ⟨b3, u2, m2⟩ := unhide R
    have P := putM b3 (.int .i64 0) (.int .i64 0) (.slice none 0 0)
    generalize (((w2.setCell ⟨w.heap.size + 1 + 1 + 1, 0, none⟩ (.int .i64 0)).setCell ⟨w.heap.size + 1 + 1 + 1, 1, none⟩ (.int .i64 0)).setCell ⟨w.heap.size + 1 + 1 + 1, 2, none⟩ (.slice none 0 0)) = wE at *
    have c0 : wE.cell? ⟨w.heap.size + 1 + 1 + 1, 0, none⟩ = some (.int .i64 0) := Blk.cell P.1 0
    have c1 : wE.cell? ⟨w.heap.size + 1 + 1 + 1, 1, none⟩ = some (.int .i64 0) := Blk.cell P.1 1
    have c2 : wE.cell? ⟨w.heap.size + 1 + 1 + 1, 2, none⟩ = some (.slice none 0 0) := Blk.cell P.1 2
    refine bodyPost_ret (v := .tuple #[.agg #[.int .i64 0, .int .i64 0, .slice none 0 0], .int .i64 3]) (by simp [results, Tryz.results23, go_sem, c0, c1, c2]) rfl ?_
    exact ⟨none, 0, w.heap.size, rfl, Nat.le_refl _, Or.inl rfl, Nat.le_refl _, Blk.keep u2 P.2 (by have := unhide lU; omega), m2.new P.2 (by omega)⟩

set_option maxHeartbeats 2000000 in
theorem matReckonP_none (p : Option Addr) (Q F : Nat) (R1 C1 R2 C2 : Int) (a1 a2 : Option Addr) (l1 p1 l2 p2 : Nat) (Z : Nat → Int) (w : World) (h : NU p w) :
    Calls Tryz.prog 23 #[.pointer p, .agg #[.int .i64 R1, .int .i64 C1, .slice a1 l1 p1], .agg #[.int .i64 R2, .int .i64 C2, .slice a2 l2 p2], .func (.func F) #[] #[.pointer (some ⟨Q, 0, none⟩)]] w fun e w' => MatP 0 0 0 Z 1 (Kp w) w e w' := by
  obtain ⟨G, s5, ba, bb, bo, br, bx⟩ := alloc5 w #[.int .i64 R1, .int .i64 C1, .slice a1 l1 p1] 24 #[.int .i64 R2, .int .i64 C2, .slice a2 l2 p2] 24 #[.func (.func F) #[] #[.pointer (some ⟨Q, 0, none⟩)]] 51 #[.int .i64 0, .int .i64 0, .slice none 0 0] 24 #[.int .i64 R1, .int .i64 C1, .slice a1 l1 p1, .int .i64 R2, .int .i64 C2, .slice a2 l2 p2] 24
  have HB := hide br
  have HG := hide G
  have RF := hide (fun s => refuseNone p s _ (h.grown G))
  clear G s5 ba bb bo br bx h
  go_enter Tryz.func23, Tryz.ntmps23
  go_wp2_with fail
  generalize (((((w.alloc (.cells #[.int .i64 R1, .int .i64 C1, .slice a1 l1 p1] 24)).alloc (.cells #[.int .i64 R2, .int .i64 C2, .slice a2 l2 p2] 24)).alloc (.cells #[.func (.func F) #[] #[.pointer (some ⟨Q, 0, none⟩)]] 51)).alloc (.cells #[.int .i64 0, .int .i64 0, .slice none 0 0] 24)).alloc (.cells #[.int .i64 R1, .int .i64 C1, .slice a1 l1 p1, .int .i64 R2, .int .i64 C2, .slice a2 l2 p2] 24)) = w1 at *
  refine (unhide RF _).mono ?_
  rintro e w2 ⟨rfl, rfl⟩
  have e0 : w2.cell? ⟨w.heap.size + 1 + 1 + 1, 0, none⟩ = some (.int .i64 0) := Blk.cell (unhide HB) 0
  have e1 : w2.cell? ⟨w.heap.size + 1 + 1 + 1, 1, none⟩ = some (.int .i64 0) := Blk.cell (unhide HB) 1
  have e2 : w2.cell? ⟨w.heap.size + 1 + 1 + 1, 2, none⟩ = some (.slice none 0 0) := Blk.cell (unhide HB) 2
  have f := Blk.free (unhide HB)
  clear RF
  go_wp2
  have b3 := unhide HB
  have P := putM b3 (.int .i64 0) (.int .i64 0) (.slice none 0 0)
  generalize (((w2.setCell ⟨w.heap.size + 1 + 1 + 1, 0, none⟩ (.int .i64 0)).setCell ⟨w.heap.size + 1 + 1 + 1, 1, none⟩ (.int .i64 0)).setCell ⟨w.heap.size + 1 + 1 + 1, 2, none⟩ (.slice none 0 0)) = wE at *
  have c0 : wE.cell? ⟨w.heap.size + 1 + 1 + 1, 0, none⟩ = some (.int .i64 0) := Blk.cell P.1 0
  have c1 : wE.cell? ⟨w.heap.size + 1 + 1 + 1, 1, none⟩ = some (.int .i64 0) := Blk.cell P.1 1
  have c2 : wE.cell? ⟨w.heap.size + 1 + 1 + 1, 2, none⟩ = some (.slice none 0 0) := Blk.cell P.1 2
  refine bodyPost_ret (v := .tuple #[.agg #[.int .i64 0, .int .i64 0, .slice none 0 0], .int .i64 1]) (by simp [results, Tryz.results23, go_sem, c0, c1, c2]) rfl ?_
  exact ⟨none, 0, w.heap.size, rfl, Nat.le_refl _, Or.inl rfl, Nat.le_refl _, (Kp.of (unhide HG)).mod P.2 (by omega)⟩


set_option maxHeartbeats 2000000 in
theorem matSum_ok (U : Nat) (c0 : Bool) (n0 : Int) (hn : 0 ≤ n0 ∧ n0 < 1152921504606846976) (r c b o cap b2 o2 cap2 : Nat) (A B : Nat → Int) (hr : 1 ≤ r ∧ r ≤ 12) (hc : 1 ≤ c ∧ c ≤ 12) (hA : ∀ j, j < r * c → I64 (A j)) (hB : ∀ j, j < r * c → I64 (B j)) (w : World) (h : UC U c0 n0 w)
    (za : ∀ j, j < r * c → w.cell? ⟨b, o + j, none⟩ = some (.int .i64 (A j))) (zb : ∀ j, j < r * c → w.cell? ⟨b2, o2 + j, none⟩ = some (.int .i64 (B j))) (n4 : b ≠ U) (n5 : b2 ≠ U) :
    Calls Tryz.prog 9 #[.pointer (some ⟨U, 0, none⟩), .agg #[.int .i64 r, .int .i64 c, .slice (some ⟨b, o, none⟩) (r * c) cap], .agg #[.int .i64 r, .int .i64 c, .slice (some ⟨b2, o2, none⟩) (r * c) cap2]] w fun e w' => MatP r c (r * c) (fun p => s2N (A p) (B p)) 0 (fun w' => UC U (c0 || orC (fun p => s2C (A p) (B p)) (r * c)) (n0 + 2 * ((r * c : Nat) : Int)) w' ∧ Mk U w w') w e w' := by
  have hlt := Blk.lt h
  obtain ⟨G, s3, x0, x1, x2⟩ := alloc3 w #[.int .i64 r, .int .i64 c, .slice (some ⟨b, o, none⟩) (r * c) cap] 24 #[.int .i64 r, .int .i64 c, .slice (some ⟨b2, o2, none⟩) (r * c) cap2] 24 #[.int .i64 0, .int .i64 0, .slice none 0 0] 24
  have RK := hide (matReckonM U 0 24 (enters_of Tryz.func24 (by kernel_rfl) rfl) s2N s2C 2 (by omega) (fun _ => True) (fun _ _ _ _ => trivial) c0 n0 hn r c b o cap b2 o2 cap2 A B hr hc hA hB _ (Blk.grown h G) trivial (fun cc nn x y wx bo hx hy hnn hbo hu _ hrow => addTwoM U x y cc nn bo 2 wx hx hy hnn hu hrow hbo) (fun j hj => gat G (za j hj)) (fun j hj => gat G (zb j hj)) n4 n5)
  have HB := hide x2
  have HG := hide (And.intro G (And.intro s3 hlt))
  obtain ⟨len, hlen⟩ : ∃ q, r * c = q := ⟨_, rfl⟩
  simp only [hlen] at RK HG HB
  rw [hlen]
  clear G s3 x0 x1 x2 h hlt za zb hA hB hr hc hlen n4 n5 hn
  go_enter Tryz.func9, Tryz.ntmps9
  go_wp2_with fail
  generalize (((w.alloc (.cells #[.int .i64 r, .int .i64 c, .slice (some ⟨b, o, none⟩) len cap] 24)).alloc (.cells #[.int .i64 r, .int .i64 c, .slice (some ⟨b2, o2, none⟩) len cap2] 24)).alloc (.cells #[.int .i64 0, .int .i64 0, .slice none 0 0] 24)) = w1 at *
  refine (unhide RK).mono ?_
  rintro e w5 ⟨ao, cp, Lb, rfl, h1, h3, h4, u5, mk5⟩
  have lU : Hid (U < w.heap.size) := (unhide HG).2.2
  have b3 : Blk (w.heap.size + 1 + 1) #[.int .i64 0, .int .i64 0, .slice none 0 0] 24 w5 := Blk.mk (unhide HB) mk5 (by have := unhide lU; omega)
  have e0 : w5.cell? ⟨w.heap.size + 1 + 1, 0, none⟩ = some (.int .i64 0) := Blk.cell b3 0
  have e1 : w5.cell? ⟨w.heap.size + 1 + 1, 1, none⟩ = some (.int .i64 0) := Blk.cell b3 1
  have e2 : w5.cell? ⟨w.heap.size + 1 + 1, 2, none⟩ = some (.slice none 0 0) := Blk.cell b3 2
  have f := Blk.free b3
  have R := hide (And.intro b3 (And.intro h1 (And.intro h3 (And.intro h4 (And.intro u5 mk5)))))
  clear b3 h1 h3 h4 u5 mk5 RK
  go_wp2
  obtain ⟨b3, h1, h3, h4, u5, mk5⟩ := unhide R
  have P := putM b3 (.int .i64 r) (.int .i64 c) (.slice ao len cp)
  generalize (((w5.setCell ⟨w.heap.size + 1 + 1, 0, none⟩ (.int .i64 r)).setCell ⟨w.heap.size + 1 + 1, 1, none⟩ (.int .i64 c)).setCell ⟨w.heap.size + 1 + 1, 2, none⟩ (.slice ao len cp)) = wE at *
  have c0 : wE.cell? ⟨w.heap.size + 1 + 1, 0, none⟩ = some (.int .i64 r) := Blk.cell P.1 0
  have c1 : wE.cell? ⟨w.heap.size + 1 + 1, 1, none⟩ = some (.int .i64 c) := Blk.cell P.1 1
  have c2 : wE.cell? ⟨w.heap.size + 1 + 1, 2, none⟩ = some (.slice ao len cp) := Blk.cell P.1 2
  refine bodyPost_ret (v := .tuple #[.agg #[.int .i64 r, .int .i64 c, .slice ao len cp], .int .i64 0]) (by simp [results, Tryz.results9, go_sem, c0, c1, c2]) rfl ?_
  have hu := unhide lU
  have hs := (unhide HG).2.1
  have mw : Mk U w w5 := (Mk.of (Mod.of (unhide HG).1)).trans mk5
  exact ⟨_, _, Lb, rfl, by omega, h3.imp id (fun h => ⟨h.1, Blk.keep h.2 P.2 (by omega)⟩), h4, Blk.keep u5 P.2 (by omega), mw.new P.2 (by omega)⟩

set_option maxHeartbeats 2000000 in
theorem matSum_bad (U : Nat) (c0 : Bool) (n0 : Int) (hn : 0 ≤ n0 ∧ n0 < 1152921504606846976) (R1 C1 R2 C2 : Int) (a1 a2 : Option Addr) (l1 p1 l2 p2 : Nat) (Z : Nat → Int) (hb : ¬ (okM R1 C1 l1 ∧ okM R2 C2 l2 ∧ R1 = R2 ∧ C1 = C2)) (w : World) (h : UC U c0 n0 w) :
    Calls Tryz.prog 9 #[.pointer (some ⟨U, 0, none⟩), .agg #[.int .i64 R1, .int .i64 C1, .slice a1 l1 p1], .agg #[.int .i64 R2, .int .i64 C2, .slice a2 l2 p2]] w fun e w' => MatP 0 0 0 Z 3 (fun w' => UC U c0 n0 w' ∧ Mk U w w') w e w' := by
  have hlt := Blk.lt h
  obtain ⟨G, s3, x0, x1, x2⟩ := alloc3 w #[.int .i64 R1, .int .i64 C1, .slice a1 l1 p1] 24 #[.int .i64 R2, .int .i64 C2, .slice a2 l2 p2] 24 #[.int .i64 0, .int .i64 0, .slice none 0 0] 24
  have RK := hide (matReckonM_bad U 0 24 c0 n0 hn R1 C1 R2 C2 a1 a2 l1 p1 l2 p2 Z hb _ (Blk.grown h G))
  have HB := hide x2
  have HG := hide (And.intro G (And.intro s3 hlt))
  clear G s3 x0 x1 x2 h hlt hb hn
  go_enter Tryz.func9, Tryz.ntmps9
  go_wp2_with fail
  generalize (((w.alloc (.cells #[.int .i64 R1, .int .i64 C1, .slice a1 l1 p1] 24)).alloc (.cells #[.int .i64 R2, .int .i64 C2, .slice a2 l2 p2] 24)).alloc (.cells #[.int .i64 0, .int .i64 0, .slice none 0 0] 24)) = w1 at *
  refine (unhide RK).mono ?_
  rintro e w5 ⟨ao, cp, Lb, rfl, h1, h3, h4, u5, mk5⟩
  have lU : Hid (U < w.heap.size) := (unhide HG).2.2
  have b3 : Blk (w.heap.size + 1 + 1) #[.int .i64 0, .int .i64 0, .slice none 0 0] 24 w5 := Blk.mk (unhide HB) mk5 (by have := unhide lU; omega)
  have e0 : w5.cell? ⟨w.heap.size + 1 + 1, 0, none⟩ = some (.int .i64 0) := Blk.cell b3 0
  have e1 : w5.cell? ⟨w.heap.size + 1 + 1, 1, none⟩ = some (.int .i64 0) := Blk.cell b3 1
  have e2 : w5.cell? ⟨w.heap.size + 1 + 1, 2, none⟩ = some (.slice none 0 0) := Blk.cell b3 2
  have f := Blk.free b3
  have R := hide (And.intro b3 (And.intro h1 (And.intro h3 (And.intro h4 (And.intro u5 mk5)))))
  clear b3 h1 h3 h4 u5 mk5 RK
  go_wp2
  obtain ⟨b3, h1, h3, h4, u5, mk5⟩ := unhide R
  have P := putM b3 (.int .i64 0) (.int .i64 0) (.slice ao 0 cp)
  generalize (((w5.setCell ⟨w.heap.size + 1 + 1, 0, none⟩ (.int .i64 0)).setCell ⟨w.heap.size + 1 + 1, 1, none⟩ (.int .i64 0)).setCell ⟨w.heap.size + 1 + 1, 2, none⟩ (.slice ao 0 cp)) = wE at *
  have c0 : wE.cell? ⟨w.heap.size + 1 + 1, 0, none⟩ = some (.int .i64 0) := Blk.cell P.1 0
  have c1 : wE.cell? ⟨w.heap.size + 1 + 1, 1, none⟩ = some (.int .i64 0) := Blk.cell P.1 1
  have c2 : wE.cell? ⟨w.heap.size + 1 + 1, 2, none⟩ = some (.slice ao 0 cp) := Blk.cell P.1 2
  refine bodyPost_ret (v := .tuple #[.agg #[.int .i64 0, .int .i64 0, .slice ao 0 cp], .int .i64 3]) (by simp [results, Tryz.results9, go_sem, c0, c1, c2]) rfl ?_
  have hu := unhide lU
  have mw : Mk U w w5 := (Mk.of (Mod.of (unhide HG).1)).trans mk5
  exact ⟨_, _, w.heap.size, rfl, Nat.le_refl _, Or.inl rfl, Nat.zero_le _, Blk.keep u5 P.2 (by omega), mw.new P.2 (by omega)⟩

set_option maxHeartbeats 2000000 in
theorem matSum_none (p : Option Addr) (R1 C1 R2 C2 : Int) (a1 a2 : Option Addr) (l1 p1 l2 p2 : Nat) (Z : Nat → Int) (w : World) (h : NU p w) :
    Calls Tryz.prog 9 #[.pointer p, .agg #[.int .i64 R1, .int .i64 C1, .slice a1 l1 p1], .agg #[.int .i64 R2, .int .i64 C2, .slice a2 l2 p2]] w fun e w' => MatP 0 0 0 Z 1 (Kp w) w e w' := by
  obtain ⟨G, s3, x0, x1, x2⟩ := alloc3 w #[.int .i64 R1, .int .i64 C1, .slice a1 l1 p1] 24 #[.int .i64 R2, .int .i64 C2, .slice a2 l2 p2] 24 #[.int .i64 0, .int .i64 0, .slice none 0 0] 24
  have RK := hide (matReckonM_none p 0 24 R1 C1 R2 C2 a1 a2 l1 p1 l2 p2 Z _ (h.grown G))
  have HB := hide x2
  have HG := hide G
  clear G s3 x0 x1 x2 h
  go_enter Tryz.func9, Tryz.ntmps9
  go_wp2_with fail
  generalize (((w.alloc (.cells #[.int .i64 R1, .int .i64 C1, .slice a1 l1 p1] 24)).alloc (.cells #[.int .i64 R2, .int .i64 C2, .slice a2 l2 p2] 24)).alloc (.cells #[.int .i64 0, .int .i64 0, .slice none 0 0] 24)) = w1 at *
  refine (unhide RK).mono ?_
  rintro e w5 ⟨ao, cp, Lb, rfl, h1, h3, h4, k5⟩
  have b3 : Blk (w.heap.size + 1 + 1) #[.int .i64 0, .int .i64 0, .slice none 0 0] 24 w5 := Blk.kp (unhide HB) k5
  have e0 : w5.cell? ⟨w.heap.size + 1 + 1, 0, none⟩ = some (.int .i64 0) := Blk.cell b3 0
  have e1 : w5.cell? ⟨w.heap.size + 1 + 1, 1, none⟩ = some (.int .i64 0) := Blk.cell b3 1
  have e2 : w5.cell? ⟨w.heap.size + 1 + 1, 2, none⟩ = some (.slice none 0 0) := Blk.cell b3 2
  have f := Blk.free b3
  have R := hide (And.intro b3 k5)
  clear b3 h1 h3 h4 k5 RK
  go_wp2
  obtain ⟨b3, k5⟩ := unhide R
  have P := putM b3 (.int .i64 0) (.int .i64 0) (.slice ao 0 cp)
  generalize (((w5.setCell ⟨w.heap.size + 1 + 1, 0, none⟩ (.int .i64 0)).setCell ⟨w.heap.size + 1 + 1, 1, none⟩ (.int .i64 0)).setCell ⟨w.heap.size + 1 + 1, 2, none⟩ (.slice ao 0 cp)) = wE at *
  have c0 : wE.cell? ⟨w.heap.size + 1 + 1, 0, none⟩ = some (.int .i64 0) := Blk.cell P.1 0
  have c1 : wE.cell? ⟨w.heap.size + 1 + 1, 1, none⟩ = some (.int .i64 0) := Blk.cell P.1 1
  have c2 : wE.cell? ⟨w.heap.size + 1 + 1, 2, none⟩ = some (.slice ao 0 cp) := Blk.cell P.1 2
  refine bodyPost_ret (v := .tuple #[.agg #[.int .i64 0, .int .i64 0, .slice ao 0 cp], .int .i64 1]) (by simp [results, Tryz.results9, go_sem, c0, c1, c2]) rfl ?_
  exact ⟨_, _, w.heap.size, rfl, Nat.le_refl _, Or.inl rfl, Nat.zero_le _, ((Kp.of (unhide HG)).trans k5).mod P.2 (by omega)⟩


set_option maxHeartbeats 2000000 in
theorem matLess_ok (U : Nat) (c0 : Bool) (n0 : Int) (hn : 0 ≤ n0 ∧ n0 < 1152921504606846976) (r c b o cap b2 o2 cap2 : Nat) (A B : Nat → Int) (hr : 1 ≤ r ∧ r ≤ 12) (hc : 1 ≤ c ∧ c ≤ 12) (hA : ∀ j, j < r * c → I64 (A j)) (hB : ∀ j, j < r * c → I64 (B j)) (w : World) (h : UC U c0 n0 w)
    (za : ∀ j, j < r * c → w.cell? ⟨b, o + j, none⟩ = some (.int .i64 (A j))) (zb : ∀ j, j < r * c → w.cell? ⟨b2, o2 + j, none⟩ = some (.int .i64 (B j))) (n4 : b ≠ U) (n5 : b2 ≠ U) :
    Calls Tryz.prog 11 #[.pointer (some ⟨U, 0, none⟩), .agg #[.int .i64 r, .int .i64 c, .slice (some ⟨b, o, none⟩) (r * c) cap], .agg #[.int .i64 r, .int .i64 c, .slice (some ⟨b2, o2, none⟩) (r * c) cap2]] w fun e w' => MatP r c (r * c) (fun p => subN (A p) (B p)) 0 (fun w' => UC U (c0 || orC (fun p => subC (A p) (B p)) (r * c)) (n0 + 1 * ((r * c : Nat) : Int)) w' ∧ Mk U w w') w e w' := by
  have hlt := Blk.lt h
  obtain ⟨G, s4, x0, x1, x2, x3⟩ := alloc4 w #[.pointer (some ⟨U, 0, none⟩)] 25 #[.int .i64 r, .int .i64 c, .slice (some ⟨b, o, none⟩) (r * c) cap] 24 #[.int .i64 r, .int .i64 c, .slice (some ⟨b2, o2, none⟩) (r * c) cap2] 24 #[.int .i64 0, .int .i64 0, .slice none 0 0] 24
  have RK := hide (matReckonP U w.heap.size 27 (enters_of Tryz.func27 (by kernel_rfl) rfl) subN subC 1 (by omega) (fun wx => Blk w.heap.size #[.pointer (some ⟨U, 0, none⟩)] 25 wx) (fun a b ia m => Blk.mk ia m (by omega)) c0 n0 hn r c b o cap b2 o2 cap2 A B hr hc hA hB _ (Blk.grown h G) x0 (fun cc nn x y wx bo hx hy hnn hbo hu hi hrow => less1 U w.heap.size bo x y hx hy cc nn hnn wx hu hi (by omega) hbo hrow) (fun j hj => gat G (za j hj)) (fun j hj => gat G (zb j hj)) n4 n5)
  have HB := hide x3
  have HG := hide (And.intro G (And.intro s4 hlt))
  obtain ⟨len, hlen⟩ : ∃ q, r * c = q := ⟨_, rfl⟩
  simp only [hlen] at RK HG HB
  rw [hlen]
  clear G s4 x0 x1 x2 x3 h hlt za zb hA hB hr hc hlen n4 n5 hn
  go_enter Tryz.func11, Tryz.ntmps11
  go_wp2_with fail
  generalize ((((w.alloc (.cells #[.pointer (some ⟨U, 0, none⟩)] 25)).alloc (.cells #[.int .i64 r, .int .i64 c, .slice (some ⟨b, o, none⟩) len cap] 24)).alloc (.cells #[.int .i64 r, .int .i64 c, .slice (some ⟨b2, o2, none⟩) len cap2] 24)).alloc (.cells #[.int .i64 0, .int .i64 0, .slice none 0 0] 24)) = w1 at *
  refine (unhide RK).mono ?_
  rintro e w5 ⟨ao, cp, Lb, rfl, h1, h3, h4, u5, mk5⟩
  have lU : Hid (U < w.heap.size) := (unhide HG).2.2
  have b3 : Blk (w.heap.size + 1 + 1 + 1) #[.int .i64 0, .int .i64 0, .slice none 0 0] 24 w5 := Blk.mk (unhide HB) mk5 (by have := unhide lU; omega)
  have e0 : w5.cell? ⟨w.heap.size + 1 + 1 + 1, 0, none⟩ = some (.int .i64 0) := Blk.cell b3 0
  have e1 : w5.cell? ⟨w.heap.size + 1 + 1 + 1, 1, none⟩ = some (.int .i64 0) := Blk.cell b3 1
  have e2 : w5.cell? ⟨w.heap.size + 1 + 1 + 1, 2, none⟩ = some (.slice none 0 0) := Blk.cell b3 2
  have f := Blk.free b3
  have R := hide (And.intro b3 (And.intro h1 (And.intro h3 (And.intro h4 (And.intro u5 mk5)))))
  clear b3 h1 h3 h4 u5 mk5 RK
  go_wp2
  obtain ⟨b3, h1, h3, h4, u5, mk5⟩ := unhide R
  have P := putM b3 (.int .i64 r) (.int .i64 c) (.slice ao len cp)
  generalize (((w5.setCell ⟨w.heap.size + 1 + 1 + 1, 0, none⟩ (.int .i64 r)).setCell ⟨w.heap.size + 1 + 1 + 1, 1, none⟩ (.int .i64 c)).setCell ⟨w.heap.size + 1 + 1 + 1, 2, none⟩ (.slice ao len cp)) = wE at *
  have c0 : wE.cell? ⟨w.heap.size + 1 + 1 + 1, 0, none⟩ = some (.int .i64 r) := Blk.cell P.1 0
  have c1 : wE.cell? ⟨w.heap.size + 1 + 1 + 1, 1, none⟩ = some (.int .i64 c) := Blk.cell P.1 1
  have c2 : wE.cell? ⟨w.heap.size + 1 + 1 + 1, 2, none⟩ = some (.slice ao len cp) := Blk.cell P.1 2
  refine bodyPost_ret (v := .tuple #[.agg #[.int .i64 r, .int .i64 c, .slice ao len cp], .int .i64 0]) (by simp [results, Tryz.results11, go_sem, c0, c1, c2]) rfl ?_
  have hu := unhide lU
  have hs := (unhide HG).2.1
  have mw : Mk U w w5 := (Mk.of (Mod.of (unhide HG).1)).trans mk5
  exact ⟨_, _, Lb, rfl, by omega, h3.imp id (fun h => ⟨h.1, Blk.keep h.2 P.2 (by omega)⟩), h4, Blk.keep u5 P.2 (by omega), mw.new P.2 (by omega)⟩

set_option maxHeartbeats 2000000 in
theorem matLess_bad (U : Nat) (c0 : Bool) (n0 : Int) (hn : 0 ≤ n0 ∧ n0 < 1152921504606846976) (R1 C1 R2 C2 : Int) (a1 a2 : Option Addr) (l1 p1 l2 p2 : Nat) (Z : Nat → Int) (hb : ¬ (okM R1 C1 l1 ∧ okM R2 C2 l2 ∧ R1 = R2 ∧ C1 = C2)) (w : World) (h : UC U c0 n0 w) :
    Calls Tryz.prog 11 #[.pointer (some ⟨U, 0, none⟩), .agg #[.int .i64 R1, .int .i64 C1, .slice a1 l1 p1], .agg #[.int .i64 R2, .int .i64 C2, .slice a2 l2 p2]] w fun e w' => MatP 0 0 0 Z 3 (fun w' => UC U c0 n0 w' ∧ Mk U w w') w e w' := by
  have hlt := Blk.lt h
  obtain ⟨G, s4, x0, x1, x2, x3⟩ := alloc4 w #[.pointer (some ⟨U, 0, none⟩)] 25 #[.int .i64 R1, .int .i64 C1, .slice a1 l1 p1] 24 #[.int .i64 R2, .int .i64 C2, .slice a2 l2 p2] 24 #[.int .i64 0, .int .i64 0, .slice none 0 0] 24
  have RK := hide (matReckonP_bad U w.heap.size 27 c0 n0 hn R1 C1 R2 C2 a1 a2 l1 p1 l2 p2 Z hb _ (Blk.grown h G))
  have HB := hide x3
  have HG := hide (And.intro G (And.intro s4 hlt))
  clear G s4 x0 x1 x2 x3 h hlt hb hn
  go_enter Tryz.func11, Tryz.ntmps11
  go_wp2_with fail
  generalize ((((w.alloc (.cells #[.pointer (some ⟨U, 0, none⟩)] 25)).alloc (.cells #[.int .i64 R1, .int .i64 C1, .slice a1 l1 p1] 24)).alloc (.cells #[.int .i64 R2, .int .i64 C2, .slice a2 l2 p2] 24)).alloc (.cells #[.int .i64 0, .int .i64 0, .slice none 0 0] 24)) = w1 at *
  refine (unhide RK).mono ?_
  rintro e w5 ⟨ao, cp, Lb, rfl, h1, h3, h4, u5, mk5⟩
  have lU : Hid (U < w.heap.size) := (unhide HG).2.2
  have b3 : Blk (w.heap.size + 1 + 1 + 1) #[.int .i64 0, .int .i64 0, .slice none 0 0] 24 w5 := Blk.mk (unhide HB) mk5 (by have := unhide lU; omega)
  have e0 : w5.cell? ⟨w.heap.size + 1 + 1 + 1, 0, none⟩ = some (.int .i64 0) := Blk.cell b3 0
  have e1 : w5.cell? ⟨w.heap.size + 1 + 1 + 1, 1, none⟩ = some (.int .i64 0) := Blk.cell b3 1
  have e2 : w5.cell? ⟨w.heap.size + 1 + 1 + 1, 2, none⟩ = some (.slice none 0 0) := Blk.cell b3 2
  have f := Blk.free b3
  have R := hide (And.intro b3 (And.intro h1 (And.intro h3 (And.intro h4 (And.intro u5 mk5)))))
  clear b3 h1 h3 h4 u5 mk5 RK
  go_wp2
  obtain ⟨b3, h1, h3, h4, u5, mk5⟩ := unhide R
  have P := putM b3 (.int .i64 0) (.int .i64 0) (.slice ao 0 cp)
  generalize (((w5.setCell ⟨w.heap.size + 1 + 1 + 1, 0, none⟩ (.int .i64 0)).setCell ⟨w.heap.size + 1 + 1 + 1, 1, none⟩ (.int .i64 0)).setCell ⟨w.heap.size + 1 + 1 + 1, 2, none⟩ (.slice ao 0 cp)) = wE at *
  have c0 : wE.cell? ⟨w.heap.size + 1 + 1 + 1, 0, none⟩ = some (.int .i64 0) := Blk.cell P.1 0
  have c1 : wE.cell? ⟨w.heap.size + 1 + 1 + 1, 1, none⟩ = some (.int .i64 0) := Blk.cell P.1 1
  have c2 : wE.cell? ⟨w.heap.size + 1 + 1 + 1, 2, none⟩ = some (.slice ao 0 cp) := Blk.cell P.1 2
  refine bodyPost_ret (v := .tuple #[.agg #[.int .i64 0, .int .i64 0, .slice ao 0 cp], .int .i64 3]) (by simp [results, Tryz.results11, go_sem, c0, c1, c2]) rfl ?_
  have hu := unhide lU
  have mw : Mk U w w5 := (Mk.of (Mod.of (unhide HG).1)).trans mk5
  exact ⟨_, _, w.heap.size, rfl, Nat.le_refl _, Or.inl rfl, Nat.zero_le _, Blk.keep u5 P.2 (by omega), mw.new P.2 (by omega)⟩

set_option maxHeartbeats 2000000 in
theorem matLess_none (p : Option Addr) (R1 C1 R2 C2 : Int) (a1 a2 : Option Addr) (l1 p1 l2 p2 : Nat) (Z : Nat → Int) (w : World) (h : NU p w) :
    Calls Tryz.prog 11 #[.pointer p, .agg #[.int .i64 R1, .int .i64 C1, .slice a1 l1 p1], .agg #[.int .i64 R2, .int .i64 C2, .slice a2 l2 p2]] w fun e w' => MatP 0 0 0 Z 1 (Kp w) w e w' := by
  obtain ⟨G, s4, x0, x1, x2, x3⟩ := alloc4 w #[.pointer p] 25 #[.int .i64 R1, .int .i64 C1, .slice a1 l1 p1] 24 #[.int .i64 R2, .int .i64 C2, .slice a2 l2 p2] 24 #[.int .i64 0, .int .i64 0, .slice none 0 0] 24
  have RK := hide (matReckonP_none p w.heap.size 27 R1 C1 R2 C2 a1 a2 l1 p1 l2 p2 Z _ (h.grown G))
  have HB := hide x3
  have HG := hide G
  clear G s4 x0 x1 x2 x3 h
  go_enter Tryz.func11, Tryz.ntmps11
  go_wp2_with fail
  generalize ((((w.alloc (.cells #[.pointer p] 25)).alloc (.cells #[.int .i64 R1, .int .i64 C1, .slice a1 l1 p1] 24)).alloc (.cells #[.int .i64 R2, .int .i64 C2, .slice a2 l2 p2] 24)).alloc (.cells #[.int .i64 0, .int .i64 0, .slice none 0 0] 24)) = w1 at *
  refine (unhide RK).mono ?_
  rintro e w5 ⟨ao, cp, Lb, rfl, h1, h3, h4, k5⟩
  have b3 : Blk (w.heap.size + 1 + 1 + 1) #[.int .i64 0, .int .i64 0, .slice none 0 0] 24 w5 := Blk.kp (unhide HB) k5
  have e0 : w5.cell? ⟨w.heap.size + 1 + 1 + 1, 0, none⟩ = some (.int .i64 0) := Blk.cell b3 0
  have e1 : w5.cell? ⟨w.heap.size + 1 + 1 + 1, 1, none⟩ = some (.int .i64 0) := Blk.cell b3 1
  have e2 : w5.cell? ⟨w.heap.size + 1 + 1 + 1, 2, none⟩ = some (.slice none 0 0) := Blk.cell b3 2
  have f := Blk.free b3
  have R := hide (And.intro b3 k5)
  clear b3 h1 h3 h4 k5 RK
  go_wp2
  obtain ⟨b3, k5⟩ := unhide R
  have P := putM b3 (.int .i64 0) (.int .i64 0) (.slice ao 0 cp)
  generalize (((w5.setCell ⟨w.heap.size + 1 + 1 + 1, 0, none⟩ (.int .i64 0)).setCell ⟨w.heap.size + 1 + 1 + 1, 1, none⟩ (.int .i64 0)).setCell ⟨w.heap.size + 1 + 1 + 1, 2, none⟩ (.slice ao 0 cp)) = wE at *
  have c0 : wE.cell? ⟨w.heap.size + 1 + 1 + 1, 0, none⟩ = some (.int .i64 0) := Blk.cell P.1 0
  have c1 : wE.cell? ⟨w.heap.size + 1 + 1 + 1, 1, none⟩ = some (.int .i64 0) := Blk.cell P.1 1
  have c2 : wE.cell? ⟨w.heap.size + 1 + 1 + 1, 2, none⟩ = some (.slice ao 0 cp) := Blk.cell P.1 2
  refine bodyPost_ret (v := .tuple #[.agg #[.int .i64 0, .int .i64 0, .slice ao 0 cp], .int .i64 1]) (by simp [results, Tryz.results11, go_sem, c0, c1, c2]) rfl ?_
  exact ⟨_, _, w.heap.size, rfl, Nat.le_refl _, Or.inl rfl, Nat.zero_le _, ((Kp.of (unhide HG)).trans k5).mod P.2 (by omega)⟩


set_option maxHeartbeats 2000000 in
theorem matScale_ok (U : Nat) (c0 : Bool) (n0 s : Int) (hs : I64 s) (hn : 0 ≤ n0 ∧ n0 < 1152921504606846976) (r c b o cap : Nat) (A : Nat → Int) (hr : 1 ≤ r ∧ r ≤ 12) (hc : 1 ≤ c ∧ c ≤ 12) (hA : ∀ j, j < r * c → I64 (A j)) (w : World) (h : UC U c0 n0 w) (za : ∀ j, j < r * c → w.cell? ⟨b, o + j, none⟩ = some (.int .i64 (A j))) (n4 : b ≠ U) :
    Calls Tryz.prog 13 #[.pointer (some ⟨U, 0, none⟩), .agg #[.int .i64 r, .int .i64 c, .slice (some ⟨b, o, none⟩) (r * c) cap], .int .i64 s] w fun e w' => MatP r c (r * c) (fun p => m2N (A p) s) 0 (fun w' => UC U (c0 || orC (fun p => m2C (A p) s) (r * c)) (n0 + 2 * ((r * c : Nat) : Int)) w' ∧ Mk U w w') w e w' := by
  have hlt := Blk.lt h
  obtain ⟨G, s5, bu, ba, bs, br, bx⟩ := alloc5 w #[.pointer (some ⟨U, 0, none⟩)] 25 #[.int .i64 r, .int .i64 c, .slice (some ⟨b, o, none⟩) (r * c) cap] 24 #[.int .i64 s] 3 #[.int .i64 0, .int .i64 0, .slice none 0 0] 24 #[.int .i64 r, .int .i64 c, .slice (some ⟨b, o, none⟩) (r * c) cap] 24
  have RF := hide (refuse1 U c0 n0 ⟨hn.1, by omega⟩ r c (some ⟨b, o, none⟩) (r * c) cap (w.heap.size + 1 + 1 + 1 + 1) 0 (Or.inl ⟨⟨by omega, by omega, by rw [Int.natCast_mul]⟩, rfl⟩) _ (Blk.grown h G) bx (by omega))
  have MD : Hid (∀ wx, Mk U w wx → UC U c0 n0 wx → Blk w.heap.size #[.pointer (some ⟨U, 0, none⟩)] 25 wx → Blk (w.heap.size + 1) #[.int .i64 r, .int .i64 c, .slice (some ⟨b, o, none⟩) (r * c) cap] 24 wx → Blk (w.heap.size + 1 + 1) #[.int .i64 s] 3 wx →
      Calls Tryz.prog 31 #[.int .i64 r, .int .i64 c, .func (.func 32) #[] #[.pointer (some ⟨w.heap.size, 0, none⟩), .pointer (some ⟨w.heap.size + 1, 0, none⟩), .pointer (some ⟨w.heap.size + 1 + 1, 0, none⟩)]] wx fun e w' => MadeP r c (fun p => m2N (A p) s) (fun w' => UC U (c0 || orC (fun p => m2C (A p) s) (r * c)) (n0 + 2 * ((r * c : Nat) : Int)) w' ∧ Mk U wx w') wx e w') := by
    intro wx mx ux xu xa xs
    refine madeU U c0 n0 2 (by omega) (fun p => m2C (A p) s) 32 (enters_of Tryz.func32 (by kernel_rfl) rfl) _ r c hr hc (fun p => m2N (A p) s) wx hn ux (fun cc nn i k a hi hk hnn ua ma => ?_)
    exact scale1 U cc nn hnn r c i k b o cap w.heap.size (w.heap.size + 1) (w.heap.size + 1 + 1) s A hr hc hi hk hs hA a ua (Blk.mk xu ma (by omega)) (Blk.mk xa ma (by omega)) (Blk.mk xs ma (by omega)) (fun j hj => ma.cell (mx.cell (za j hj) n4) n4) (by omega) (by omega) (by omega) n4
  have HB := hide (And.intro bu (And.intro ba (And.intro bs br)))
  have HG := hide (And.intro G (And.intro s5 hlt))
  obtain ⟨len, hlen⟩ : ∃ q, r * c = q := ⟨_, rfl⟩
  simp only [hlen] at RF HG HB MD
  rw [hlen]
  have HL := hide hlen
  clear G s5 bu ba bs br bx h hlt za hA hr hc hlen n4 hn hs
  go_enter Tryz.func13, Tryz.ntmps13
  go_wp2_with fail
  generalize (((((w.alloc (.cells #[.pointer (some ⟨U, 0, none⟩)] 25)).alloc (.cells #[.int .i64 r, .int .i64 c, .slice (some ⟨b, o, none⟩) len cap] 24)).alloc (.cells #[.int .i64 s] 3)).alloc (.cells #[.int .i64 0, .int .i64 0, .slice none 0 0] 24)).alloc (.cells #[.int .i64 r, .int .i64 c, .slice (some ⟨b, o, none⟩) len cap] 24)) = w1 at *
  refine (unhide RF).mono ?_
  rintro e w2 ⟨rfl, u2, m2⟩
  have M2 : Hid (Mk U w w2) := Mk.of ((Mod.of (unhide HG).1).trans m2)
  have Z2 : Hid (w.heap.size + 1 + 1 + 1 + 1 + 1 ≤ w2.heap.size) := by have := (unhide HG).2.1; have := m2.2.2.2.2; show _ ≤ _; omega
  obtain ⟨bu, ba, bs, br⟩ := unhide HB
  have lU : Hid (U < w.heap.size) := (unhide HG).2.2
  have bu2 := Blk.keep bu m2 (by have := unhide lU; omega)
  have ba2 := Blk.keep ba m2 (by have := unhide lU; omega)
  have bs2 := Blk.keep bs m2 (by have := unhide lU; omega)
  have br2 := Blk.keep br m2 (by have := unhide lU; omega)
  have p0 : w2.cell? ⟨w.heap.size + 1, 0, none⟩ = some (.int .i64 r) := Blk.cell ba2 0
  have p1 : w2.cell? ⟨w.heap.size + 1, 1, none⟩ = some (.int .i64 c) := Blk.cell ba2 1
  have M4 := hide (unhide MD w2 (unhide M2) u2 bu2 ba2 bs2)
  have HR := hide br2
  clear bu ba bs br bu2 ba2 bs2 br2 u2 m2 RF HB MD
  go_wp2_with fail
  refine (unhide M4).mono ?_
  rintro e w5 ⟨Lb, h1, rfl, h3, u5, mk5⟩
  have b3 : Blk (w.heap.size + 1 + 1 + 1) #[.int .i64 0, .int .i64 0, .slice none 0 0] 24 w5 := Blk.mk (unhide HR) mk5 (by have := unhide lU; omega)
  have e0 : w5.cell? ⟨w.heap.size + 1 + 1 + 1, 0, none⟩ = some (.int .i64 0) := Blk.cell b3 0
  have e1 : w5.cell? ⟨w.heap.size + 1 + 1 + 1, 1, none⟩ = some (.int .i64 0) := Blk.cell b3 1
  have e2 : w5.cell? ⟨w.heap.size + 1 + 1 + 1, 2, none⟩ = some (.slice none 0 0) := Blk.cell b3 2
  have f := Blk.free b3
  have R := hide (And.intro b3 (And.intro h1 (And.intro h3 (And.intro u5 mk5))))
  clear b3 h1 h3 u5 mk5 M4 p0 p1
  go_wp2
  obtain ⟨b3, h1, h3, u5, mk5⟩ := unhide R
  have P := putM b3 (.int .i64 r) (.int .i64 c) (.slice (some ⟨Lb, 0, none⟩) (r * c) (r * c))
  generalize (((w5.setCell ⟨w.heap.size + 1 + 1 + 1, 0, none⟩ (.int .i64 r)).setCell ⟨w.heap.size + 1 + 1 + 1, 1, none⟩ (.int .i64 c)).setCell ⟨w.heap.size + 1 + 1 + 1, 2, none⟩ (.slice (some ⟨Lb, 0, none⟩) (r * c) (r * c))) = wE at *
  have c0 : wE.cell? ⟨w.heap.size + 1 + 1 + 1, 0, none⟩ = some (.int .i64 r) := Blk.cell P.1 0
  have c1 : wE.cell? ⟨w.heap.size + 1 + 1 + 1, 1, none⟩ = some (.int .i64 c) := Blk.cell P.1 1
  have c2 : wE.cell? ⟨w.heap.size + 1 + 1 + 1, 2, none⟩ = some (.slice (some ⟨Lb, 0, none⟩) (r * c) (r * c)) := Blk.cell P.1 2
  refine bodyPost_ret (v := .tuple #[.agg #[.int .i64 r, .int .i64 c, .slice (some ⟨Lb, 0, none⟩) (r * c) (r * c)], .int .i64 0]) (by simp [results, Tryz.results13, go_sem, c0, c1, c2]) rfl ?_
  have hz := unhide Z2
  have hu := unhide lU
  have mw := unhide M2
  have hl' := unhide HL
  subst hl'
  exact ⟨_, _, Lb, rfl, by omega, Or.inr ⟨rfl, Blk.keep h3 P.2 (by omega)⟩, Nat.le_refl _, Blk.keep u5 P.2 (by omega), (mw.trans mk5).new P.2 (by omega)⟩

set_option maxHeartbeats 2000000 in
theorem matScale_bad (U : Nat) (c0 : Bool) (n0 s : Int) (hn : 0 ≤ n0 ∧ n0 < 1152921504606846976) (R1 C1 : Int) (a1 : Option Addr) (l1 p1 : Nat) (Z : Nat → Int) (ho : ¬ okM R1 C1 l1) (w : World) (h : UC U c0 n0 w) :
    Calls Tryz.prog 13 #[.pointer (some ⟨U, 0, none⟩), .agg #[.int .i64 R1, .int .i64 C1, .slice a1 l1 p1], .int .i64 s] w fun e w' => MatP 0 0 0 Z 3 (fun w' => UC U c0 n0 w' ∧ Mk U w w') w e w' := by
  have hlt := Blk.lt h
  obtain ⟨G, s5, bu, ba, bs, br, bx⟩ := alloc5 w #[.pointer (some ⟨U, 0, none⟩)] 25 #[.int .i64 R1, .int .i64 C1, .slice a1 l1 p1] 24 #[.int .i64 s] 3 #[.int .i64 0, .int .i64 0, .slice none 0 0] 24 #[.int .i64 R1, .int .i64 C1, .slice a1 l1 p1] 24
  have lU : Hid (U < w.heap.size) := hlt
  have RF := hide (refuse1 U c0 n0 ⟨hn.1, by omega⟩ R1 C1 a1 l1 p1 (w.heap.size + 1 + 1 + 1 + 1) 3 (Or.inr ⟨ho, rfl⟩) _ (Blk.grown h G) bx (by omega))
  have HB := hide br
  have HG := hide G
  clear G s5 bu ba bs br bx h hlt ho hn
  go_enter Tryz.func13, Tryz.ntmps13
  go_wp2_with fail
  generalize (((((w.alloc (.cells #[.pointer (some ⟨U, 0, none⟩)] 25)).alloc (.cells #[.int .i64 R1, .int .i64 C1, .slice a1 l1 p1] 24)).alloc (.cells #[.int .i64 s] 3)).alloc (.cells #[.int .i64 0, .int .i64 0, .slice none 0 0] 24)).alloc (.cells #[.int .i64 R1, .int .i64 C1, .slice a1 l1 p1] 24)) = w1 at *
  refine (unhide RF).mono ?_
  rintro e w2 ⟨rfl, u2, m2⟩
  have b3 := Blk.keep (unhide HB) m2 (by have := unhide lU; omega)
  have e0 : w2.cell? ⟨w.heap.size + 1 + 1 + 1, 0, none⟩ = some (.int .i64 0) := Blk.cell b3 0
  have e1 : w2.cell? ⟨w.heap.size + 1 + 1 + 1, 1, none⟩ = some (.int .i64 0) := Blk.cell b3 1
  have e2 : w2.cell? ⟨w.heap.size + 1 + 1 + 1, 2, none⟩ = some (.slice none 0 0) := Blk.cell b3 2
  have f := Blk.free b3
  have R := hide (And.intro b3 (And.intro u2 (Mk.of ((Mod.of (unhide HG)).trans m2))))
  clear b3 u2 m2 RF
  go_wp2
  obtain ⟨b3, u2, m2⟩ := unhide R
  have P := putM b3 (.int .i64 0) (.int .i64 0) (.slice none 0 0)
  generalize (((w2.setCell ⟨w.heap.size + 1 + 1 + 1, 0, none⟩ (.int .i64 0)).setCell ⟨w.heap.size + 1 + 1 + 1, 1, none⟩ (.int .i64 0)).setCell ⟨w.heap.size + 1 + 1 + 1, 2, none⟩ (.slice none 0 0)) = wE at *
  have c0 : wE.cell? ⟨w.heap.size + 1 + 1 + 1, 0, none⟩ = some (.int .i64 0) := Blk.cell P.1 0
  have c1 : wE.cell? ⟨w.heap.size + 1 + 1 + 1, 1, none⟩ = some (.int .i64 0) := Blk.cell P.1 1
  have c2 : wE.cell? ⟨w.heap.size + 1 + 1 + 1, 2, none⟩ = some (.slice none 0 0) := Blk.cell P.1 2
  refine bodyPost_ret (v := .tuple #[.agg #[.int .i64 0, .int .i64 0, .slice none 0 0], .int .i64 3]) (by simp [results, Tryz.results13, go_sem, c0, c1, c2]) rfl ?_
  exact ⟨none, 0, w.heap.size, rfl, Nat.le_refl _, Or.inl rfl, Nat.le_refl _, Blk.keep u2 P.2 (by have := unhide lU; omega), m2.new P.2 (by omega)⟩

set_option maxHeartbeats 2000000 in
theorem matScale_none (p : Option Addr) (s : Int) (R1 C1 : Int) (a1 : Option Addr) (l1 p1 : Nat) (Z : Nat → Int) (w : World) (h : NU p w) :
    Calls Tryz.prog 13 #[.pointer p, .agg #[.int .i64 R1, .int .i64 C1, .slice a1 l1 p1], .int .i64 s] w fun e w' => MatP 0 0 0 Z 1 (Kp w) w e w' := by
  obtain ⟨G, s5, bu, ba, bs, br, bx⟩ := alloc5 w #[.pointer p] 25 #[.int .i64 R1, .int .i64 C1, .slice a1 l1 p1] 24 #[.int .i64 s] 3 #[.int .i64 0, .int .i64 0, .slice none 0 0] 24 #[.int .i64 R1, .int .i64 C1, .slice a1 l1 p1] 24
  have HB := hide br
  have HG := hide G
  have RF := hide (fun s => refuseNone p s _ (h.grown G))
  clear G s5 bu ba bs br bx h
  go_enter Tryz.func13, Tryz.ntmps13
  go_wp2_with fail
  generalize (((((w.alloc (.cells #[.pointer p] 25)).alloc (.cells #[.int .i64 R1, .int .i64 C1, .slice a1 l1 p1] 24)).alloc (.cells #[.int .i64 s] 3)).alloc (.cells #[.int .i64 0, .int .i64 0, .slice none 0 0] 24)).alloc (.cells #[.int .i64 R1, .int .i64 C1, .slice a1 l1 p1] 24)) = w1 at *
  refine (unhide RF _).mono ?_
  rintro e w2 ⟨rfl, rfl⟩
  have e0 : w2.cell? ⟨w.heap.size + 1 + 1 + 1, 0, none⟩ = some (.int .i64 0) := Blk.cell (unhide HB) 0
  have e1 : w2.cell? ⟨w.heap.size + 1 + 1 + 1, 1, none⟩ = some (.int .i64 0) := Blk.cell (unhide HB) 1
  have e2 : w2.cell? ⟨w.heap.size + 1 + 1 + 1, 2, none⟩ = some (.slice none 0 0) := Blk.cell (unhide HB) 2
  have f := Blk.free (unhide HB)
  clear RF
  go_wp2
  have b3 := unhide HB
  have P := putM b3 (.int .i64 0) (.int .i64 0) (.slice none 0 0)
  generalize (((w2.setCell ⟨w.heap.size + 1 + 1 + 1, 0, none⟩ (.int .i64 0)).setCell ⟨w.heap.size + 1 + 1 + 1, 1, none⟩ (.int .i64 0)).setCell ⟨w.heap.size + 1 + 1 + 1, 2, none⟩ (.slice none 0 0)) = wE at *
  have c0 : wE.cell? ⟨w.heap.size + 1 + 1 + 1, 0, none⟩ = some (.int .i64 0) := Blk.cell P.1 0
  have c1 : wE.cell? ⟨w.heap.size + 1 + 1 + 1, 1, none⟩ = some (.int .i64 0) := Blk.cell P.1 1
  have c2 : wE.cell? ⟨w.heap.size + 1 + 1 + 1, 2, none⟩ = some (.slice none 0 0) := Blk.cell P.1 2
  refine bodyPost_ret (v := .tuple #[.agg #[.int .i64 0, .int .i64 0, .slice none 0 0], .int .i64 1]) (by simp [results, Tryz.results13, go_sem, c0, c1, c2]) rfl ?_
  exact ⟨none, 0, w.heap.size, rfl, Nat.le_refl _, Or.inl rfl, Nat.le_refl _, (Kp.of (unhide HG)).mod P.2 (by omega)⟩


end Go.Proofs.YtcobicnpdmgnjaaGreat

/- A region that draws its order and calls, makes and stores: by an invariant over what has come up. -/
namespace Go.Proofs.YtcobicnpdmgnjaaGreat
open Go.RowKit Go.Shelf Go.Proofs.Wd
set_option linter.unusedVariables false
set_option linter.unusedSimpArgs false
set_option maxRecDepth 10000

/-- J n: it holds while n operations have not come up. -/
theorem wpAny_inv {P : Program} {ops : Array Oper} {Q : Exit → Act → World → Prop} {md : Region.Mode} (J : Nat → Array Bool → Act → World → Prop)
    (h0 : ∀ listed a w, J 0 listed a w → Region.ready md ops listed = [] ∧ Q .normal a w)
    (h1 : ∀ n listed a w, J (n + 1) listed a w → Region.ready md ops listed ≠ [] ∧ ∀ i ∈ Region.ready md ops listed, wpOp P ops Q i (J n (listed.setIfInBounds i true)) a w) :
    ∀ n listed a w, J n listed a w → wpAny P md ops Q n listed a w
  | 0, l, a, w, h => h0 l a w h
  | n + 1, l, a, w, h => ⟨fun hr => absurd hr (h1 n l a w h).1, fun i hi => wpOp_mono (fun a' w' h' => wpAny_inv J h0 h1 n _ a' w' h') ((h1 n l a w h).2 i hi)⟩

theorem ready_mem {md : Region.Mode} {ops : Array Oper} {listed : Array Bool} {i : Nat} (h : i ∈ Region.ready md ops listed) :
    i < ops.size ∧ listed.getD i true = false ∧ ∀ o, ops[i]? = some o → ∀ e ∈ o.after, Region.binds md e = true → listed.getD e.on false = true := by
  unfold Region.ready at h
  rw [List.mem_filter, List.mem_range] at h
  obtain ⟨h1, h2⟩ := h
  rw [Bool.and_eq_true] at h2
  refine ⟨h1, by simpa using h2.1, fun o ho e he hb => ?_⟩
  have h3 := h2.2
  rw [ho] at h3
  simp only [Option.map_some, Option.getD_some] at h3
  rw [Array.all_eq_true_iff_forall_mem] at h3
  have := h3 e he
  rw [hb] at this
  simpa using this

/-- Each operation waits for earlier ones alone. -/
def backs (ops : Array Oper) : Bool := (List.range ops.size).all fun i => ((ops[i]?).map (·.after.all fun e => decide (e.on < i))).getD true
theorem ready_ne {md : Region.Mode} {ops : Array Oper} {listed : Array Bool} (hb : backs ops = true) (hs : listed.size = ops.size) : ∀ (m i : Nat), i ≤ m → i < ops.size → listed.getD i true = false → Region.ready md ops listed ≠ [] := by
  intro m
  induction m with
  | zero =>
    intro i him hi hl
    obtain rfl : i = 0 := by omega
    intro hr
    have : 0 ∈ Region.ready md ops listed := by
      unfold Region.ready
      rw [List.mem_filter, List.mem_range]
      refine ⟨hi, ?_⟩
      rw [hl]
      have ho : ops[0]? = some ops[0] := by simp [hi]
      rw [ho]
      simp only [Option.map_some, Option.getD_some, Bool.not_false, Bool.true_and]
      unfold backs at hb
      rw [List.all_eq_true] at hb
      have h2 := hb 0 (List.mem_range.2 hi)
      rw [ho] at h2
      simp only [Option.map_some, Option.getD_some] at h2
      rw [Array.all_eq_true_iff_forall_mem] at h2 ⊢
      intro e he
      have := h2 e he
      simp at this
    rw [hr] at this
    exact absurd this List.not_mem_nil
  | succ m ih =>
    intro i him hi hl hr
    have ho : ops[i]? = some ops[i] := by simp [hi]
    have hbi : ∀ e ∈ ops[i].after, e.on < i := by
      unfold backs at hb
      rw [List.all_eq_true] at hb
      have h2 := hb i (List.mem_range.2 hi)
      rw [ho] at h2
      simp only [Option.map_some, Option.getD_some] at h2
      rw [Array.all_eq_true_iff_forall_mem] at h2
      intro e he
      simpa using h2 e he
    by_cases hall : ∀ e ∈ ops[i].after, listed.getD e.on false = true
    · have : i ∈ Region.ready md ops listed := by
        unfold Region.ready
        rw [List.mem_filter, List.mem_range]
        refine ⟨hi, ?_⟩
        rw [hl, ho]
        simp only [Option.map_some, Option.getD_some, Bool.not_false, Bool.true_and]
        rw [Array.all_eq_true_iff_forall_mem]
        intro e he
        rw [hall e he]
        simp
      rw [hr] at this
      exact absurd this List.not_mem_nil
    · have ⟨e, he⟩ := Classical.not_forall.1 hall
      have ⟨hm, hf⟩ := Classical.not_imp.1 he
      have hlt := hbi e hm
      have hsz : e.on < listed.size := by omega
      refine ih e.on (by omega) (by omega) ?_ hr
      have h1 : listed.getD e.on false = listed[e.on] := by simp [Array.getD, hsz]
      have h2 : listed.getD e.on true = listed[e.on] := by simp [Array.getD, hsz]
      rw [h1] at hf
      rw [h2]
      simpa using hf
/-- It waits for number k. -/
def waits (aft : Array Edge) (k : Nat) : Bool := aft.any fun e => Region.binds .any e && e.on == k
theorem ready_waits {ops : Array Oper} {listed : Array Bool} {i : Nat} (h : i ∈ Region.ready .any ops listed) {o : Oper} (ho : ops[i]? = some o) {k : Nat} (hk : waits o.after k = true) : listed.getD k false = true := by
  unfold waits at hk
  obtain ⟨e, he, hb⟩ := Array.any_eq_true'.1 hk
  rw [Bool.and_eq_true] at hb
  have := (ready_mem h).2.2 o ho e he hb.1
  rwa [eq_of_beq hb.2] at this

/-- All slots but those of D are as they were. -/
def Sl (D : List Nat) (a0 a : Act) : Prop := a.defers = a0.defers ∧ a.tmps.size = a0.tmps.size ∧ ∀ k, k ∉ D → a.tmps[k]? = a0.tmps[k]?
theorem Sl.refl (D : List Nat) (a : Act) : Sl D a a := ⟨rfl, rfl, fun _ _ => rfl⟩
theorem Sl.put {D : List Nat} {a0 a : Act} (h : Sl D a0 a) (d : Nat) (v : Value) (hd : d ∈ D) : Sl D a0 (a.put (some d) v) := by
  refine ⟨h.1, ?_, fun k hk => ?_⟩
  · show (a.tmps.setIfInBounds d v).size = _
    rw [Array.size_setIfInBounds, h.2.1]
  · show (a.tmps.setIfInBounds d v)[k]? = _
    rw [Array.getElem?_setIfInBounds_ne (fun e : d = k => hk (by rw [← e]; exact hd)), h.2.2 k hk]
theorem put_same {a : Act} {d : Nat} {v : Value} (h : d < a.tmps.size) : (a.put (some d) v).tmps[d]? = some v := by
  show (a.tmps.setIfInBounds d v)[d]? = _
  rw [Array.getElem?_setIfInBounds_self_of_lt h]
theorem put_ne {a : Act} {d k : Nat} {v : Value} (h : d ≠ k) : (a.put (some d) v).tmps[k]? = a.tmps[k]? := by
  show (a.tmps.setIfInBounds d v)[k]? = _
  rw [Array.getElem?_setIfInBounds_ne h]
theorem eval_tmp {a : Act} {k : Nat} {v : Value} (h : a.tmps[k]? = some v) : a.eval (.tmp k) = v := by
  show a.tmps.getD k undef = v
  rw [Array.getD_eq_getD_getElem?, h]; rfl

section
variable {ops : Array Oper} {Q : Exit → Act → World → Prop} {i d k : Nat} {K : Act → World → Prop} {a : Act} {w : World} {T : TypeId} {pos : String} {aft : Array Edge}
theorem wpOp_of {P : Program} {o : Oper} (hi : ops[i]? = some o) (hg : o.guard = none) (h : o.wp P a w K Q) : wpOp P ops Q i K a w := by
  unfold wpOp
  simp only [hi]
  rw [if_pos (by simp [Region.wanted, hg])]
  exact Or.inl h
theorem wpOp_load (hi : ops[i]? = some ⟨some d, .load 24 (.tmp k), T, pos, aft, none⟩) {B : Nat} {v0 v1 v2 : Value} (hk : a.tmps[k]? = some (.pointer (some ⟨B, 0, none⟩))) (hb : Blk B #[v0, v1, v2] 24 w)
    (h : K (a.put (some d) (.agg #[v0, v1, v2])) w) : wpOp Tryz.prog ops Q i K a w := by
  refine wpOp_of hi rfl ?_
  have ev := eval_tmp hk
  have c0 : w.cell? ⟨B, 0, none⟩ = some v0 := by rw [Blk.cell hb]; rfl
  have c1 : w.cell? ⟨B, 1, none⟩ = some v1 := by rw [Blk.cell hb]; rfl
  have c2 : w.cell? ⟨B, 2, none⟩ = some v2 := by rw [Blk.cell hb]; rfl
  unfold Oper.wp
  simp [go_sem, hk, c0, c1, c2]
  exact h
theorem wpOp_alloc (hi : ops[i]? = some ⟨some d, .alloc 24, T, pos, aft, none⟩)
    (h : K (a.put (some d) (.pointer (some ⟨w.heap.size, 0, none⟩))) (w.alloc (.cells #[.int .i64 0, .int .i64 0, .slice none 0 0] 24))) : wpOp Tryz.prog ops Q i K a w := by
  refine wpOp_of hi rfl ?_
  unfold Oper.wp
  simp [go_sem]
  exact h
theorem wpOp_store (hi : ops[i]? = some ⟨none, .store 24 (.tmp k) (.tmp d), T, pos, aft, none⟩) {B : Nat} {r c : Int} {ao : Option Addr} {n cap : Nat} {u0 u1 u2 : Value} (hk : a.tmps[k]? = some (.pointer (some ⟨B, 0, none⟩))) (hd : a.tmps[d]? = some (.agg #[.int .i64 r, .int .i64 c, .slice ao n cap])) (hb : Blk B #[u0, u1, u2] 24 w)
    (h : ∀ w', Mod B w w' → Blk B #[.int .i64 r, .int .i64 c, .slice ao n cap] 24 w' → K a w') : wpOp Tryz.prog ops Q i K a w := by
  refine wpOp_of hi rfl ?_
  have c0 : w.cell? ⟨B, 0, none⟩ = some u0 := by rw [Blk.cell hb]; rfl
  have c1 : w.cell? ⟨B, 1, none⟩ = some u1 := by rw [Blk.cell hb]; rfl
  have c2 : w.cell? ⟨B, 2, none⟩ = some u2 := by rw [Blk.cell hb]; rfl
  have f0 := Blk.free hb 0
  have f1 := Blk.free hb 1
  have f2 := Blk.free hb 2
  have hh := h (((w.setCell ⟨B, 0, none⟩ (.int .i64 r)).setCell ⟨B, 1, none⟩ (.int .i64 c)).setCell ⟨B, 2, none⟩ (.slice ao n cap)) ((((Mod.refl _ _).setCell _ _).setCell _ _).setCell _ _) (((hb.set 0 _).set 1 _).set 2 _)
  unfold Oper.wp
  simp [go_sem, hk, hd, c0, c1, c2, f0, f1, f2]
  exact hh
theorem wpOp_call1 {f : Nat} (hi : ops[i]? = some ⟨some d, .call ⟨.value (.func f), #[.tmp k], #[24]⟩, T, pos, aft, none⟩) {v : Value} (hk : a.tmps[k]? = some v) (hf : ∀ w, Sem.run Tryz.prog (callFunc f #[v]) w = .ok (.enter f #[v]) w)
    (h : Calls Tryz.prog f #[v] w fun e w' => ∃ x, e = .returned x ∧ K (a.put (some d) x) w') : wpOp Tryz.prog ops Q i K a w := by
  refine wpOp_of hi rfl ?_
  unfold Oper.wp
  simp [go_sem, hk, hf]
  refine h.mono ?_
  rintro e w' ⟨x, rfl, hx⟩
  exact hx
end

end Go.Proofs.YtcobicnpdmgnjaaGreat

/- 'in, by := CopyMat(a), CopyMat(b)', both boxed: in whatever order. -/
namespace Go.Proofs.YtcobicnpdmgnjaaGreat
open Go.RowKit Go.Shelf Go.Proofs.Wd
set_option linter.unusedVariables false
set_option linter.unusedSimpArgs false
set_option maxRecDepth 10000

def cn : Bool → Nat
  | true => 0
  | false => 1
theorem cn_zero {b : Bool} (h : cn b = 0) : b = true := by cases b with | true => rfl | false => cases h
theorem LS.sub {w : World} {E E' : List Nat} {bx bx' : List (Nat × Array Value)} {rows rows' : List (Option Addr × Nat × (Nat → Int))} {wx : World} (h : LS w E bx rows wx) (hE : ∀ x ∈ E', x ∈ E) (hb : ∀ x ∈ bx', x ∈ bx) (hr : ∀ x ∈ rows', x ∈ rows) : LS w E' bx' rows' wx :=
  ⟨h.1, fun e he => h.2.1 e (hE e he), fun b hb' => ⟨(h.2.2.1 b (hb b hb')).1, fun he => (h.2.2.1 b (hb b hb')).2 (hE _ he)⟩, fun r hr' => ⟨(h.2.2.2 r (hr r hr')).1, fun e he => (h.2.2.2 r (hr r hr')).2 e (hE e he)⟩⟩
/-- A fresh block that was off all becomes a box. -/
theorem LS.toBox {w : World} {A : Nat} {cs : Array Value} {E : List Nat} {bx : List (Nat × Array Value)} {rows : List (Option Addr × Nat × (Nat → Int))} {wx : World} (h : LS w (A :: E) bx rows wx) (hb : Blk A cs 24 wx) (hA : A ∉ E) : LS w E ((A, cs) :: bx) rows wx := by
  have h' := h.sub (E' := E) (bx' := bx) (rows' := rows) (fun x hx => List.mem_cons_of_mem _ hx) (fun _ h => h) (fun _ h => h)
  refine ⟨h'.1, h'.2.1, fun b hb' => ?_, h'.2.2.2⟩
  rcases List.mem_cons.1 hb' with rfl | hb'
  · exact ⟨hb, hA⟩
  · exact h'.2.2.1 b hb'
def op1 {α : Type} (b : Bool) (x : α) : List α := if b then [x] else []
theorem op1_t {α : Type} (x : α) : op1 true x = [x] := rfl
theorem op1_f {α : Type} (x : α) : op1 false x = [] := rfl
/-- A slot that is filled holds v. -/
def Fl (k : Nat) (b : Bool) (v : Value) (a : Act) : Prop := b = true → a.tmps[k]? = some v
theorem Fl.ne {k d : Nat} {b : Bool} {v x : Value} {a : Act} (h : Fl k b v a) (hd : d ≠ k) : Fl k b v (a.put (some d) x) := fun hb => by rw [put_ne hd]; exact h hb
theorem Fl.same {k : Nat} {b : Bool} {v : Value} {a : Act} (h : k < a.tmps.size) : Fl k b v (a.put (some k) v) := fun _ => put_same h
theorem Fl.any {k : Nat} {v : Value} {a : Act} : Fl k false v a := fun h => by cases h
/-- A box under way: made, its cells. -/
def Bx (b s : Bool) (A : Nat) (cs : Array Value) (wx : World) : Prop := b = true → Blk A (if s then cs else #[.int .i64 0, .int .i64 0, .slice none 0 0]) 24 wx
theorem Bx.kp {b s : Bool} {A : Nat} {cs : Array Value} {wx w' : World} (h : Bx b s A cs wx) (k : Kp wx w') : Bx b s A cs w' := fun hb => Blk.kp (h hb) k
theorem Bx.mk {b s : Bool} {A A' : Nat} {cs : Array Value} {wx w' : World} (h : Bx b s A cs wx) (k : Mk A' wx w') (hne : b = true → A ≠ A') : Bx b s A cs w' := fun hb => Blk.mk (h hb) k (hne hb)

section
variable (a0 : Act) (w0 : World) (H : Nat) (E : List Nat) (bx : List (Nat × Array Value)) (rows : List (Option Addr × Nat × (Nat → Int))) (X : World → Prop) (q1 q2 q3 q4 b1 b2 : Nat) (R1 C1 R2 C2 : Int) (x1 x2 : Option Addr) (n1 p1 n2 p2 : Nat) (Z1 Z2 : Nat → Int)
def J2i (l1 c1 l2 c2 a1 a2 s1 s2 : Bool) (a : Act) (w : World) : Prop :=
  Sl [q1, q2, q3, q4, b1, b2] a0 a ∧ X w ∧ H ≤ w.heap.size ∧ (s1 = true → c1 = true ∧ a1 = true) ∧ (s2 = true → c2 = true ∧ a2 = true) ∧ ∃ (aa : Option Addr) (pa : Nat) (ab : Option Addr) (pb A1 A2 : Nat),
    Fl q1 l1 (.agg #[.int .i64 R1, .int .i64 C1, .slice x1 n1 p1]) a ∧ Fl q3 l2 (.agg #[.int .i64 R2, .int .i64 C2, .slice x2 n2 p2]) a ∧
    Fl q2 c1 (.agg #[.int .i64 R1, .int .i64 C1, .slice aa n1 pa]) a ∧ Fl q4 c2 (.agg #[.int .i64 R2, .int .i64 C2, .slice ab n2 pb]) a ∧
    Fl b1 a1 (.pointer (some ⟨A1, 0, none⟩)) a ∧ Fl b2 a2 (.pointer (some ⟨A2, 0, none⟩)) a ∧
    (c1 = true → n1 ≤ pa) ∧ (c2 = true → n2 ≤ pb) ∧ (a1 = true → H ≤ A1) ∧ (a2 = true → H ≤ A2) ∧ (a1 = true → a2 = true → A1 ≠ A2) ∧
    Bx a1 s1 A1 #[.int .i64 R1, .int .i64 C1, .slice aa n1 pa] w ∧ Bx a2 s2 A2 #[.int .i64 R2, .int .i64 C2, .slice ab n2 pb] w ∧
    LS w0 (op1 a1 A1 ++ (op1 a2 A2 ++ E)) bx (op1 c1 (aa, n1, Z1) ++ (op1 c2 (ab, n2, Z2) ++ rows)) w
def J2 (n : Nat) (listed : Array Bool) (a : Act) (w : World) : Prop :=
  ∃ l1 c1 l2 c2 a1 a2 s1 s2 : Bool, listed = #[l1, c1, l2, c2, a1, a2, s1, s2] ∧ n = cn l1 + cn c1 + cn l2 + cn c2 + cn a1 + cn a2 + cn s1 + cn s2 ∧ J2i a0 w0 H E bx rows X q1 q2 q3 q4 b1 b2 R1 C1 R2 C2 x1 x2 n1 p1 n2 p2 Z1 Z2 l1 c1 l2 c2 a1 a2 s1 s2 a w
end


set_option maxHeartbeats 4000000 in
theorem regTwo {ops : Array Oper} {Q : Exit → Act → World → Prop} {id f : Nat} {a0 : Act} {w w0 : World} {E : List Nat} {bx : List (Nat × Array Value)} {rows : List (Option Addr × Nat × (Nat → Int))} {X : World → Prop} {k1 k2 q1 q2 q3 q4 b1 b2 B1 B2 : Nat} {R1 C1 R2 C2 : Int} {x1 x2 : Option Addr} {n1 p1 n2 p2 : Nat} {Z1 Z2 : Nat → Int} {T0 T1 T2 T3 T4 T5 T6 T7 : TypeId} {o0 o1 o2 o3 o4 o5 o6 o7 : String} {e0 e1 e2 e3 e4 e5 e6 e7 : Array Edge}
    (hm : Tryz.prog.follows .mixedOrders = true) (hs : ops.size = 8) (hbk : backs ops = true)
    (h0 : ops[0]? = some ⟨some q1, .load 24 (.tmp k1), T0, o0, e0, none⟩) (h1 : ops[1]? = some ⟨some q2, .call ⟨.value (.func f), #[.tmp q1], #[24]⟩, T1, o1, e1, none⟩)
    (h2 : ops[2]? = some ⟨some q3, .load 24 (.tmp k2), T2, o2, e2, none⟩) (h3 : ops[3]? = some ⟨some q4, .call ⟨.value (.func f), #[.tmp q3], #[24]⟩, T3, o3, e3, none⟩)
    (h4 : ops[4]? = some ⟨some b1, .alloc 24, T4, o4, e4, none⟩) (h5 : ops[5]? = some ⟨some b2, .alloc 24, T5, o5, e5, none⟩)
    (h6 : ops[6]? = some ⟨none, .store 24 (.tmp b1) (.tmp q2), T6, o6, e6, none⟩) (h7 : ops[7]? = some ⟨none, .store 24 (.tmp b2) (.tmp q4), T7, o7, e7, none⟩)
    (d1 : waits e1 0 = true) (d3 : waits e3 2 = true) (d6 : (waits e6 1 && waits e6 4) = true) (d7 : (waits e7 3 && waits e7 5) = true)
    (hd : [q1, q2, q3, q4, b1, b2].Nodup) (hk1 : k1 ∉ [q1, q2, q3, q4, b1, b2]) (hk2 : k2 ∉ [q1, q2, q3, q4, b1, b2]) (hz : ∀ k ∈ [q1, q2, q3, q4, b1, b2], k < a0.tmps.size)
    (g1 : a0.tmps[k1]? = some (.pointer (some ⟨B1, 0, none⟩))) (g2 : a0.tmps[k2]? = some (.pointer (some ⟨B2, 0, none⟩)))
    (m1 : (B1, #[.int .i64 R1, .int .i64 C1, .slice x1 n1 p1]) ∈ bx) (m2 : (B2, #[.int .i64 R2, .int .i64 C2, .slice x2 n2 p2]) ∈ bx)
    (r1 : (x1, n1, Z1) ∈ rows) (r2 : (x2, n2, Z2) ∈ rows)
    (hf : ∀ v w, Sem.run Tryz.prog (callFunc f #[v]) w = .ok (.enter f #[v]) w)
    (c1h : ∀ w, Row w x1 n1 Z1 → Calls Tryz.prog f #[.agg #[.int .i64 R1, .int .i64 C1, .slice x1 n1 p1]] w fun e w' => CopyM R1 C1 n1 Z1 w e w')
    (c2h : ∀ w, Row w x2 n2 Z2 → Calls Tryz.prog f #[.agg #[.int .i64 R2, .int .i64 C2, .slice x2 n2 p2]] w fun e w' => CopyM R2 C2 n2 Z2 w e w')
    (hX : X w.drew) (hXk : ∀ a b, Kp a b → X a → X b) (hXm : ∀ A a b, w.heap.size ≤ A → Mk A a b → X a → X b)
    (hE : ∀ e ∈ E, e < w.heap.size)
    (hL : LS w0 E bx rows w.drew)
    (fin : ∀ (aa : Option Addr) (pa : Nat) (ab : Option Addr) (pb A1 A2 : Nat) (w' : World), n1 ≤ pa → n2 ≤ pb → X w' →
      LS w0 E ((A2, #[.int .i64 R2, .int .i64 C2, .slice ab n2 pb]) :: (A1, #[.int .i64 R1, .int .i64 C1, .slice aa n1 pa]) :: bx) ((ab, n2, Z2) :: (aa, n1, Z1) :: rows) w' →
      Q .normal ⟨(((((a0.tmps.setIfInBounds q1 (.agg #[.int .i64 R1, .int .i64 C1, .slice x1 n1 p1])).setIfInBounds q2 (.agg #[.int .i64 R1, .int .i64 C1, .slice aa n1 pa])).setIfInBounds q3 (.agg #[.int .i64 R2, .int .i64 C2, .slice x2 n2 p2])).setIfInBounds q4 (.agg #[.int .i64 R2, .int .i64 C2, .slice ab n2 pb])).setIfInBounds b1 (.pointer (some ⟨A1, 0, none⟩))).setIfInBounds b2 (.pointer (some ⟨A2, 0, none⟩)), a0.defers⟩ w') :
    (Code.region id ops true).wp Tryz.prog Q a0 w := by
  simp only [List.nodup_cons, List.mem_cons, List.not_mem_nil, or_false, not_or, List.nodup_nil, and_true, not_false_eq_true] at hd
  obtain ⟨⟨n12, n13, n14, n15, n16⟩, ⟨n23, n24, n25, n26⟩, ⟨n34, n35, n36⟩, ⟨n45, n46⟩, n56⟩ := hd
  refine wp_region_any hm ?_
  rw [hs]
  refine wpAny_inv (J2 a0 w0 w.heap.size E bx rows X q1 q2 q3 q4 b1 b2 R1 C1 R2 C2 x1 x2 n1 p1 n2 p2 Z1 Z2) ?_ ?_ 8 _ _ _ ?_
  · rintro listed a w1 ⟨l1, c1, l2, c2, a1, a2, s1, s2, rfl, hn, hj⟩
    obtain ⟨rfl, rfl, rfl, rfl, rfl, rfl, rfl, rfl⟩ : l1 = true ∧ c1 = true ∧ l2 = true ∧ c2 = true ∧ a1 = true ∧ a2 = true ∧ s1 = true ∧ s2 = true := by
      exact ⟨cn_zero (by omega), cn_zero (by omega), cn_zero (by omega), cn_zero (by omega), cn_zero (by omega), cn_zero (by omega), cn_zero (by omega), cn_zero (by omega)⟩
    refine ⟨?_, ?_⟩
    · apply List.eq_nil_iff_forall_not_mem.2
      intro i hi
      obtain ⟨h1, h2, _⟩ := ready_mem hi
      rw [hs] at h1
      have hi8 : i = 0 ∨ i = 1 ∨ i = 2 ∨ i = 3 ∨ i = 4 ∨ i = 5 ∨ i = 6 ∨ i = 7 := by omega
      rcases hi8 with rfl | rfl | rfl | rfl | rfl | rfl | rfl | rfl <;> simp at h2
    · obtain ⟨sl, hx, _, _, _, aa, pa, ab, pb, A1, A2, f1, f3, f2, f4, fb1, fb2, ha, hb, hA1, hA2, hne, B1', B2', ls⟩ := hj
      have ea : a = ⟨(((((a0.tmps.setIfInBounds q1 (.agg #[.int .i64 R1, .int .i64 C1, .slice x1 n1 p1])).setIfInBounds q2 (.agg #[.int .i64 R1, .int .i64 C1, .slice aa n1 pa])).setIfInBounds q3 (.agg #[.int .i64 R2, .int .i64 C2, .slice x2 n2 p2])).setIfInBounds q4 (.agg #[.int .i64 R2, .int .i64 C2, .slice ab n2 pb])).setIfInBounds b1 (.pointer (some ⟨A1, 0, none⟩))).setIfInBounds b2 (.pointer (some ⟨A2, 0, none⟩)), a0.defers⟩ := by
        obtain ⟨t, df⟩ := a
        obtain ⟨s1, s2, s3⟩ := sl
        have z1 := hz q1 (by simp)
        have z2 := hz q2 (by simp)
        have z3 := hz q3 (by simp)
        have z4 := hz q4 (by simp)
        have z5 := hz b1 (by simp)
        have z6 := hz b2 (by simp)
        congr 1
        apply Array.ext_getElem?
        intro k
        by_cases e6 : b2 = k
        · subst e6; rw [Array.getElem?_setIfInBounds_self_of_lt (by simpa using z6)]; exact fb2 rfl
        rw [Array.getElem?_setIfInBounds_ne e6]
        by_cases e5 : b1 = k
        · subst e5; rw [Array.getElem?_setIfInBounds_self_of_lt (by simpa using z5)]; exact fb1 rfl
        rw [Array.getElem?_setIfInBounds_ne e5]
        by_cases e4 : q4 = k
        · subst e4; rw [Array.getElem?_setIfInBounds_self_of_lt (by simpa using z4)]; exact f4 rfl
        rw [Array.getElem?_setIfInBounds_ne e4]
        by_cases e3 : q3 = k
        · subst e3; rw [Array.getElem?_setIfInBounds_self_of_lt (by simpa using z3)]; exact f3 rfl
        rw [Array.getElem?_setIfInBounds_ne e3]
        by_cases e2 : q2 = k
        · subst e2; rw [Array.getElem?_setIfInBounds_self_of_lt (by simpa using z2)]; exact f2 rfl
        rw [Array.getElem?_setIfInBounds_ne e2]
        by_cases e1 : q1 = k
        · subst e1; rw [Array.getElem?_setIfInBounds_self_of_lt (by simpa using z1)]; exact f1 rfl
        rw [Array.getElem?_setIfInBounds_ne e1]
        exact s3 k (by simp only [List.mem_cons, List.not_mem_nil, or_false, not_or]; exact ⟨Ne.symm e1, Ne.symm e2, Ne.symm e3, Ne.symm e4, Ne.symm e5, Ne.symm e6⟩)
      rw [ea]
      refine fin aa pa ab pb A1 A2 w1 (ha rfl) (hb rfl) hx ?_
      have nE1 : A1 ∉ E := fun h => by have := hE _ h; have := hA1 rfl; omega
      have nE2 : A2 ∉ E := fun h => by have := hE _ h; have := hA2 rfl; omega
      have ls' : LS w0 (A1 :: A2 :: E) bx ((ab, n2, Z2) :: (aa, n1, Z1) :: rows) w1 := ls.sub (fun x hx => by simpa [op1] using hx) (fun _ h => h) (fun x hx => by simp [op1] at hx ⊢; rcases hx with h | h | h <;> simp [h])
      have q := (ls'.toBox (B1' rfl) (fun h => by rcases List.mem_cons.1 h with h | h; exact hne rfl rfl h; exact nE1 h)).toBox (B2' rfl) nE2
      exact q

  · rintro n listed a w1 ⟨l1, c1, l2, c2, a1, a2, s1, s2, rfl, hn, hj⟩
    refine ⟨?_, fun i hi => ?_⟩
    · have hex : ∃ i, i < 8 ∧ (#[l1, c1, l2, c2, a1, a2, s1, s2] : Array Bool).getD i true = false := by
        cases l1
        · exact ⟨0, by omega, rfl⟩
        cases c1
        · exact ⟨1, by omega, rfl⟩
        cases l2
        · exact ⟨2, by omega, rfl⟩
        cases c2
        · exact ⟨3, by omega, rfl⟩
        cases a1
        · exact ⟨4, by omega, rfl⟩
        cases a2
        · exact ⟨5, by omega, rfl⟩
        cases s1
        · exact ⟨6, by omega, rfl⟩
        cases s2
        · exact ⟨7, by omega, rfl⟩
        simp [cn] at hn
      obtain ⟨i, hi8, hl⟩ := hex
      exact ready_ne hbk (by rw [hs]; rfl) i i (Nat.le_refl _) (by rw [hs]; exact hi8) hl
    · obtain ⟨hi8, hl, _⟩ := ready_mem hi
      rw [hs] at hi8
      obtain ⟨sl, hx, hH, hs1, hs2, aa, pa, ab, pb, A1, A2, f1, f3, f2, f4, fb1, fb2, ha, hb, hA1, hA2, hne, B1', B2', ls⟩ := hj
      have zz : ∀ k ∈ [q1, q2, q3, q4, b1, b2], k < a.tmps.size := fun k hk => by rw [sl.2.1]; exact hz k hk
      have hi8' : i = 0 ∨ i = 1 ∨ i = 2 ∨ i = 3 ∨ i = 4 ∨ i = 5 ∨ i = 6 ∨ i = 7 := by omega
      rcases hi8' with rfl | rfl | rfl | rfl | rfl | rfl | rfl | rfl
      · obtain rfl : l1 = false := hl
        refine wpOp_load h0 ((sl.2.2 k1 hk1).trans g1) (ls.2.2.1 _ m1).1 ⟨true, c1, l2, c2, a1, a2, s1, s2, rfl, (by simp only [cn] at hn ⊢; omega), sl.put _ _ (by simp), hx, hH, hs1, hs2, aa, pa, ab, pb, A1, A2, Fl.same (zz _ (by simp)), f3.ne n13, f2.ne n12, f4.ne n14, fb1.ne n15, fb2.ne n16, ha, hb, hA1, hA2, hne, B1', B2', ls⟩
      · obtain rfl : c1 = false := hl
        obtain rfl : l1 = true := ready_waits hi h1 d1
        refine wpOp_call1 h1 (f1 rfl) (hf _) ((c1h _ (ls.2.2.2 (x1, n1, Z1) (by simp [r1])).1).mono ?_)
        intro e w2 hc
        have kk : Kp w1 w2 := let ⟨_, _, _, _, _, _, k⟩ := hc; k
        obtain ⟨ao, cap, rfl, hcap, ls'⟩ := ls.copy hc
        refine ⟨_, rfl, true, true, l2, c2, a1, a2, s1, s2, rfl, (by simp only [cn] at hn ⊢; omega), sl.put _ _ (by simp), hXk _ _ kk hx, Nat.le_trans hH kk.2.2.2, fun h => ⟨rfl, (hs1 h).2⟩, hs2, ao, cap, ab, pb, A1, A2, f1.ne (Ne.symm n12), f3.ne n23, Fl.same (zz _ (by simp)), f4.ne n24, fb1.ne n25, fb2.ne n26, fun _ => hcap, hb, hA1, hA2, hne, ?_, B2'.kp kk, ls'⟩
        have hs0 : s1 = false := by cases s1 with | false => rfl | true => exact absurd (hs1 rfl).1 (by simp)
        subst hs0
        exact fun hb => Blk.kp (B1' hb) kk
      · obtain rfl : l2 = false := hl
        refine wpOp_load h2 ((sl.2.2 k2 hk2).trans g2) (ls.2.2.1 _ m2).1 ⟨l1, c1, true, c2, a1, a2, s1, s2, rfl, (by simp only [cn] at hn ⊢; omega), sl.put _ _ (by simp), hx, hH, hs1, hs2, aa, pa, ab, pb, A1, A2, f1.ne (Ne.symm n13), Fl.same (zz _ (by simp)), f2.ne (Ne.symm n23), f4.ne n34, fb1.ne n35, fb2.ne n36, ha, hb, hA1, hA2, hne, B1', B2', ls⟩
      · obtain rfl : c2 = false := hl
        obtain rfl : l2 = true := ready_waits hi h3 d3
        refine wpOp_call1 h3 (f3 rfl) (hf _) ((c2h _ (ls.2.2.2 (x2, n2, Z2) (by simp [r2])).1).mono ?_)
        intro e w2 hc
        have kk : Kp w1 w2 := let ⟨_, _, _, _, _, _, k⟩ := hc; k
        obtain ⟨ao, cap, rfl, hcap, ls'⟩ := ls.copy hc
        refine ⟨_, rfl, l1, c1, true, true, a1, a2, s1, s2, rfl, (by simp only [cn] at hn ⊢; omega), sl.put _ _ (by simp), hXk _ _ kk hx, Nat.le_trans hH kk.2.2.2, hs1, fun h => ⟨rfl, (hs2 h).2⟩, aa, pa, ao, cap, A1, A2, f1.ne (Ne.symm n14), f3.ne (Ne.symm n34), f2.ne (Ne.symm n24), Fl.same (zz _ (by simp)), fb1.ne n45, fb2.ne n46, ha, fun _ => hcap, hA1, hA2, hne, B1'.kp kk, ?_, ?_⟩
        · have hs0 : s2 = false := by cases s2 with | false => rfl | true => exact absurd (hs2 rfl).1 (by simp)
          subst hs0
          exact fun hb => Blk.kp (B2' hb) kk
        · refine ls'.sub (fun _ h => h) (fun _ h => h) (fun x hx => ?_)
          simp only [op1_t, op1_f, List.nil_append, List.mem_append, List.mem_cons, List.not_mem_nil, or_false] at hx ⊢
          rcases hx with h | h | h <;> simp [h]
      · obtain rfl : a1 = false := hl
        have gg : Grown w1 (w1.alloc (.cells #[.int .i64 0, .int .i64 0, .slice none 0 0] 24)) := (Grown.refl _).alloc _ _
        have kk := Kp.of gg
        have ls' := ls.unit gg (Blk.new w1 _ _)
        have hs0 : s1 = false := by cases s1 with | false => rfl | true => exact absurd (hs1 rfl).2 (by simp)
        refine wpOp_alloc h4 ⟨l1, c1, l2, c2, true, a2, s1, s2, rfl, (by simp only [cn] at hn ⊢; omega), sl.put _ _ (by simp), hXk _ _ kk hx, Nat.le_trans hH kk.2.2.2, fun h => ⟨(hs1 h).1, rfl⟩, hs2, aa, pa, ab, pb, w1.heap.size, A2, f1.ne (Ne.symm n15), f3.ne (Ne.symm n35), f2.ne (Ne.symm n25), f4.ne (Ne.symm n45), Fl.same (zz _ (by simp)), fb2.ne n56, ha, hb, fun _ => hH, hA2, ?_, ?_, B2'.kp kk, ls'⟩
        · intro _ h
          subst h
          have := (ls.2.1 A2 (by simp [op1_t])).2
          omega
        · subst hs0
          exact fun _ => Blk.new w1 _ _
      · obtain rfl : a2 = false := hl
        have gg : Grown w1 (w1.alloc (.cells #[.int .i64 0, .int .i64 0, .slice none 0 0] 24)) := (Grown.refl _).alloc _ _
        have kk := Kp.of gg
        have ls' := ls.unit gg (Blk.new w1 _ _)
        have hs0 : s2 = false := by cases s2 with | false => rfl | true => exact absurd (hs2 rfl).2 (by simp)
        refine wpOp_alloc h5 ⟨l1, c1, l2, c2, a1, true, s1, s2, rfl, (by simp only [cn] at hn ⊢; omega), sl.put _ _ (by simp), hXk _ _ kk hx, Nat.le_trans hH kk.2.2.2, hs1, fun h => ⟨(hs2 h).1, rfl⟩, aa, pa, ab, pb, A1, w1.heap.size, f1.ne (Ne.symm n16), f3.ne (Ne.symm n36), f2.ne (Ne.symm n26), f4.ne (Ne.symm n46), fb1.ne (Ne.symm n56), Fl.same (zz _ (by simp)), ha, hb, hA1, fun _ => hH, ?_, B1'.kp kk, ?_, ls'.sub (fun x hx => ?_) (fun _ h => h) (fun _ h => h)⟩
        · intro h1 _ h
          subst h1
          have := (ls.2.1 A1 (by simp [op1_t])).2
          omega
        · subst hs0
          exact fun _ => Blk.new w1 _ _
        · simp only [op1_t, op1_f, List.nil_append, List.mem_append, List.mem_cons, List.not_mem_nil, or_false] at hx ⊢
          rcases hx with h | h | h <;> simp [h]
      · obtain rfl : s1 = false := hl
        rw [Bool.and_eq_true] at d6
        obtain rfl : c1 = true := ready_waits hi h6 d6.1
        obtain rfl : a1 = true := ready_waits hi h6 d6.2
        refine wpOp_store h6 (fb1 rfl) (f2 rfl) (B1' rfl) fun w2 m bl => ?_
        have mm := Mk.of m
        exact ⟨l1, true, l2, c2, true, a2, true, s2, rfl, (by simp only [cn] at hn ⊢; omega), sl, hXm _ _ _ (hA1 rfl) mm hx, Nat.le_trans hH mm.2.2.2, fun _ => ⟨rfl, rfl⟩, hs2, aa, pa, ab, pb, A1, A2, f1, f3, f2, f4, fb1, fb2, ha, hb, hA1, hA2, hne, fun _ => bl, B2'.mk mm (fun h e => hne rfl h e.symm), ls.mk (by simp [op1_t]) mm⟩
      · obtain rfl : s2 = false := hl
        rw [Bool.and_eq_true] at d7
        obtain rfl : c2 = true := ready_waits hi h7 d7.1
        obtain rfl : a2 = true := ready_waits hi h7 d7.2
        refine wpOp_store h7 (fb2 rfl) (f4 rfl) (B2' rfl) fun w2 m bl => ?_
        have mm := Mk.of m
        exact ⟨l1, c1, l2, true, a1, true, s1, true, rfl, (by simp only [cn] at hn ⊢; omega), sl, hXm _ _ _ (hA2 rfl) mm hx, Nat.le_trans hH mm.2.2.2, hs1, fun _ => ⟨rfl, rfl⟩, aa, pa, ab, pb, A1, A2, f1, f3, f2, f4, fb1, fb2, ha, hb, hA1, hA2, hne, B1'.mk mm (fun h e => hne h rfl e), fun _ => bl, ls.mk (by simp [op1_t]) mm⟩
  · refine ⟨false, false, false, false, false, false, false, false, rfl, rfl, Sl.refl _ _, hX, Nat.le_refl _, (fun h => (by cases h)), (fun h => (by cases h)), none, 0, none, 0, 0, 0, Fl.any, Fl.any, Fl.any, Fl.any, Fl.any, Fl.any, (fun h => (by cases h)), (fun h => (by cases h)), (fun h => (by cases h)), (fun h => (by cases h)), (fun h => (by cases h)), (fun h => (by cases h)), (fun h => (by cases h)), ?_⟩
    simpa [op1_f] using hL


end Go.Proofs.YtcobicnpdmgnjaaGreat

/- A region that draws its order, whose last operation waits for all others: S need not hold behind that one. -/
namespace Go.Proofs.YtcobicnpdmgnjaaGreat
open Go.RowKit Go.Shelf Go.Proofs.Wd
set_option linter.unusedVariables false
set_option linter.unusedSimpArgs false
set_option maxRecDepth 10000

section
variable {P : Program} {ops : Array Oper} {Q : Exit → Act → World → Prop} {md : Region.Mode} {S : World → Prop} {g : Nat}
/-- Whatever order is picked, S holds behind every operation but number g. -/
def wpAnyG (P : Program) (md : Region.Mode) (ops : Array Oper) (Q : Exit → Act → World → Prop) (S : World → Prop) (g : Nat) : Nat → Array Bool → Act → World → Prop
  | 0, listed, a, w => Region.ready md ops listed = [] ∧ Q .normal a w
  | fuel + 1, listed, a, w =>
    (Region.ready md ops listed = [] → Q .normal a w) ∧
    ∀ i ∈ Region.ready md ops listed, wpOp P ops Q i (fun a' w' => (i ≠ g → S w') ∧ wpAnyG P md ops Q S g fuel (listed.setIfInBounds i true) a' w') a w
theorem wpAny_of_G : ∀ (fuel : Nat) (listed : Array Bool) (a : Act) (w : World), wpAnyG P md ops Q S g fuel listed a w → wpAny P md ops Q fuel listed a w
  | 0, _, _, _, h => h
  | fuel + 1, _, _, _, h => ⟨h.1, fun i hi => wpOp_mono (fun a' w' h' => wpAny_of_G fuel _ a' w' h'.2) (h.2 i hi)⟩
/-- Number g waits for number i. -/
def waitsFor (md : Region.Mode) (ops : Array Oper) (g i : Nat) : Bool := ((ops[g]?).map (·.after.any fun e => Region.binds md e && e.on == i)).getD false
theorem waits_listed {listed : Array Bool} {i : Nat} (h : waitsFor md ops g i = true) (hg : g ∈ Region.ready md ops listed) : listed.getD i false = true := by
  unfold waitsFor at h
  cases ho : ops[g]? with
  | none => rw [ho] at h; cases h
  | some o =>
    rw [ho] at h
    simp only [Option.map_some, Option.getD_some] at h
    obtain ⟨e, he, hb⟩ := Array.any_eq_true'.1 h
    rw [Bool.and_eq_true] at hb
    have := (ready_mem hg).2.2 o ho e he hb.1
    rwa [eq_of_beq hb.2] at this
theorem G_first {i : Nat} {oi : Oper} {v : Value} (hi : ops[i]? = some oi) (hgi : waitsFor md ops g i = true) (hig : i ≠ g) (hsel : ∀ (j : Nat) (o : Oper) cs b, ops[j]? = some o → o.op ≠ .select cs b)
    (hQ : ∀ c a w, Q (.panic c) (a.put oi.dst v) w → Q (.panic c) a w) :
    ∀ (fuel : Nat) (listed : Array Bool) (a : Act) (w : World),
      (∀ j oj, ops[j]? = some oj → j ≠ i → listed.getD j true = false → (∀ e ∈ oj.after, Region.binds md e = true → e.on ≠ i) → oi.apart ops oj = true) →
      i ∈ Region.ready md ops listed → YieldsIf P ops S oi v a → S w →
      wpAnyG P md ops Q S g fuel (listed.setIfInBounds i true) (a.put oi.dst v) w → wpAnyG P md ops Q S g (fuel + 1) listed a w := by
  intro fuel
  induction fuel with
  | zero =>
    intro listed a w _ hr hy hS H
    refine ⟨fun h => (by rw [h] at hr; cases hr), fun j hj => ?_⟩
    by_cases hji : j = i
    · subst hji; exact hy.wpOp hi hS ⟨fun _ => hS, H⟩
    · have := ready_mono hj hji
      rw [H.1] at this
      cases this
  | succ fuel ih =>
    intro listed a w hfree hr hy hS H
    refine ⟨fun h => (by rw [h] at hr; cases hr), fun j hj => ?_⟩
    by_cases hji : j = i
    · subst hji; exact hy.wpOp hi hS ⟨fun _ => hS, H⟩
    · have hun := (ready_mem hr).2.1
      have hjg : j ≠ g := by
        intro e
        subst e
        have h1 := waits_listed hgi hj
        rcases Nat.lt_or_ge i listed.size with h' | h'
        · simp [Array.getD, h'] at hun h1
          rw [hun] at h1
          cases h1
        · simp [Array.getD, Nat.not_lt.2 h'] at h1
      have h1 := H.2 j (ready_mono hj hji)
      have hoj' := (ready_mem hj).1
      obtain ⟨oj, hoj⟩ : ∃ oj, ops[j]? = some oj := ⟨ops[j], by simp [hoj']⟩
      have hjun := (ready_mem hj).2.1
      have hnot : ∀ e ∈ oj.after, Region.binds md e = true → e.on ≠ i := fun e he hb heq => by
        have h1 := (ready_mem hj).2.2 oj hoj e he hb
        rw [heq] at h1
        rcases Nat.lt_or_ge i listed.size with h' | h'
        · simp [Array.getD, h'] at hun h1
          rw [hun] at h1
          cases h1
        · simp [Array.getD, Nat.not_lt.2 h'] at h1
      have h2 := wpOp_putIf hoj (hfree j oj hoj hji hjun hnot) (fun cs b => hsel i oi cs b hi) (fun cs b => hsel j oj cs b hoj) hQ hy h1
      have hfree' : ∀ k ok, ops[k]? = some ok → k ≠ i → (listed.setIfInBounds j true).getD k true = false →
          (∀ e ∈ ok.after, Region.binds md e = true → e.on ≠ i) → oi.apart ops ok = true := fun k ok hk hki hun hno => by
        refine hfree k ok hk hki ?_ hno
        by_cases hjk : j = k
        · subst hjk; exact hjun
        · rw [getD_set_ne true hjk] at hun; exact hun
      refine wpOp_mono (fun a' w' h3 => ⟨fun _ => h3.2.1 hjg, ih (listed.setIfInBounds j true) a' w' hfree' (ready_mono hr (Ne.symm hji)) h3.1 (h3.2.1 hjg) ?_⟩) h2
      rw [Array.setIfInBounds_comm _ _ hji]
      exact h3.2.2
/-- The beginning. -/
theorem region_G {id : Nat} {a : Act} {w : World} (S : World → Prop) (g : Nat) (hm : P.follows .mixedOrders = true) (hS : S w.drew)
    (h : S w.drew → wpAnyG P .any ops (NoPanic Q) S g ops.size (Array.replicate ops.size false) a w.drew) : (Code.region id ops true).wp P Q a w :=
  wp_region_noPanic (wp_region_any hm (wpAny_of_G _ _ _ _ (h hS)))
/-- One operation is taken first. -/
theorem take_G {i d : Nat} {oi : Oper} {v : Value} {fuel : Nat} {listed : Array Bool} {a : Act} {w : World} (hi : ops[i]? = some oi) (hd : oi.dst = some d) (hgi : waitsFor md ops g i = true) (hig : (i == g) = false)
    (hs : Region.noSelect ops = true) (hf : Region.free md ops listed i = true) (hr : (Region.ready md ops listed).contains i = true)
    (hy : YieldsIf P ops S oi v a) (hS : S w)
    (h : wpAnyG P md ops (NoPanic Q) S g fuel (listed.setIfInBounds i true) (a.put (some d) v) w) : wpAnyG P md ops (NoPanic Q) S g (fuel + 1) listed a w := by
  refine G_first hi hgi (by simpa using hig) (Region.noSelect_spec hs) (fun _ _ _ h => h) fuel listed a w (Region.free_spec hi hf) (by simpa using hr) hy hS ?_
  rw [hd]
  exact h
/-- The one that can come up comes up. -/
theorem one_G {i fuel : Nat} {listed : Array Bool} {a : Act} {w : World} (hr : Region.ready md ops listed = [i])
    (h : wpOp P ops (NoPanic Q) i (fun a' w' => (i ≠ g → S w') ∧ wpAnyG P md ops (NoPanic Q) S g fuel (listed.setIfInBounds i true) a' w') a w) : wpAnyG P md ops (NoPanic Q) S g (fuel + 1) listed a w :=
  ⟨fun h0 => by (rw [hr] at h0; cases h0), fun j hj => by rw [hr] at hj; cases List.mem_singleton.1 hj; exact h⟩
theorem step_G {i fuel : Nat} {listed : Array Bool} {a : Act} {w : World} (hr : Region.ready md ops listed = [i])
    (h : ∀ K : Act → World → Prop, (∀ a' w', (i ≠ g → S w') → wpAnyG P md ops (NoPanic Q) S g fuel (listed.setIfInBounds i true) a' w' → K a' w') → wpOp P ops (NoPanic Q) i K a w) : wpAnyG P md ops (NoPanic Q) S g (fuel + 1) listed a w :=
  one_G hr (h _ (fun a' w' h1 h2 => ⟨h1, h2⟩))
theorem done_G {fuel : Nat} {listed : Array Bool} {a : Act} {w : World} (hr : Region.ready md ops listed = []) (h : NoPanic Q .normal a w) : wpAnyG P md ops (NoPanic Q) S g fuel listed a w := by
  cases fuel with
  | zero => exact ⟨hr, h⟩
  | succ f => exact ⟨fun _ => h, fun j hj => by rw [hr] at hj; cases hj⟩
end

end Go.Proofs.YtcobicnpdmgnjaaGreat

/- The document's mat: Check, alike. -/
namespace Go.Proofs.YtcobicnpdmgnjaaGreat
open Go.RowKit Go.Shelf Go.Proofs.Wd
set_option linter.unusedVariables false
set_option linter.unusedSimpArgs false
set_option maxRecDepth 10000

/-- A matrix and an error that the document tells. -/
def DocP (r c : Int) (len : Nat) (Z : Nat → Int) (err : Int) (X : World → Prop) (w : World) (e : Ending) (w' : World) : Prop :=
  ∃ ao cap, e = .returned (.tuple #[.agg #[.int .i64 r, .int .i64 c, .slice ao len cap], .int .i64 err]) ∧ len ≤ cap ∧ Row w' ao len Z ∧ (∀ U, U < w.heap.size → Off U len ao) ∧ X w'


set_option maxHeartbeats 2000000 in
theorem refMCheck (r c : Int) (ao : Option Addr) (len cap : Nat) (w : World) : Calls Tryz.prog 35 #[.agg #[.int .i64 r, .int .i64 c, .slice ao len cap]] w fun e w' => e = .returned (.int .i64 (chk r c len)) ∧ Grown w w' := by
  have H : True := trivial
  by_cases h1 : r < 1
  · have E := hide (chk_bad (r := r) (c := c) (len := len) (fun h => by have := h.1; omega))
    clear H
    skip
    go_enter Tryz.func35, Tryz.ntmps35
    go_wp2
    go_ret
    exact ⟨by rw [unhide E]; rfl, (Grown.refl _).alloc _ _⟩
  by_cases h2 : 12 < r
  · have E := hide (chk_bad (r := r) (c := c) (len := len) (fun h => by have := h.1; omega))
    clear H
    have g1 : 1 ≤ r := by omega
    go_enter Tryz.func35, Tryz.ntmps35
    go_wp2
    go_ret
    exact ⟨by rw [unhide E]; rfl, (Grown.refl _).alloc _ _⟩
  by_cases h3 : c < 1
  · have E := hide (chk_bad (r := r) (c := c) (len := len) (fun h => by have := h.2.1; omega))
    clear H
    have g1 : 1 ≤ r := by omega
    have g2 : r ≤ 12 := by omega
    go_enter Tryz.func35, Tryz.ntmps35
    go_wp2
    go_ret
    exact ⟨by rw [unhide E]; rfl, (Grown.refl _).alloc _ _⟩
  by_cases h4 : 12 < c
  · have E := hide (chk_bad (r := r) (c := c) (len := len) (fun h => by have := h.2.1; omega))
    clear H
    have g1 : 1 ≤ r := by omega
    have g2 : r ≤ 12 := by omega
    have g3 : 1 ≤ c := by omega
    go_enter Tryz.func35, Tryz.ntmps35
    go_wp2
    go_ret
    exact ⟨by rw [unhide E]; rfl, (Grown.refl _).alloc _ _⟩
  have g1 : 1 ≤ r := by omega
  have g2 : r ≤ 12 := by omega
  have g3 : 1 ≤ c := by omega
  have g4 : c ≤ 12 := by omega
  have hw : wrap64 (r * c) = r * c := by
    have := mul12 r c ⟨g1, g2⟩ ⟨g3, g4⟩
    unfold wrap64
    omega
  by_cases h5 : (len : Int) = r * c
  · have E := hide (chk_ok (r := r) (c := c) (len := len) ⟨⟨g1, g2⟩, ⟨g3, g4⟩, h5⟩)
    clear H
    have b3 : ((len : Int) != r * c) = false := by simpa using h5
    have H5 := hide h5
    clear h5
    go_enter Tryz.func35, Tryz.ntmps35
    go_wp2
    go_ret
    exact ⟨by rw [unhide E]; rfl, (Grown.refl _).alloc _ _⟩
  · have E := hide (chk_bad (r := r) (c := c) (len := len) (fun h => h5 h.2.2))
    clear H
    have b3 : ((len : Int) != r * c) = true := by simpa using h5
    have H5 := hide h5
    clear h5
    go_enter Tryz.func35, Tryz.ntmps35
    go_wp2
    go_ret
    exact ⟨by rw [unhide E]; rfl, (Grown.refl _).alloc _ _⟩


open Classical in
set_option maxHeartbeats 2000000 in
theorem refAlike (R1 C1 R2 C2 : Int) (a1 a2 : Option Addr) (l1 p1 l2 p2 : Nat) (w : World) : Calls Tryz.prog 25 #[.agg #[.int .i64 R1, .int .i64 C1, .slice a1 l1 p1], .agg #[.int .i64 R2, .int .i64 C2, .slice a2 l2 p2]] w fun e w' => e = .returned (.bool (decide (okM R1 C1 l1 ∧ okM R2 C2 l2 ∧ R1 = R2 ∧ C1 = C2))) ∧ Grown w w' := by
  have K1 := hide (fun w => refMCheck R1 C1 a1 l1 p1 w)
  have K2 := hide (fun w => refMCheck R2 C2 a2 l2 p2 w)
  have G : Grown w ((w.alloc (.cells #[.int .i64 R1, .int .i64 C1, .slice a1 l1 p1] 24)).alloc (.cells #[.int .i64 R2, .int .i64 C2, .slice a2 l2 p2] 24)) := ((Grown.refl _).alloc _ _).alloc _ _
  have X1 : Blk w.heap.size #[.int .i64 R1, .int .i64 C1, .slice a1 l1 p1] 24 ((w.alloc (.cells #[.int .i64 R1, .int .i64 C1, .slice a1 l1 p1] 24)).alloc (.cells #[.int .i64 R2, .int .i64 C2, .slice a2 l2 p2] 24)) := Blk.grown (Blk.new w _ _) ((Grown.refl _).alloc _ _)
  have X2 : Blk (w.heap.size + 1) #[.int .i64 R2, .int .i64 C2, .slice a2 l2 p2] 24 ((w.alloc (.cells #[.int .i64 R1, .int .i64 C1, .slice a1 l1 p1] 24)).alloc (.cells #[.int .i64 R2, .int .i64 C2, .slice a2 l2 p2] 24)) := blk_new2 w _ _ _
  have CW : Hid (∀ wx, Grown ((w.alloc (.cells #[.int .i64 R1, .int .i64 C1, .slice a1 l1 p1] 24)).alloc (.cells #[.int .i64 R2, .int .i64 C2, .slice a2 l2 p2] 24)) wx → wx.cell? ⟨w.heap.size, 0, none⟩ = some (.int .i64 R1) ∧ wx.cell? ⟨w.heap.size, 1, none⟩ = some (.int .i64 C1) ∧ wx.cell? ⟨w.heap.size, 2, none⟩ = some (.slice a1 l1 p1) ∧ wx.cell? ⟨w.heap.size + 1, 0, none⟩ = some (.int .i64 R2) ∧ wx.cell? ⟨w.heap.size + 1, 1, none⟩ = some (.int .i64 C2) ∧ wx.cell? ⟨w.heap.size + 1, 2, none⟩ = some (.slice a2 l2 p2)) := fun wx g => ⟨Blk.cell (Blk.grown X1 g) 0, Blk.cell (Blk.grown X1 g) 1, Blk.cell (Blk.grown X1 g) 2, Blk.cell (Blk.grown X2 g) 0, Blk.cell (Blk.grown X2 g) 1, Blk.cell (Blk.grown X2 g) 2⟩
  have HG := hide G
  clear X1 X2 G
  by_cases h1 : okM R1 C1 l1
  · rw [chk_ok h1] at K1
    by_cases h2 : okM R2 C2 l2
    · rw [chk_ok h2] at K2
      by_cases h3 : R1 = R2
      · by_cases h4 : C1 = C2
        · have E : Hid (decide (okM R1 C1 l1 ∧ okM R2 C2 l2 ∧ R1 = R2 ∧ C1 = C2) = true) := decide_eq_true ⟨h1, h2, h3, h4⟩
          generalize decide (okM R1 C1 l1 ∧ okM R2 C2 l2 ∧ R1 = R2 ∧ C1 = C2) = D at *
          clear h1 h2
          subst h3 h4
          go_enter Tryz.func25, Tryz.ntmps25
          go_wp2_with fail
          refine (unhide K1 _).mono ?_
          rintro e w1 ⟨rfl, g1⟩
          obtain ⟨x0, x1, x2, y0, y1, y2⟩ := unhide CW w1 g1
          have GG := hide (gtrans (unhide HG) g1)
          clear g1
          have CW1 := hide (fun wx (g : Grown w1 wx) => And.intro (gat g x0) (And.intro (gat g x1) (And.intro (gat g y0) (gat g y1))))
          go_wp2_with fail
          refine (unhide K2 _).mono ?_
          rintro e w2 ⟨rfl, g2⟩
          obtain ⟨z0, z1, t0, t1⟩ := unhide CW1 w2 g2
          have GH := hide (gtrans (unhide GG) g2)
          clear x0 x1 x2 y0 y1 y2 g2
          go_wp2
          go_ret
          exact ⟨by rw [unhide E]; rfl, unhide GH⟩
        · have E : Hid (decide (okM R1 C1 l1 ∧ okM R2 C2 l2 ∧ R1 = R2 ∧ C1 = C2) = false) := decide_eq_false (fun h => h4 h.2.2.2)
          generalize decide (okM R1 C1 l1 ∧ okM R2 C2 l2 ∧ R1 = R2 ∧ C1 = C2) = D at *
          have b4 : (C1 == C2) = false := by simpa using h4
          clear h1 h2 h4
          subst h3
          go_enter Tryz.func25, Tryz.ntmps25
          go_wp2_with fail
          refine (unhide K1 _).mono ?_
          rintro e w1 ⟨rfl, g1⟩
          obtain ⟨x0, x1, x2, y0, y1, y2⟩ := unhide CW w1 g1
          have GG := hide (gtrans (unhide HG) g1)
          clear g1
          have CW1 := hide (fun wx (g : Grown w1 wx) => And.intro (gat g x0) (And.intro (gat g x1) (And.intro (gat g y0) (gat g y1))))
          go_wp2_with fail
          refine (unhide K2 _).mono ?_
          rintro e w2 ⟨rfl, g2⟩
          obtain ⟨z0, z1, t0, t1⟩ := unhide CW1 w2 g2
          have GH := hide (gtrans (unhide GG) g2)
          clear x0 x1 x2 y0 y1 y2 g2
          go_wp2
          go_ret
          exact ⟨by rw [unhide E]; rfl, unhide GH⟩
      · have E : Hid (decide (okM R1 C1 l1 ∧ okM R2 C2 l2 ∧ R1 = R2 ∧ C1 = C2) = false) := decide_eq_false (fun h => h3 h.2.2.1)
        generalize decide (okM R1 C1 l1 ∧ okM R2 C2 l2 ∧ R1 = R2 ∧ C1 = C2) = D at *
        have b3 : (R1 == R2) = false := by simpa using h3
        clear h1 h2 h3
        go_enter Tryz.func25, Tryz.ntmps25
        go_wp2_with fail
        refine (unhide K1 _).mono ?_
        rintro e w1 ⟨rfl, g1⟩
        obtain ⟨x0, x1, x2, y0, y1, y2⟩ := unhide CW w1 g1
        have GG := hide (gtrans (unhide HG) g1)
        clear g1
        have CW1 := hide (fun wx (g : Grown w1 wx) => And.intro (gat g x0) (And.intro (gat g x1) (And.intro (gat g y0) (gat g y1))))
        go_wp2_with fail
        refine (unhide K2 _).mono ?_
        rintro e w2 ⟨rfl, g2⟩
        obtain ⟨z0, z1, t0, t1⟩ := unhide CW1 w2 g2
        have GH := hide (gtrans (unhide GG) g2)
        clear x0 x1 x2 y0 y1 y2 g2
        go_wp2
        go_ret
        exact ⟨by rw [unhide E]; rfl, unhide GH⟩
    · rw [chk_bad h2] at K2
      have E : Hid (decide (okM R1 C1 l1 ∧ okM R2 C2 l2 ∧ R1 = R2 ∧ C1 = C2) = false) := decide_eq_false (fun h => h2 h.2.1)
      generalize decide (okM R1 C1 l1 ∧ okM R2 C2 l2 ∧ R1 = R2 ∧ C1 = C2) = D at *
      clear h1 h2
      go_enter Tryz.func25, Tryz.ntmps25
      go_wp2_with fail
      refine (unhide K1 _).mono ?_
      rintro e w1 ⟨rfl, g1⟩
      obtain ⟨x0, x1, x2, y0, y1, y2⟩ := unhide CW w1 g1
      have GG := hide (gtrans (unhide HG) g1)
      clear g1
      have CW1 := hide (fun wx (g : Grown w1 wx) => And.intro (gat g x0) (And.intro (gat g x1) (And.intro (gat g y0) (gat g y1))))
      go_wp2_with fail
      refine (unhide K2 _).mono ?_
      rintro e w2 ⟨rfl, g2⟩
      obtain ⟨z0, z1, t0, t1⟩ := unhide CW1 w2 g2
      have GH := hide (gtrans (unhide GG) g2)
      clear x0 x1 x2 y0 y1 y2 g2
      go_wp2
      go_ret
      exact ⟨by rw [unhide E]; rfl, unhide GH⟩
  · rw [chk_bad h1] at K1
    have E : Hid (decide (okM R1 C1 l1 ∧ okM R2 C2 l2 ∧ R1 = R2 ∧ C1 = C2) = false) := decide_eq_false (fun h => h1 h.1)
    generalize decide (okM R1 C1 l1 ∧ okM R2 C2 l2 ∧ R1 = R2 ∧ C1 = C2) = D at *
    clear h1
    go_enter Tryz.func25, Tryz.ntmps25
    go_wp2_with fail
    refine (unhide K1 _).mono ?_
    rintro e w1 ⟨rfl, g1⟩
    obtain ⟨x0, x1, x2, y0, y1, y2⟩ := unhide CW w1 g1
    have GG := hide (gtrans (unhide HG) g1)
    clear g1
    go_wp2
    go_ret
    exact ⟨by rw [unhide E]; rfl, unhide GG⟩

open Classical in
theorem refAlike_ok (R1 C1 R2 C2 : Int) (a1 a2 : Option Addr) (l1 p1 l2 p2 : Nat) (h : okM R1 C1 l1 ∧ okM R2 C2 l2 ∧ R1 = R2 ∧ C1 = C2) (w : World) : Calls Tryz.prog 25 #[.agg #[.int .i64 R1, .int .i64 C1, .slice a1 l1 p1], .agg #[.int .i64 R2, .int .i64 C2, .slice a2 l2 p2]] w fun e w' => e = .returned (.bool true) ∧ Grown w w' := by
  have := refAlike R1 C1 R2 C2 a1 a2 l1 p1 l2 p2 w
  rwa [decide_eq_true h] at this

open Classical in
theorem refAlike_bad (R1 C1 R2 C2 : Int) (a1 a2 : Option Addr) (l1 p1 l2 p2 : Nat) (h : ¬ (okM R1 C1 l1 ∧ okM R2 C2 l2 ∧ R1 = R2 ∧ C1 = C2)) (w : World) : Calls Tryz.prog 25 #[.agg #[.int .i64 R1, .int .i64 C1, .slice a1 l1 p1], .agg #[.int .i64 R2, .int .i64 C2, .slice a2 l2 p2]] w fun e w' => e = .returned (.bool false) ∧ Grown w w' := by
  have := refAlike R1 C1 R2 C2 a1 a2 l1 p1 l2 p2 w
  rwa [decide_eq_false h] at this


end Go.Proofs.YtcobicnpdmgnjaaGreat

/- The document's mat: Sum. -/
namespace Go.Proofs.YtcobicnpdmgnjaaGreat
open Go.RowKit Go.Shelf Go.Proofs.Wd
set_option linter.unusedVariables false
set_option linter.unusedSimpArgs false
set_option maxRecDepth 10000

theorem refAddTwoM (R : Nat) (a b : Int) (c : Bool) (n : Int) (bo cap : Nat) (w : World) (ha : I64 a) (hb : I64 b) (hn : 0 ≤ n ∧ n < 2305843009213693952) (h : RC R c n w) (hr : Row w (some ⟨bo, 0, none⟩) 2 (pairZ a b)) (ho : bo ≠ R) :
    Calls Tryz.prog 26 #[.pointer (some ⟨R, 0, none⟩), .slice (some ⟨bo, 0, none⟩) 2 cap] w fun e w' => e = .returned (.int .i64 (s2N a b)) ∧ RC R (c || s2C a b) (n + 2) w' ∧ Mod R w w' := by
  have := refUAdd R c n (some ⟨bo, 0, none⟩) 2 cap (pairZ a b) hn (by omega) (pairZ_I64 ha hb) w h hr (off_blk ho)
  rw [s2N_th, s2C_th] at this
  exact this
theorem refMulTwoM (R : Nat) (a b : Int) (c : Bool) (n : Int) (bo cap : Nat) (w : World) (ha : I64 a) (hb : I64 b) (hn : 0 ≤ n ∧ n < 2305843009213693952) (h : RC R c n w) (hr : Row w (some ⟨bo, 0, none⟩) 2 (pairZ a b)) (ho : bo ≠ R) :
    Calls Tryz.prog 36 #[.pointer (some ⟨R, 0, none⟩), .slice (some ⟨bo, 0, none⟩) 2 cap] w fun e w' => e = .returned (.int .i64 (m2N a b)) ∧ RC R (c || m2C a b) (n + 2) w' ∧ Mod R w w' := by
  have := refUMul R c n (some ⟨bo, 0, none⟩) 2 cap (pairZ a b) hn (by omega) (pairZ_I64 ha hb) w h hr (off_blk ho)
  rw [m2N_th, m2C_th] at this
  exact this

theorem wp_append {o : Oper} {a : Act} {w : World} {K : Act → World → Prop} {Q : Exit → Act → World → Prop} (hgd : o.guard = none) (s x : Operand) (ho : o.op = .call { callee := .builtin .append, args := #[s, x], argTypes := #[22, 22] })
    (base n : Nat) (v : Value) (Z : Nat → Int) (z : Int) (hz : Z n = z) (b : Nat) (hs : a.eval s = v) (hx : a.eval x = .slice (some ⟨b, 0, none⟩) 1 1) (hown : w.ownsRow base 3 1 v n (intL n Z)) (hc : w.cell? ⟨b, 0, none⟩ = some (.int .i64 z)) (hn : n ≤ 1000000) (hb : base ≤ w.heap.size)
    (h : ∀ v' w', Hid (w'.ownsRow base 3 1 v' (n + 1) (intL (n + 1) Z) ∧ w.grownBy w' v.ownBlock) → K (a.put o.dst v') w') : Oper.wp Tryz.prog o a w K Q := by
  have h := step_append_one (ops := #[]) (E := True) (Q := Q) hgd s x ho base n v Z z hz b hs hx hown hc hn hb h
  rwa [if_pos (by simp [Region.wanted, hgd])] at h
theorem noPanic_normal {Q : Exit → Act → World → Prop} {a : Act} {w : World} (h : Q .normal a w) : NoPanic Q .normal a w := h
/-- What lies around the list that is gathered: the boxes, the result's cells, the unit. -/
def DA (w : World) (R Ba Bb Br L : Nat) (ca cb : Array Value) (r c : Int) (v : Value) (cut : Bool) (n : Int) (wr : World) : Prop :=
  Blk Ba ca 24 wr ∧ Blk Bb cb 24 wr ∧ Blk Br #[.int .i64 0, .int .i64 0, .slice none 0 0] 24 wr ∧ Blk L #[.int .i64 r, .int .i64 c, v] 24 wr ∧ RC R cut n wr ∧ Mk R w wr ∧ (R < w.heap.size ∧ w.heap.size ≤ Ba ∧ w.heap.size ≤ Bb ∧ w.heap.size ≤ Br ∧ Ba < L ∧ Bb < L ∧ Br < L)
def DI (w : World) (R Ba Bb Br L : Nat) (ca cb : Array Value) (r c : Int) (Z : Nat → Int) (cut : Bool) (n : Int) (k : Nat) (v : Value) (wr : World) : Prop :=
  wr.ownsRow (L + 1) 3 1 v k (intL k Z) ∧ DA w R Ba Bb Br L ca cb r c v cut n wr
section
variable {w wr w' : World} {R Ba Bb Br L : Nat} {ca cb : Array Value} {r c : Int} {Z : Nat → Int} {cut cut' : Bool} {n n' : Int} {k : Nat} {v v' : Value}
theorem DA.grown (h : DA w R Ba Bb Br L ca cb r c v cut n wr) (g : Grown wr w') : DA w R Ba Bb Br L ca cb r c v cut n w' := by
  obtain ⟨h1, h2, h3, h4, h5, h6, h7⟩ := h
  exact ⟨Blk.grown h1 g, Blk.grown h2 g, Blk.grown h3 g, Blk.grown h4 g, Blk.grown h5 g, h6.grown g, h7⟩
theorem DA.mod (h : DA w R Ba Bb Br L ca cb r c v cut n wr) (m : Mod R wr w') (u : RC R cut' n' w') : DA w R Ba Bb Br L ca cb r c v cut' n' w' := by
  obtain ⟨h1, h2, h3, h4, h5, h6, h7⟩ := h
  exact ⟨Blk.keep h1 m (by omega), Blk.keep h2 m (by omega), Blk.keep h3 m (by omega), Blk.keep h4 m (by omega), u, h6.trans (Mk.of m), h7⟩
theorem DI.grown (h : DI w R Ba Bb Br L ca cb r c Z cut n k v wr) (cs : Array Value) (t : TypeId) : DI w R Ba Bb Br L ca cb r c Z cut n k v (wr.alloc (.cells cs t)) :=
  ⟨h.1.alloc _, h.2.grown ((Grown.refl _).alloc _ _)⟩
theorem DI.mod (h : DI w R Ba Bb Br L ca cb r c Z cut n k v wr) (m : Mod R wr w') (u : RC R cut' n' w') : DI w R Ba Bb Br L ca cb r c Z cut' n' k v w' :=
  ⟨owns_mod h.1 m (by have := h.2.2.2.2.2.2.2; omega), h.2.mod m u⟩
theorem DI.app {w4 : World} (h : DI w R Ba Bb Br L ca cb r c Z cut n k v wr) (hg : w4.ownsRow (L + 1) 3 1 v' (k + 1) (intL (k + 1) Z) ∧ wr.grownBy w4 v.ownBlock) :
    DA w R Ba Bb Br L ca cb r c v cut n w4 ∧ DI w R Ba Bb Br L ca cb r c Z cut n (k + 1) v' (w4.setCell ⟨L, 2, none⟩ v') := by
  obtain ⟨h1, h2, h3, h4, h5, h6, h7, h8⟩ := h
  have lt := h1.lt
  have far : ∀ j, j < L + 1 → some j ≠ v.ownBlock := fun j hj e => by have := (lt _ e.symm).1; omega
  have q : Mod L w4 (w4.setCell ⟨L, 2, none⟩ v') := (Mod.refl _ _).setCell 2 _
  have b2 := Blk.by h2 hg.2 (far _ (by omega))
  have b3 := Blk.by h3 hg.2 (far _ (by omega))
  have b4 := Blk.by h4 hg.2 (far _ (by omega))
  have b5 := Blk.by h5 hg.2 (far _ (by omega))
  have b6 : RC R cut n w4 := Blk.by h6 hg.2 (far _ (by omega))
  have m := h7.by hg.2 (fun i e => by have := (lt i e).1; omega)
  exact ⟨⟨b2, b3, b4, b5, b6, m, h8⟩, owns_mod hg.1 q (by omega), Blk.keep b2 q (by omega), Blk.keep b3 q (by omega), Blk.keep b4 q (by omega), Blk.set b5 2 _, Blk.keep b6 q (by omega), m.new q (by omega), h8⟩
end


set_option maxRecDepth 20000 in
set_option maxHeartbeats 8000000 in
theorem refSum_ok (R : Nat) (c0 : Bool) (n : Int) (r c : Int) (a1 a2 : Option Addr) (len p1 p2 : Nat) (X Y : Nat → Int) (hok : okM r c len) (hn : 0 ≤ n ∧ n < 1152921504606846976) (hX : Hid (∀ i, i < len → I64 (X i))) (hY : Hid (∀ i, i < len → I64 (Y i))) (w : World) (h : RC R c0 n w)
    (hr : Row w a1 len X) (ho : Off R len a1) (ht : Row w a2 len Y) (hp : Off R len a2) :
    Calls Tryz.prog 10 #[.pointer (some ⟨R, 0, none⟩), .agg #[.int .i64 r, .int .i64 c, .slice a1 len p1], .agg #[.int .i64 r, .int .i64 c, .slice a2 len p2]] w fun e w' => DocP r c len (fun p => s2N (X p) (Y p)) 0 (fun w' => RC R (c0 || orC (fun p => s2C (X p) (Y p)) len) (n + 2 * len) w' ∧ Mk R w w') w e w' := by
  have hlen : len ≤ 144 := by have := mul12 r c hok.1 hok.2.1; have := hok.2.2; omega
  have AL := hide (fun w => refAlike_ok r c r c a1 a2 len p1 len p2 ⟨hok, hok, rfl, rfl⟩ w)
  have lR := Blk.lt h
  obtain ⟨G, s3, x0, x1, x2⟩ := alloc3 w #[.int .i64 r, .int .i64 c, .slice a1 len p1] 24 #[.int .i64 r, .int .i64 c, .slice a2 len p2] 24 #[.int .i64 0, .int .i64 0, .slice none 0 0] 24
  have HB := hide (And.intro x0 (And.intro x1 x2))
  have HG := hide (And.intro G (And.intro s3 lR))
  have HU := hide h
  have HR := hide hr
  have HO := hide ho
  have HT := hide ht
  have HP := hide hp
  have HN := hide hn
  clear h hr ho ht hp hn hok G s3 x0 x1 x2
  obtain ⟨Z, hZ⟩ : ∃ Z, Z = fun p => s2N (X p) (Y p) := ⟨_, rfl⟩
  rw [← hZ]
  have EZ : Hid (∀ i, Z i = s2N (X i) (Y i)) := fun i => by rw [hZ]
  clear hZ
  have lR' := hide lR
  clear lR
  go_enter Tryz.func10, Tryz.ntmps10
  go_wp2_with fail
  generalize (((w.alloc (.cells #[.int .i64 r, .int .i64 c, .slice a1 len p1] 24)).alloc (.cells #[.int .i64 r, .int .i64 c, .slice a2 len p2] 24)).alloc (.cells #[.int .i64 0, .int .i64 0, .slice none 0 0] 24)) = w1 at *
  refine (unhide AL _).mono ?_
  rintro e w2 ⟨rfl, g2⟩
  have B0 := Blk.grown (unhide HB).1 g2
  have B1 := Blk.grown (unhide HB).2.1 g2
  have y0 : w2.cell? ⟨w.heap.size, 0, none⟩ = some (.int .i64 r) := Blk.cell B0 0
  have y1 : w2.cell? ⟨w.heap.size, 1, none⟩ = some (.int .i64 c) := Blk.cell B0 1
  have ST : Hid (DI w R w.heap.size (w.heap.size + 1) (w.heap.size + 1 + 1) w2.heap.size #[.int .i64 r, .int .i64 c, .slice a1 len p1] #[.int .i64 r, .int .i64 c, .slice a2 len p2] r c Z (c0 || orC (fun p => s2C (X p) (Y p)) 0) (n + 2 * (0 : Nat)) 0 (.slice none 0 0) (w2.alloc (.cells #[.int .i64 r, .int .i64 c, .slice none 0 0] 24))) := by
    have G3 : Grown w2 (w2.alloc (.cells #[.int .i64 r, .int .i64 c, .slice none 0 0] 24)) := (Grown.refl _).alloc _ _
    have gg := gtrans (unhide HG).1 g2
    have s := (unhide HG).2.1
    have s2 := g2.2.2
    refine ⟨World.ownsRow_nil _ _ _ _, Blk.grown B0 G3, Blk.grown B1 G3, Blk.grown (Blk.grown (unhide HB).2.2 g2) G3, Blk.new w2 _ _, ?_, (Mk.of (Mod.of gg)).grown G3, unhide lR', Nat.le_refl _, by omega, by omega, by omega, by omega, by omega⟩
    show RC _ (c0 || false) (n + 2 * 0) _
    rw [Bool.or_false, Int.mul_zero, Int.add_zero]
    exact Blk.grown (Blk.grown (unhide HU) gg) G3
  clear B0 B1 AL HU HB HG g2
  go_wp2_with fail
  generalize w2.alloc (.cells #[.int .i64 r, .int .i64 c, .slice none 0 0] 24) = w3 at *
  generalize w2.heap.size = L at *
  clear y0 y1
  go_loopw [9] (fun i wr => ∃ k : Nat, k ≤ len ∧ i = .int .i64 k ∧ Hid (∃ v, DI w R w.heap.size (w.heap.size + 1) (w.heap.size + 1 + 1) L #[.int .i64 r, .int .i64 c, .slice a1 len p1] #[.int .i64 r, .int .i64 c, .slice a2 len p2] r c Z (c0 || orC (fun p => s2C (X p) (Y p)) k) (n + 2 * k) k v wr)) (fun i _ => len - (intOf i).toNat)
  case atStart => exact ⟨0, Nat.zero_le _, rfl, _, unhide ST⟩
  case round =>
    obtain ⟨k, hk, rfl, HI⟩ := hrel
    clear ST
    by_cases hlt : k < len
    · obtain ⟨v, hI⟩ := unhide HI
      obtain ⟨b1, o1, rfl, hw1⟩ := (unhide HR).at hlt
      obtain ⟨b2, o2, rfl, hw2⟩ := (unhide HT).at hlt
      obtain ⟨x, ex⟩ : ∃ x, X k = x := ⟨_, rfl⟩
      obtain ⟨y, ey⟩ : ∃ y, Y k = y := ⟨_, rfl⟩
      obtain ⟨z, ez⟩ : ∃ z, s2N x y = z := ⟨_, rfl⟩
      rw [ex] at hw1
      rw [ey] at hw2
      have RA := hide (fun b cap W h hr ho => refAddTwoM R x y (c0 || orC (fun p => s2C (X p) (Y p)) k) (n + 2 * k) b cap W (by rw [← ex]; exact unhide hX k hlt) (by rw [← ey]; exact unhide hY k hlt) (by have := unhide HN; omega) h hr ho)
      rw [ez] at RA
      have EK : Hid (Z k = z ∧ (c0 || orC (fun p => s2C (X p) (Y p)) (k + 1)) = (c0 || orC (fun p => s2C (X p) (Y p)) k || s2C x y) ∧ n + 2 * ((k + 1 : Nat) : Int) = n + 2 * k + 2) := by
        refine ⟨by rw [unhide EZ, ex, ey, ez], ?_, by omega⟩
        show (c0 || (orC (fun p => s2C (X p) (Y p)) k || s2C (X k) (Y k))) = _
        rw [ex, ey, Bool.or_assoc]
      have CW : Hid (∀ wx v cut n, DA w R w.heap.size (w.heap.size + 1) (w.heap.size + 1 + 1) L #[.int .i64 r, .int .i64 c, .slice (some ⟨b1, o1, none⟩) len p1] #[.int .i64 r, .int .i64 c, .slice (some ⟨b2, o2, none⟩) len p2] r c v cut n wx → wx.cell? ⟨b1, o1 + k, none⟩ = some (.int .i64 x) ∧ wx.cell? ⟨b2, o2 + k, none⟩ = some (.int .i64 y) ∧ wx.cell? ⟨w.heap.size, 2, none⟩ = some (.slice (some ⟨b1, o1, none⟩) len p1) ∧ wx.cell? ⟨w.heap.size + 1, 2, none⟩ = some (.slice (some ⟨b2, o2, none⟩) len p2) ∧ wx.cell? ⟨L, 2, none⟩ = some v) := fun wx v cut n m => ⟨m.2.2.2.2.2.1.cell hw1 (unhide HO (by omega) _ rfl), m.2.2.2.2.2.1.cell hw2 (unhide HP (by omega) _ rfl), Blk.cell m.1 2, Blk.cell m.2.1 2, Blk.cell m.2.2.2.1 2⟩
      obtain ⟨hc1, hc2, hc3, hc4, hc5⟩ := unhide CW wr _ _ _ hI.2
      have hz1 : b1 < wr.heap.size := heap_gt hc1
      have hz2 : b2 < wr.heap.size := heap_gt hc2
      have hz3 : w.heap.size < wr.heap.size := heap_gt hc3
      have hz4 : w.heap.size + 1 < wr.heap.size := heap_gt hc4
      have hz5 : L < wr.heap.size := heap_gt hc5
      have i0 : (0 : Int) ≤ (k : Int) := by omega
      have i1 : (k : Int) < (len : Int) := by omega
      have hk1 : k ≤ 1000000 := by omega
      have A0 : Hid (DI w R w.heap.size (w.heap.size + 1) (w.heap.size + 1 + 1) L #[.int .i64 r, .int .i64 c, .slice (some ⟨b1, o1, none⟩) len p1] #[.int .i64 r, .int .i64 c, .slice (some ⟨b2, o2, none⟩) len p2] r c Z (c0 || orC (fun p => s2C (X p) (Y p)) k) (n + 2 * k) k v (wr.alloc (.cells #[.int .i64 x, .int .i64 y] 3)).drew ∧ Row (wr.alloc (.cells #[.int .i64 x, .int .i64 y] 3)).drew (some ⟨wr.heap.size, 0, none⟩) 2 (pairZ x y) ∧ wr.heap.size ≠ R) := ⟨hI.grown _ _, pair_rowM wr x y, by have := hI.2.2.2.2.2.1.lt; omega⟩
      clear ex ey ez HI hI hw1 hw2
      go_wp2
      refine region_G (fun w' => w'.cell? ⟨b1, o1 + k, none⟩ = some (.int .i64 x) ∧ w'.cell? ⟨b2, o2 + k, none⟩ = some (.int .i64 y) ∧ w'.cell? ⟨w.heap.size, 2, none⟩ = some (.slice (some ⟨b1, o1, none⟩) len p1) ∧ w'.cell? ⟨w.heap.size + 1, 2, none⟩ = some (.slice (some ⟨b2, o2, none⟩) len p2) ∧ w'.cell? ⟨L, 2, none⟩ = some v) 18 (by kernel_rfl) ⟨hc1, hc2, hc3, hc4, hc5⟩ (fun hHeld => ?_)
      refine take_G (i := 0) (d := 27) (v := .pointer (some ⟨L, 2, none⟩)) rfl rfl (by kernel_rfl) (by kernel_rfl) (by kernel_rfl) (by kernel_rfl) (by kernel_rfl) (Or.inl ⟨by rfl, ?_⟩) (by assumption) ?_
      · intro w hSw
        (try dsimp only at hSw)
        go_simp
      (try simp only [Act.put, List.setIfInBounds_toArray, List.set_cons_zero, List.set_cons_succ])
      refine take_G (i := 1) (d := 28) (v := v) rfl rfl (by kernel_rfl) (by kernel_rfl) (by kernel_rfl) (by kernel_rfl) (by kernel_rfl) (Or.inl ⟨by rfl, ?_⟩) (by assumption) ?_
      · intro w hSw
        (try dsimp only at hSw)
        go_simp
      (try simp only [Act.put, List.setIfInBounds_toArray, List.set_cons_zero, List.set_cons_succ])
      refine take_G (i := 2) (d := 29) (v := .pointer (some ⟨R, 0, none⟩)) rfl rfl (by kernel_rfl) (by kernel_rfl) (by kernel_rfl) (by kernel_rfl) (by kernel_rfl) (Or.inl ⟨by rfl, ?_⟩) (by assumption) ?_
      · intro w hSw
        (try dsimp only at hSw)
        go_simp
      (try simp only [Act.put, List.setIfInBounds_toArray, List.set_cons_zero, List.set_cons_succ])
      refine take_G (i := 3) (d := 30) (v := .pointer (some ⟨w.heap.size, 2, none⟩)) rfl rfl (by kernel_rfl) (by kernel_rfl) (by kernel_rfl) (by kernel_rfl) (by kernel_rfl) (Or.inl ⟨by rfl, ?_⟩) (by assumption) ?_
      · intro w hSw
        (try dsimp only at hSw)
        go_simp
      (try simp only [Act.put, List.setIfInBounds_toArray, List.set_cons_zero, List.set_cons_succ])
      refine take_G (i := 4) (d := 31) (v := .slice (some ⟨b1, o1, none⟩) len p1) rfl rfl (by kernel_rfl) (by kernel_rfl) (by kernel_rfl) (by kernel_rfl) (by kernel_rfl) (Or.inl ⟨by rfl, ?_⟩) (by assumption) ?_
      · intro w hSw
        (try dsimp only at hSw)
        go_simp
      (try simp only [Act.put, List.setIfInBounds_toArray, List.set_cons_zero, List.set_cons_succ])
      refine take_G (i := 5) (d := 32) (v := .int .i64 (k : Int)) rfl rfl (by kernel_rfl) (by kernel_rfl) (by kernel_rfl) (by kernel_rfl) (by kernel_rfl) (Or.inl ⟨by rfl, ?_⟩) (by assumption) ?_
      · intro w hSw
        (try dsimp only at hSw)
        go_simp
      (try simp only [Act.put, List.setIfInBounds_toArray, List.set_cons_zero, List.set_cons_succ])
      refine take_G (i := 6) (d := 33) (v := .pointer (some ⟨b1, o1 + k, none⟩)) rfl rfl (by kernel_rfl) (by kernel_rfl) (by kernel_rfl) (by kernel_rfl) (by kernel_rfl) (Or.inl ⟨by rfl, ?_⟩) (by assumption) ?_
      · intro w hSw
        (try dsimp only at hSw)
        go_simp
      (try simp only [Act.put, List.setIfInBounds_toArray, List.set_cons_zero, List.set_cons_succ])
      refine take_G (i := 7) (d := 34) (v := .int .i64 x) rfl rfl (by kernel_rfl) (by kernel_rfl) (by kernel_rfl) (by kernel_rfl) (by kernel_rfl) (Or.inl ⟨by rfl, ?_⟩) (by assumption) ?_
      · intro w hSw
        (try dsimp only at hSw)
        go_simp
      (try simp only [Act.put, List.setIfInBounds_toArray, List.set_cons_zero, List.set_cons_succ])
      refine take_G (i := 8) (d := 35) (v := .pointer (some ⟨w.heap.size + 1, 2, none⟩)) rfl rfl (by kernel_rfl) (by kernel_rfl) (by kernel_rfl) (by kernel_rfl) (by kernel_rfl) (Or.inl ⟨by rfl, ?_⟩) (by assumption) ?_
      · intro w hSw
        (try dsimp only at hSw)
        go_simp
      (try simp only [Act.put, List.setIfInBounds_toArray, List.set_cons_zero, List.set_cons_succ])
      refine take_G (i := 9) (d := 36) (v := .slice (some ⟨b2, o2, none⟩) len p2) rfl rfl (by kernel_rfl) (by kernel_rfl) (by kernel_rfl) (by kernel_rfl) (by kernel_rfl) (Or.inl ⟨by rfl, ?_⟩) (by assumption) ?_
      · intro w hSw
        (try dsimp only at hSw)
        go_simp
      (try simp only [Act.put, List.setIfInBounds_toArray, List.set_cons_zero, List.set_cons_succ])
      refine take_G (i := 10) (d := 37) (v := .int .i64 (k : Int)) rfl rfl (by kernel_rfl) (by kernel_rfl) (by kernel_rfl) (by kernel_rfl) (by kernel_rfl) (Or.inl ⟨by rfl, ?_⟩) (by assumption) ?_
      · intro w hSw
        (try dsimp only at hSw)
        go_simp
      (try simp only [Act.put, List.setIfInBounds_toArray, List.set_cons_zero, List.set_cons_succ])
      refine take_G (i := 11) (d := 38) (v := .pointer (some ⟨b2, o2 + k, none⟩)) rfl rfl (by kernel_rfl) (by kernel_rfl) (by kernel_rfl) (by kernel_rfl) (by kernel_rfl) (Or.inl ⟨by rfl, ?_⟩) (by assumption) ?_
      · intro w hSw
        (try dsimp only at hSw)
        go_simp
      (try simp only [Act.put, List.setIfInBounds_toArray, List.set_cons_zero, List.set_cons_succ])
      refine take_G (i := 12) (d := 39) (v := .int .i64 y) rfl rfl (by kernel_rfl) (by kernel_rfl) (by kernel_rfl) (by kernel_rfl) (by kernel_rfl) (Or.inl ⟨by rfl, ?_⟩) (by assumption) ?_
      · intro w hSw
        (try dsimp only at hSw)
        go_simp
      (try simp only [Act.put, List.setIfInBounds_toArray, List.set_cons_zero, List.set_cons_succ])
      refine step_G (i := 13) (by kernel_rfl) (fun K hK => ?_)
      refine wpOp_of rfl rfl ?_
      unfold Oper.wp
      go_simp
      refine hK _ _ (fun _ => ⟨by simp [go_sem, *], by simp [go_sem, *], by simp [go_sem, *], by simp [go_sem, *], by simp [go_sem, *]⟩) ?_
      clear hK K
      (try simp only [Act.put, List.setIfInBounds_toArray, List.set_cons_zero, List.set_cons_succ])
      refine step_G (i := 14) (by kernel_rfl) (fun K hK => ?_)
      refine wpOp_of rfl rfl ?_
      unfold Oper.wp
      go_simp
      refine (unhide RA _ _ _ (unhide A0).1.2.2.2.2.2.1 (unhide A0).2.1 (unhide A0).2.2).mono ?_
      rintro e w4 ⟨rfl, h4, m4⟩
      have I4 := (unhide A0).1.mod m4 h4
      obtain ⟨c21, c22, c23, c24, c25⟩ := unhide CW w4 _ _ _ I4.2
      have z21 := heap_gt c21
      have z22 := heap_gt c22
      have z23 := heap_gt c23
      have z24 := heap_gt c24
      have z25 := heap_gt c25
      have A2 := hide (I4.grown #[.int .i64 z] 3)
      clear h4 m4 A0 I4 hHeld hc1 hc2 hc3 hc4 hc5 hz1 hz2 hz3 hz4 hz5
      refine hK _ _ (fun _ => ⟨c21, c22, c23, c24, c25⟩) ?_
      clear hK K
      (try simp only [Act.put, List.setIfInBounds_toArray, List.set_cons_zero, List.set_cons_succ])
      refine step_G (i := 15) (by kernel_rfl) (fun K hK => ?_)
      refine wpOp_of rfl rfl ?_
      unfold Oper.wp
      go_simp
      refine hK _ _ (fun _ => ⟨by simp [go_sem, *], by simp [go_sem, *], by simp [go_sem, *], by simp [go_sem, *], by simp [go_sem, *]⟩) ?_
      clear hK K
      (try simp only [Act.put, List.setIfInBounds_toArray, List.set_cons_zero, List.set_cons_succ])
      refine step_G (i := 16) (by kernel_rfl) (fun K hK => ?_)
      refine wpOp_of rfl rfl ?_
      refine wp_append rfl (.tmp 28) (.tmp 42) rfl (L + 1) k v Z z (unhide EK).1 w4.heap.size (by first | rfl | simp [Act.eval, Act.put]) (by first | rfl | simp [Act.eval, Act.put]) (unhide A2).1 (Blk.cell (Blk.new w4 _ _) 0) hk1 (by have := Blk.lt (unhide A2).2.2.2.2.1; omega) ?_
      intro v' w5 hg5
      obtain ⟨g', cap', rfl⟩ := ownsRow_succ (unhide hg5).1
      have P := DI.app (unhide A2) (unhide hg5)
      obtain ⟨d1, d2, d3, d4, d5⟩ := unhide CW w5 _ _ _ P.1
      have q3 := Blk.free P.1.2.2.2.1 2
      have HP5 := hide P.2
      clear P hg5 A2 c21 c22 c23 c24 c25 z21 z22 z23 z24 z25
      refine hK _ _ (fun _ => ⟨d1, d2, d3, d4, d5⟩) ?_
      clear hK K
      (try simp only [Act.put, List.setIfInBounds_toArray, List.set_cons_zero, List.set_cons_succ])
      have hHeld := (And.intro d1 (And.intro d2 (And.intro d3 (And.intro d4 d5))))
      refine take_G (i := 17) (d := 44) (v := .pointer (some ⟨L, 2, none⟩)) rfl rfl (by kernel_rfl) (by kernel_rfl) (by kernel_rfl) (by kernel_rfl) (by kernel_rfl) (Or.inl ⟨by rfl, ?_⟩) (by assumption) ?_
      · intro w hSw
        (try dsimp only at hSw)
        go_simp
      (try simp only [Act.put, List.setIfInBounds_toArray, List.set_cons_zero, List.set_cons_succ])
      refine step_G (i := 18) (by kernel_rfl) (fun K hK => ?_)
      refine wpOp_of rfl rfl ?_
      unfold Oper.wp
      go_simp
      refine hK _ _ (fun h => absurd rfl h) ?_
      clear hK K
      (try simp only [Act.put, List.setIfInBounds_toArray, List.set_cons_zero, List.set_cons_succ])
      refine done_G (by kernel_rfl) ?_
      have R5 : Hid (∃ v, DI w R w.heap.size (w.heap.size + 1) (w.heap.size + 1 + 1) L #[.int .i64 r, .int .i64 c, .slice (some ⟨b1, o1, none⟩) len p1] #[.int .i64 r, .int .i64 c, .slice (some ⟨b2, o2, none⟩) len p2] r c Z (c0 || orC (fun p => s2C (X p) (Y p)) (k + 1)) (n + 2 * ((k + 1 : Nat) : Int)) (k + 1) v (w5.setCell ⟨L, 2, none⟩ (.slice (some ⟨g', 0, none⟩) (k + 1) cap'))) := by
        show ∃ v, _
        rw [(unhide EK).2.1, (unhide EK).2.2]
        exact ⟨_, unhide HP5⟩
      clear HP5 EK RA CW d1 d2 d3 d4 d5 q3 hHeld
      refine noPanic_normal ?_
      go_wp2
      go_roundw
      case rel => exact ⟨k + 1, by omega, by go_num, R5⟩
      case measure => simp [intOf]; omega
    · obtain rfl : k = len := by omega
      obtain ⟨v, h0, b0, b1, b2, hM, hu, hm, hl⟩ := unhide HI
      obtain ⟨ao2, cap2, rfl, h1, h3, h4⟩ := owns_rowC h0
      have y0 : wr.cell? ⟨L, 0, none⟩ = some (.int .i64 r) := Blk.cell hM 0
      have y1 : wr.cell? ⟨L, 1, none⟩ = some (.int .i64 c) := Blk.cell hM 1
      have y2 : wr.cell? ⟨L, 2, none⟩ = some (.slice ao2 k cap2) := Blk.cell hM 2
      have t2 : wr.cell? ⟨w.heap.size, 2, none⟩ = some (.slice a1 k p1) := Blk.cell b0 2
      have e0 : wr.cell? ⟨w.heap.size + 1 + 1, 0, none⟩ = some (.int .i64 0) := Blk.cell b2 0
      have e1 : wr.cell? ⟨w.heap.size + 1 + 1, 1, none⟩ = some (.int .i64 0) := Blk.cell b2 1
      have e2 : wr.cell? ⟨w.heap.size + 1 + 1, 2, none⟩ = some (.slice none 0 0) := Blk.cell b2 2
      have f := Blk.free b2
      have R6 := hide (And.intro b2 (And.intro h1 (And.intro h3 (And.intro h4 (And.intro hu (And.intro hm hl))))))
      clear h0 b0 b1 b2 hM hu hm hl h1 h3 h4 HI
      go_wp2
      obtain ⟨b2, h1, h3, h4, hu, hm, hl⟩ := unhide R6
      have P := putM b2 (.int .i64 r) (.int .i64 c) (.slice ao2 k cap2)
      generalize (((wr.setCell ⟨w.heap.size + 1 + 1, 0, none⟩ (.int .i64 r)).setCell ⟨w.heap.size + 1 + 1, 1, none⟩ (.int .i64 c)).setCell ⟨w.heap.size + 1 + 1, 2, none⟩ (.slice ao2 k cap2)) = wE at *
      have c0 : wE.cell? ⟨w.heap.size + 1 + 1, 0, none⟩ = some (.int .i64 r) := Blk.cell P.1 0
      have c1 : wE.cell? ⟨w.heap.size + 1 + 1, 1, none⟩ = some (.int .i64 c) := Blk.cell P.1 1
      have c2 : wE.cell? ⟨w.heap.size + 1 + 1, 2, none⟩ = some (.slice ao2 k cap2) := Blk.cell P.1 2
      refine bodyPost_ret (v := .tuple #[.agg #[.int .i64 r, .int .i64 c, .slice ao2 k cap2], .int .i64 0]) (by simp [results, Tryz.results10, go_sem, c0, c1, c2]) rfl ?_
      exact ⟨_, _, rfl, h1, h3.mod P.2 (h4 _ (by omega)), fun U hU => h4 U (by omega), Blk.keep hu P.2 (by omega), hm.new P.2 (by omega)⟩


set_option maxRecDepth 20000 in
set_option maxHeartbeats 8000000 in
theorem refLess_ok (R : Nat) (c0 : Bool) (n : Int) (r c : Int) (a1 a2 : Option Addr) (len p1 p2 : Nat) (X Y : Nat → Int) (hok : okM r c len) (hn : 0 ≤ n ∧ n < 1152921504606846976) (hX : Hid (∀ i, i < len → I64 (X i))) (hY : Hid (∀ i, i < len → I64 (Y i))) (w : World) (h : RC R c0 n w)
    (hr : Row w a1 len X) (ho : Off R len a1) (ht : Row w a2 len Y) (hp : Off R len a2) :
    Calls Tryz.prog 12 #[.pointer (some ⟨R, 0, none⟩), .agg #[.int .i64 r, .int .i64 c, .slice a1 len p1], .agg #[.int .i64 r, .int .i64 c, .slice a2 len p2]] w fun e w' => DocP r c len (fun p => subN (X p) (Y p)) 0 (fun w' => RC R (c0 || orC (fun p => subC (X p) (Y p)) len) (n + 1 * len) w' ∧ Mk R w w') w e w' := by
  have hlen : len ≤ 144 := by have := mul12 r c hok.1 hok.2.1; have := hok.2.2; omega
  have AL := hide (fun w => refAlike_ok r c r c a1 a2 len p1 len p2 ⟨hok, hok, rfl, rfl⟩ w)
  have lR := Blk.lt h
  obtain ⟨G, s3, x0, x1, x2⟩ := alloc3 w #[.int .i64 r, .int .i64 c, .slice a1 len p1] 24 #[.int .i64 r, .int .i64 c, .slice a2 len p2] 24 #[.int .i64 0, .int .i64 0, .slice none 0 0] 24
  have HB := hide (And.intro x0 (And.intro x1 x2))
  have HG := hide (And.intro G (And.intro s3 lR))
  have HU := hide h
  have HR := hide hr
  have HO := hide ho
  have HT := hide ht
  have HP := hide hp
  have HN := hide hn
  clear h hr ho ht hp hn hok G s3 x0 x1 x2
  obtain ⟨Z, hZ⟩ : ∃ Z, Z = fun p => subN (X p) (Y p) := ⟨_, rfl⟩
  rw [← hZ]
  have EZ : Hid (∀ i, Z i = subN (X i) (Y i)) := fun i => by rw [hZ]
  clear hZ
  have lR' := hide lR
  clear lR
  go_enter Tryz.func12, Tryz.ntmps12
  go_wp2_with fail
  generalize (((w.alloc (.cells #[.int .i64 r, .int .i64 c, .slice a1 len p1] 24)).alloc (.cells #[.int .i64 r, .int .i64 c, .slice a2 len p2] 24)).alloc (.cells #[.int .i64 0, .int .i64 0, .slice none 0 0] 24)) = w1 at *
  refine (unhide AL _).mono ?_
  rintro e w2 ⟨rfl, g2⟩
  have B0 := Blk.grown (unhide HB).1 g2
  have B1 := Blk.grown (unhide HB).2.1 g2
  have y0 : w2.cell? ⟨w.heap.size, 0, none⟩ = some (.int .i64 r) := Blk.cell B0 0
  have y1 : w2.cell? ⟨w.heap.size, 1, none⟩ = some (.int .i64 c) := Blk.cell B0 1
  have ST : Hid (DI w R w.heap.size (w.heap.size + 1) (w.heap.size + 1 + 1) w2.heap.size #[.int .i64 r, .int .i64 c, .slice a1 len p1] #[.int .i64 r, .int .i64 c, .slice a2 len p2] r c Z (c0 || orC (fun p => subC (X p) (Y p)) 0) (n + 1 * (0 : Nat)) 0 (.slice none 0 0) (w2.alloc (.cells #[.int .i64 r, .int .i64 c, .slice none 0 0] 24))) := by
    have G3 : Grown w2 (w2.alloc (.cells #[.int .i64 r, .int .i64 c, .slice none 0 0] 24)) := (Grown.refl _).alloc _ _
    have gg := gtrans (unhide HG).1 g2
    have s := (unhide HG).2.1
    have s2 := g2.2.2
    refine ⟨World.ownsRow_nil _ _ _ _, Blk.grown B0 G3, Blk.grown B1 G3, Blk.grown (Blk.grown (unhide HB).2.2 g2) G3, Blk.new w2 _ _, ?_, (Mk.of (Mod.of gg)).grown G3, unhide lR', Nat.le_refl _, by omega, by omega, by omega, by omega, by omega⟩
    show RC _ (c0 || false) (n + 1 * 0) _
    rw [Bool.or_false, Int.mul_zero, Int.add_zero]
    exact Blk.grown (Blk.grown (unhide HU) gg) G3
  clear B0 B1 AL HU HB HG g2
  go_wp2_with fail
  generalize w2.alloc (.cells #[.int .i64 r, .int .i64 c, .slice none 0 0] 24) = w3 at *
  generalize w2.heap.size = L at *
  clear y0 y1
  go_loopw [9] (fun i wr => ∃ k : Nat, k ≤ len ∧ i = .int .i64 k ∧ Hid (∃ v, DI w R w.heap.size (w.heap.size + 1) (w.heap.size + 1 + 1) L #[.int .i64 r, .int .i64 c, .slice a1 len p1] #[.int .i64 r, .int .i64 c, .slice a2 len p2] r c Z (c0 || orC (fun p => subC (X p) (Y p)) k) (n + 1 * k) k v wr)) (fun i _ => len - (intOf i).toNat)
  case atStart => exact ⟨0, Nat.zero_le _, rfl, _, unhide ST⟩
  case round =>
    obtain ⟨k, hk, rfl, HI⟩ := hrel
    clear ST
    by_cases hlt : k < len
    · obtain ⟨v, hI⟩ := unhide HI
      obtain ⟨b1, o1, rfl, hw1⟩ := (unhide HR).at hlt
      obtain ⟨b2, o2, rfl, hw2⟩ := (unhide HT).at hlt
      obtain ⟨x, ex⟩ : ∃ x, X k = x := ⟨_, rfl⟩
      obtain ⟨y, ey⟩ : ∃ y, Y k = y := ⟨_, rfl⟩
      obtain ⟨z, ez⟩ : ∃ z, subN x y = z := ⟨_, rfl⟩
      rw [ex] at hw1
      rw [ey] at hw2
      have RA := hide (fun W h => refUSub R (c0 || orC (fun p => subC (X p) (Y p)) k) (n + 1 * k) x y (by rw [← ex]; exact unhide hX k hlt) (by rw [← ey]; exact unhide hY k hlt) (by have := unhide HN; omega) W h)
      rw [ez] at RA
      have EK : Hid (Z k = z ∧ (c0 || orC (fun p => subC (X p) (Y p)) (k + 1)) = (c0 || orC (fun p => subC (X p) (Y p)) k || subC x y) ∧ n + 1 * ((k + 1 : Nat) : Int) = n + 1 * k + 1) := by
        refine ⟨by rw [unhide EZ, ex, ey, ez], ?_, by omega⟩
        show (c0 || (orC (fun p => subC (X p) (Y p)) k || subC (X k) (Y k))) = _
        rw [ex, ey, Bool.or_assoc]
      have CW : Hid (∀ wx v cut n, DA w R w.heap.size (w.heap.size + 1) (w.heap.size + 1 + 1) L #[.int .i64 r, .int .i64 c, .slice (some ⟨b1, o1, none⟩) len p1] #[.int .i64 r, .int .i64 c, .slice (some ⟨b2, o2, none⟩) len p2] r c v cut n wx → wx.cell? ⟨b1, o1 + k, none⟩ = some (.int .i64 x) ∧ wx.cell? ⟨b2, o2 + k, none⟩ = some (.int .i64 y) ∧ wx.cell? ⟨w.heap.size, 2, none⟩ = some (.slice (some ⟨b1, o1, none⟩) len p1) ∧ wx.cell? ⟨w.heap.size + 1, 2, none⟩ = some (.slice (some ⟨b2, o2, none⟩) len p2) ∧ wx.cell? ⟨L, 2, none⟩ = some v) := fun wx v cut n m => ⟨m.2.2.2.2.2.1.cell hw1 (unhide HO (by omega) _ rfl), m.2.2.2.2.2.1.cell hw2 (unhide HP (by omega) _ rfl), Blk.cell m.1 2, Blk.cell m.2.1 2, Blk.cell m.2.2.2.1 2⟩
      obtain ⟨hc1, hc2, hc3, hc4, hc5⟩ := unhide CW wr _ _ _ hI.2
      have hz1 : b1 < wr.heap.size := heap_gt hc1
      have hz2 : b2 < wr.heap.size := heap_gt hc2
      have hz3 : w.heap.size < wr.heap.size := heap_gt hc3
      have hz4 : w.heap.size + 1 < wr.heap.size := heap_gt hc4
      have hz5 : L < wr.heap.size := heap_gt hc5
      have i0 : (0 : Int) ≤ (k : Int) := by omega
      have i1 : (k : Int) < (len : Int) := by omega
      have hk1 : k ≤ 1000000 := by omega
      have A0 : Hid (DI w R w.heap.size (w.heap.size + 1) (w.heap.size + 1 + 1) L #[.int .i64 r, .int .i64 c, .slice (some ⟨b1, o1, none⟩) len p1] #[.int .i64 r, .int .i64 c, .slice (some ⟨b2, o2, none⟩) len p2] r c Z (c0 || orC (fun p => subC (X p) (Y p)) k) (n + 1 * k) k v wr.drew ∧ True) := ⟨hI, trivial⟩
      clear ex ey ez HI hI hw1 hw2
      go_wp2
      refine region_G (fun w' => w'.cell? ⟨b1, o1 + k, none⟩ = some (.int .i64 x) ∧ w'.cell? ⟨b2, o2 + k, none⟩ = some (.int .i64 y) ∧ w'.cell? ⟨w.heap.size, 2, none⟩ = some (.slice (some ⟨b1, o1, none⟩) len p1) ∧ w'.cell? ⟨w.heap.size + 1, 2, none⟩ = some (.slice (some ⟨b2, o2, none⟩) len p2) ∧ w'.cell? ⟨L, 2, none⟩ = some v) 17 (by kernel_rfl) ⟨hc1, hc2, hc3, hc4, hc5⟩ (fun hHeld => ?_)
      refine take_G (i := 0) (d := 27) (v := .pointer (some ⟨L, 2, none⟩)) rfl rfl (by kernel_rfl) (by kernel_rfl) (by kernel_rfl) (by kernel_rfl) (by kernel_rfl) (Or.inl ⟨by rfl, ?_⟩) (by assumption) ?_
      · intro w hSw
        (try dsimp only at hSw)
        go_simp
      (try simp only [Act.put, List.setIfInBounds_toArray, List.set_cons_zero, List.set_cons_succ])
      refine take_G (i := 1) (d := 28) (v := v) rfl rfl (by kernel_rfl) (by kernel_rfl) (by kernel_rfl) (by kernel_rfl) (by kernel_rfl) (Or.inl ⟨by rfl, ?_⟩) (by assumption) ?_
      · intro w hSw
        (try dsimp only at hSw)
        go_simp
      (try simp only [Act.put, List.setIfInBounds_toArray, List.set_cons_zero, List.set_cons_succ])
      refine take_G (i := 2) (d := 29) (v := .pointer (some ⟨R, 0, none⟩)) rfl rfl (by kernel_rfl) (by kernel_rfl) (by kernel_rfl) (by kernel_rfl) (by kernel_rfl) (Or.inl ⟨by rfl, ?_⟩) (by assumption) ?_
      · intro w hSw
        (try dsimp only at hSw)
        go_simp
      (try simp only [Act.put, List.setIfInBounds_toArray, List.set_cons_zero, List.set_cons_succ])
      refine take_G (i := 3) (d := 30) (v := .pointer (some ⟨w.heap.size, 2, none⟩)) rfl rfl (by kernel_rfl) (by kernel_rfl) (by kernel_rfl) (by kernel_rfl) (by kernel_rfl) (Or.inl ⟨by rfl, ?_⟩) (by assumption) ?_
      · intro w hSw
        (try dsimp only at hSw)
        go_simp
      (try simp only [Act.put, List.setIfInBounds_toArray, List.set_cons_zero, List.set_cons_succ])
      refine take_G (i := 4) (d := 31) (v := .slice (some ⟨b1, o1, none⟩) len p1) rfl rfl (by kernel_rfl) (by kernel_rfl) (by kernel_rfl) (by kernel_rfl) (by kernel_rfl) (Or.inl ⟨by rfl, ?_⟩) (by assumption) ?_
      · intro w hSw
        (try dsimp only at hSw)
        go_simp
      (try simp only [Act.put, List.setIfInBounds_toArray, List.set_cons_zero, List.set_cons_succ])
      refine take_G (i := 5) (d := 32) (v := .int .i64 (k : Int)) rfl rfl (by kernel_rfl) (by kernel_rfl) (by kernel_rfl) (by kernel_rfl) (by kernel_rfl) (Or.inl ⟨by rfl, ?_⟩) (by assumption) ?_
      · intro w hSw
        (try dsimp only at hSw)
        go_simp
      (try simp only [Act.put, List.setIfInBounds_toArray, List.set_cons_zero, List.set_cons_succ])
      refine take_G (i := 6) (d := 33) (v := .pointer (some ⟨b1, o1 + k, none⟩)) rfl rfl (by kernel_rfl) (by kernel_rfl) (by kernel_rfl) (by kernel_rfl) (by kernel_rfl) (Or.inl ⟨by rfl, ?_⟩) (by assumption) ?_
      · intro w hSw
        (try dsimp only at hSw)
        go_simp
      (try simp only [Act.put, List.setIfInBounds_toArray, List.set_cons_zero, List.set_cons_succ])
      refine take_G (i := 7) (d := 34) (v := .int .i64 x) rfl rfl (by kernel_rfl) (by kernel_rfl) (by kernel_rfl) (by kernel_rfl) (by kernel_rfl) (Or.inl ⟨by rfl, ?_⟩) (by assumption) ?_
      · intro w hSw
        (try dsimp only at hSw)
        go_simp
      (try simp only [Act.put, List.setIfInBounds_toArray, List.set_cons_zero, List.set_cons_succ])
      refine take_G (i := 8) (d := 35) (v := .pointer (some ⟨w.heap.size + 1, 2, none⟩)) rfl rfl (by kernel_rfl) (by kernel_rfl) (by kernel_rfl) (by kernel_rfl) (by kernel_rfl) (Or.inl ⟨by rfl, ?_⟩) (by assumption) ?_
      · intro w hSw
        (try dsimp only at hSw)
        go_simp
      (try simp only [Act.put, List.setIfInBounds_toArray, List.set_cons_zero, List.set_cons_succ])
      refine take_G (i := 9) (d := 36) (v := .slice (some ⟨b2, o2, none⟩) len p2) rfl rfl (by kernel_rfl) (by kernel_rfl) (by kernel_rfl) (by kernel_rfl) (by kernel_rfl) (Or.inl ⟨by rfl, ?_⟩) (by assumption) ?_
      · intro w hSw
        (try dsimp only at hSw)
        go_simp
      (try simp only [Act.put, List.setIfInBounds_toArray, List.set_cons_zero, List.set_cons_succ])
      refine take_G (i := 10) (d := 37) (v := .int .i64 (k : Int)) rfl rfl (by kernel_rfl) (by kernel_rfl) (by kernel_rfl) (by kernel_rfl) (by kernel_rfl) (Or.inl ⟨by rfl, ?_⟩) (by assumption) ?_
      · intro w hSw
        (try dsimp only at hSw)
        go_simp
      (try simp only [Act.put, List.setIfInBounds_toArray, List.set_cons_zero, List.set_cons_succ])
      refine take_G (i := 11) (d := 38) (v := .pointer (some ⟨b2, o2 + k, none⟩)) rfl rfl (by kernel_rfl) (by kernel_rfl) (by kernel_rfl) (by kernel_rfl) (by kernel_rfl) (Or.inl ⟨by rfl, ?_⟩) (by assumption) ?_
      · intro w hSw
        (try dsimp only at hSw)
        go_simp
      (try simp only [Act.put, List.setIfInBounds_toArray, List.set_cons_zero, List.set_cons_succ])
      refine take_G (i := 12) (d := 39) (v := .int .i64 y) rfl rfl (by kernel_rfl) (by kernel_rfl) (by kernel_rfl) (by kernel_rfl) (by kernel_rfl) (Or.inl ⟨by rfl, ?_⟩) (by assumption) ?_
      · intro w hSw
        (try dsimp only at hSw)
        go_simp
      (try simp only [Act.put, List.setIfInBounds_toArray, List.set_cons_zero, List.set_cons_succ])
      refine step_G (i := 13) (by kernel_rfl) (fun K hK => ?_)
      refine wpOp_of rfl rfl ?_
      unfold Oper.wp
      go_simp
      refine (unhide RA _ (unhide A0).1.2.2.2.2.2.1).mono ?_
      rintro e w4 ⟨rfl, h4, m4⟩
      have I4 := (unhide A0).1.mod m4 h4
      obtain ⟨c21, c22, c23, c24, c25⟩ := unhide CW w4 _ _ _ I4.2
      have z21 := heap_gt c21
      have z22 := heap_gt c22
      have z23 := heap_gt c23
      have z24 := heap_gt c24
      have z25 := heap_gt c25
      have A2 := hide (I4.grown #[.int .i64 z] 3)
      clear h4 m4 A0 I4 hHeld hc1 hc2 hc3 hc4 hc5 hz1 hz2 hz3 hz4 hz5
      refine hK _ _ (fun _ => ⟨c21, c22, c23, c24, c25⟩) ?_
      clear hK K
      (try simp only [Act.put, List.setIfInBounds_toArray, List.set_cons_zero, List.set_cons_succ])
      refine step_G (i := 14) (by kernel_rfl) (fun K hK => ?_)
      refine wpOp_of rfl rfl ?_
      unfold Oper.wp
      go_simp
      refine hK _ _ (fun _ => ⟨by simp [go_sem, *], by simp [go_sem, *], by simp [go_sem, *], by simp [go_sem, *], by simp [go_sem, *]⟩) ?_
      clear hK K
      (try simp only [Act.put, List.setIfInBounds_toArray, List.set_cons_zero, List.set_cons_succ])
      refine step_G (i := 15) (by kernel_rfl) (fun K hK => ?_)
      refine wpOp_of rfl rfl ?_
      refine wp_append rfl (.tmp 28) (.tmp 41) rfl (L + 1) k v Z z (unhide EK).1 w4.heap.size (by first | rfl | simp [Act.eval, Act.put]) (by first | rfl | simp [Act.eval, Act.put]) (unhide A2).1 (Blk.cell (Blk.new w4 _ _) 0) hk1 (by have := Blk.lt (unhide A2).2.2.2.2.1; omega) ?_
      intro v' w5 hg5
      obtain ⟨g', cap', rfl⟩ := ownsRow_succ (unhide hg5).1
      have P := DI.app (unhide A2) (unhide hg5)
      obtain ⟨d1, d2, d3, d4, d5⟩ := unhide CW w5 _ _ _ P.1
      have q3 := Blk.free P.1.2.2.2.1 2
      have HP5 := hide P.2
      clear P hg5 A2 c21 c22 c23 c24 c25 z21 z22 z23 z24 z25
      refine hK _ _ (fun _ => ⟨d1, d2, d3, d4, d5⟩) ?_
      clear hK K
      (try simp only [Act.put, List.setIfInBounds_toArray, List.set_cons_zero, List.set_cons_succ])
      have hHeld := (And.intro d1 (And.intro d2 (And.intro d3 (And.intro d4 d5))))
      refine take_G (i := 16) (d := 43) (v := .pointer (some ⟨L, 2, none⟩)) rfl rfl (by kernel_rfl) (by kernel_rfl) (by kernel_rfl) (by kernel_rfl) (by kernel_rfl) (Or.inl ⟨by rfl, ?_⟩) (by assumption) ?_
      · intro w hSw
        (try dsimp only at hSw)
        go_simp
      (try simp only [Act.put, List.setIfInBounds_toArray, List.set_cons_zero, List.set_cons_succ])
      refine step_G (i := 17) (by kernel_rfl) (fun K hK => ?_)
      refine wpOp_of rfl rfl ?_
      unfold Oper.wp
      go_simp
      refine hK _ _ (fun h => absurd rfl h) ?_
      clear hK K
      (try simp only [Act.put, List.setIfInBounds_toArray, List.set_cons_zero, List.set_cons_succ])
      refine done_G (by kernel_rfl) ?_
      have R5 : Hid (∃ v, DI w R w.heap.size (w.heap.size + 1) (w.heap.size + 1 + 1) L #[.int .i64 r, .int .i64 c, .slice (some ⟨b1, o1, none⟩) len p1] #[.int .i64 r, .int .i64 c, .slice (some ⟨b2, o2, none⟩) len p2] r c Z (c0 || orC (fun p => subC (X p) (Y p)) (k + 1)) (n + 1 * ((k + 1 : Nat) : Int)) (k + 1) v (w5.setCell ⟨L, 2, none⟩ (.slice (some ⟨g', 0, none⟩) (k + 1) cap'))) := by
        show ∃ v, _
        rw [(unhide EK).2.1, (unhide EK).2.2]
        exact ⟨_, unhide HP5⟩
      clear HP5 EK RA CW d1 d2 d3 d4 d5 q3 hHeld
      refine noPanic_normal ?_
      go_wp2
      go_roundw
      case rel => exact ⟨k + 1, by omega, by go_num, R5⟩
      case measure => simp [intOf]; omega
    · obtain rfl : k = len := by omega
      obtain ⟨v, h0, b0, b1, b2, hM, hu, hm, hl⟩ := unhide HI
      obtain ⟨ao2, cap2, rfl, h1, h3, h4⟩ := owns_rowC h0
      have y0 : wr.cell? ⟨L, 0, none⟩ = some (.int .i64 r) := Blk.cell hM 0
      have y1 : wr.cell? ⟨L, 1, none⟩ = some (.int .i64 c) := Blk.cell hM 1
      have y2 : wr.cell? ⟨L, 2, none⟩ = some (.slice ao2 k cap2) := Blk.cell hM 2
      have t2 : wr.cell? ⟨w.heap.size, 2, none⟩ = some (.slice a1 k p1) := Blk.cell b0 2
      have e0 : wr.cell? ⟨w.heap.size + 1 + 1, 0, none⟩ = some (.int .i64 0) := Blk.cell b2 0
      have e1 : wr.cell? ⟨w.heap.size + 1 + 1, 1, none⟩ = some (.int .i64 0) := Blk.cell b2 1
      have e2 : wr.cell? ⟨w.heap.size + 1 + 1, 2, none⟩ = some (.slice none 0 0) := Blk.cell b2 2
      have f := Blk.free b2
      have R6 := hide (And.intro b2 (And.intro h1 (And.intro h3 (And.intro h4 (And.intro hu (And.intro hm hl))))))
      clear h0 b0 b1 b2 hM hu hm hl h1 h3 h4 HI
      go_wp2
      obtain ⟨b2, h1, h3, h4, hu, hm, hl⟩ := unhide R6
      have P := putM b2 (.int .i64 r) (.int .i64 c) (.slice ao2 k cap2)
      generalize (((wr.setCell ⟨w.heap.size + 1 + 1, 0, none⟩ (.int .i64 r)).setCell ⟨w.heap.size + 1 + 1, 1, none⟩ (.int .i64 c)).setCell ⟨w.heap.size + 1 + 1, 2, none⟩ (.slice ao2 k cap2)) = wE at *
      have c0 : wE.cell? ⟨w.heap.size + 1 + 1, 0, none⟩ = some (.int .i64 r) := Blk.cell P.1 0
      have c1 : wE.cell? ⟨w.heap.size + 1 + 1, 1, none⟩ = some (.int .i64 c) := Blk.cell P.1 1
      have c2 : wE.cell? ⟨w.heap.size + 1 + 1, 2, none⟩ = some (.slice ao2 k cap2) := Blk.cell P.1 2
      refine bodyPost_ret (v := .tuple #[.agg #[.int .i64 r, .int .i64 c, .slice ao2 k cap2], .int .i64 0]) (by simp [results, Tryz.results12, go_sem, c0, c1, c2]) rfl ?_
      exact ⟨_, _, rfl, h1, h3.mod P.2 (h4 _ (by omega)), fun U hU => h4 U (by omega), Blk.keep hu P.2 (by omega), hm.new P.2 (by omega)⟩


set_option maxHeartbeats 2000000 in
theorem refSum_bad (R : Nat) (R1 C1 R2 C2 : Int) (a1 a2 : Option Addr) (l1 p1 l2 p2 : Nat) (Z : Nat → Int) (hb : ¬ (okM R1 C1 l1 ∧ okM R2 C2 l2 ∧ R1 = R2 ∧ C1 = C2)) (c0 : Bool) (n : Int) (w : World) (h : RC R c0 n w) :
    Calls Tryz.prog 10 #[.pointer (some ⟨R, 0, none⟩), .agg #[.int .i64 R1, .int .i64 C1, .slice a1 l1 p1], .agg #[.int .i64 R2, .int .i64 C2, .slice a2 l2 p2]] w fun e w' => DocP 0 0 0 Z 3 (fun w' => RC R c0 n w' ∧ Mk R w w') w e w' := by
  have AL := hide (fun w => refAlike_bad R1 C1 R2 C2 a1 a2 l1 p1 l2 p2 hb w)
  obtain ⟨G, s3, x0, x1, x2⟩ := alloc3 w #[.int .i64 R1, .int .i64 C1, .slice a1 l1 p1] 24 #[.int .i64 R2, .int .i64 C2, .slice a2 l2 p2] 24 #[.int .i64 0, .int .i64 0, .slice none 0 0] 24
  have lR := Blk.lt h
  have HB := hide x2
  have HG := hide (And.intro G (And.intro h lR))
  clear hb h lR G s3 x0 x1 x2
  go_enter Tryz.func10, Tryz.ntmps10
  go_wp2_with fail
  generalize (((w.alloc (.cells #[.int .i64 R1, .int .i64 C1, .slice a1 l1 p1] 24)).alloc (.cells #[.int .i64 R2, .int .i64 C2, .slice a2 l2 p2] 24)).alloc (.cells #[.int .i64 0, .int .i64 0, .slice none 0 0] 24)) = w1 at *
  refine (unhide AL _).mono ?_
  rintro e w2 ⟨rfl, g2⟩
  have b2 := Blk.grown (unhide HB) g2
  have e0 : w2.cell? ⟨w.heap.size + 1 + 1, 0, none⟩ = some (.int .i64 0) := Blk.cell b2 0
  have e1 : w2.cell? ⟨w.heap.size + 1 + 1, 1, none⟩ = some (.int .i64 0) := Blk.cell b2 1
  have e2 : w2.cell? ⟨w.heap.size + 1 + 1, 2, none⟩ = some (.slice none 0 0) := Blk.cell b2 2
  have f := Blk.free b2
  have R6 := hide (And.intro b2 g2)
  clear b2 g2 AL HB
  go_wp2
  obtain ⟨b2, g2⟩ := unhide R6
  have P := putM b2 (.int .i64 0) (.int .i64 0) (.slice none 0 0)
  generalize (((w2.setCell ⟨w.heap.size + 1 + 1, 0, none⟩ (.int .i64 0)).setCell ⟨w.heap.size + 1 + 1, 1, none⟩ (.int .i64 0)).setCell ⟨w.heap.size + 1 + 1, 2, none⟩ (.slice none 0 0)) = wE at *
  have c0 : wE.cell? ⟨w.heap.size + 1 + 1, 0, none⟩ = some (.int .i64 0) := Blk.cell P.1 0
  have c1 : wE.cell? ⟨w.heap.size + 1 + 1, 1, none⟩ = some (.int .i64 0) := Blk.cell P.1 1
  have c2 : wE.cell? ⟨w.heap.size + 1 + 1, 2, none⟩ = some (.slice none 0 0) := Blk.cell P.1 2
  refine bodyPost_ret (v := .tuple #[.agg #[.int .i64 0, .int .i64 0, .slice none 0 0], .int .i64 3]) (by simp [results, Tryz.results10, go_sem, c0, c1, c2]) rfl ?_
  obtain ⟨G, h, lR⟩ := unhide HG
  have gg := gtrans G g2
  exact ⟨_, _, rfl, Nat.le_refl _, Or.inl rfl, fun U hU hl => absurd hl (Nat.lt_irrefl _), Blk.keep (Blk.grown h gg) P.2 (by omega), (Mk.of (Mod.of gg)).new P.2 (by omega)⟩


set_option maxHeartbeats 2000000 in
theorem refLess_bad (R : Nat) (R1 C1 R2 C2 : Int) (a1 a2 : Option Addr) (l1 p1 l2 p2 : Nat) (Z : Nat → Int) (hb : ¬ (okM R1 C1 l1 ∧ okM R2 C2 l2 ∧ R1 = R2 ∧ C1 = C2)) (c0 : Bool) (n : Int) (w : World) (h : RC R c0 n w) :
    Calls Tryz.prog 12 #[.pointer (some ⟨R, 0, none⟩), .agg #[.int .i64 R1, .int .i64 C1, .slice a1 l1 p1], .agg #[.int .i64 R2, .int .i64 C2, .slice a2 l2 p2]] w fun e w' => DocP 0 0 0 Z 3 (fun w' => RC R c0 n w' ∧ Mk R w w') w e w' := by
  have AL := hide (fun w => refAlike_bad R1 C1 R2 C2 a1 a2 l1 p1 l2 p2 hb w)
  obtain ⟨G, s3, x0, x1, x2⟩ := alloc3 w #[.int .i64 R1, .int .i64 C1, .slice a1 l1 p1] 24 #[.int .i64 R2, .int .i64 C2, .slice a2 l2 p2] 24 #[.int .i64 0, .int .i64 0, .slice none 0 0] 24
  have lR := Blk.lt h
  have HB := hide x2
  have HG := hide (And.intro G (And.intro h lR))
  clear hb h lR G s3 x0 x1 x2
  go_enter Tryz.func12, Tryz.ntmps12
  go_wp2_with fail
  generalize (((w.alloc (.cells #[.int .i64 R1, .int .i64 C1, .slice a1 l1 p1] 24)).alloc (.cells #[.int .i64 R2, .int .i64 C2, .slice a2 l2 p2] 24)).alloc (.cells #[.int .i64 0, .int .i64 0, .slice none 0 0] 24)) = w1 at *
  refine (unhide AL _).mono ?_
  rintro e w2 ⟨rfl, g2⟩
  have b2 := Blk.grown (unhide HB) g2
  have e0 : w2.cell? ⟨w.heap.size + 1 + 1, 0, none⟩ = some (.int .i64 0) := Blk.cell b2 0
  have e1 : w2.cell? ⟨w.heap.size + 1 + 1, 1, none⟩ = some (.int .i64 0) := Blk.cell b2 1
  have e2 : w2.cell? ⟨w.heap.size + 1 + 1, 2, none⟩ = some (.slice none 0 0) := Blk.cell b2 2
  have f := Blk.free b2
  have R6 := hide (And.intro b2 g2)
  clear b2 g2 AL HB
  go_wp2
  obtain ⟨b2, g2⟩ := unhide R6
  have P := putM b2 (.int .i64 0) (.int .i64 0) (.slice none 0 0)
  generalize (((w2.setCell ⟨w.heap.size + 1 + 1, 0, none⟩ (.int .i64 0)).setCell ⟨w.heap.size + 1 + 1, 1, none⟩ (.int .i64 0)).setCell ⟨w.heap.size + 1 + 1, 2, none⟩ (.slice none 0 0)) = wE at *
  have c0 : wE.cell? ⟨w.heap.size + 1 + 1, 0, none⟩ = some (.int .i64 0) := Blk.cell P.1 0
  have c1 : wE.cell? ⟨w.heap.size + 1 + 1, 1, none⟩ = some (.int .i64 0) := Blk.cell P.1 1
  have c2 : wE.cell? ⟨w.heap.size + 1 + 1, 2, none⟩ = some (.slice none 0 0) := Blk.cell P.1 2
  refine bodyPost_ret (v := .tuple #[.agg #[.int .i64 0, .int .i64 0, .slice none 0 0], .int .i64 3]) (by simp [results, Tryz.results12, go_sem, c0, c1, c2]) rfl ?_
  obtain ⟨G, h, lR⟩ := unhide HG
  have gg := gtrans G g2
  exact ⟨_, _, rfl, Nat.le_refl _, Or.inl rfl, fun U hU hl => absurd hl (Nat.lt_irrefl _), Blk.keep (Blk.grown h gg) P.2 (by omega), (Mk.of (Mod.of gg)).new P.2 (by omega)⟩


set_option maxRecDepth 20000 in
set_option maxHeartbeats 8000000 in
theorem refScale_ok (R : Nat) (c0 : Bool) (n : Int) (r c s : Int) (hs : I64 s) (a1 : Option Addr) (len p1 : Nat) (X : Nat → Int) (hok : okM r c len) (hn : 0 ≤ n ∧ n < 1152921504606846976) (hX : Hid (∀ i, i < len → I64 (X i))) (w : World) (h : RC R c0 n w)
    (hr : Row w a1 len X) (ho : Off R len a1) :
    Calls Tryz.prog 14 #[.pointer (some ⟨R, 0, none⟩), .agg #[.int .i64 r, .int .i64 c, .slice a1 len p1], .int .i64 s] w fun e w' => DocP r c len (fun p => m2N (X p) s) 0 (fun w' => RC R (c0 || orC (fun p => m2C (X p) s) len) (n + 2 * len) w' ∧ Mk R w w') w e w' := by
  have hlen : len ≤ 144 := by have := mul12 r c hok.1 hok.2.1; have := hok.2.2; omega
  have AL := hide (fun w => refMCheck r c a1 len p1 w)
  rw [chk_ok hok] at AL
  have lR := Blk.lt h
  have HB : Hid (Blk w.heap.size #[.int .i64 r, .int .i64 c, .slice a1 len p1] 24 ((w.alloc (.cells #[.int .i64 r, .int .i64 c, .slice a1 len p1] 24)).alloc (.cells #[.int .i64 0, .int .i64 0, .slice none 0 0] 24)) ∧ Blk (w.heap.size + 1) #[.int .i64 0, .int .i64 0, .slice none 0 0] 24 ((w.alloc (.cells #[.int .i64 r, .int .i64 c, .slice a1 len p1] 24)).alloc (.cells #[.int .i64 0, .int .i64 0, .slice none 0 0] 24))) := ⟨Blk.grown (Blk.new w _ _) ((Grown.refl _).alloc _ _), blk_new2 w _ _ _⟩
  have HG : Hid (Grown w ((w.alloc (.cells #[.int .i64 r, .int .i64 c, .slice a1 len p1] 24)).alloc (.cells #[.int .i64 0, .int .i64 0, .slice none 0 0] 24)) ∧ w.heap.size + 1 < ((w.alloc (.cells #[.int .i64 r, .int .i64 c, .slice a1 len p1] 24)).alloc (.cells #[.int .i64 0, .int .i64 0, .slice none 0 0] 24)).heap.size ∧ R < w.heap.size) := ⟨((Grown.refl _).alloc _ _).alloc _ _, by simp, lR⟩
  have HU := hide h
  have HR := hide hr
  have HO := hide ho
  have HN := hide hn
  have HS := hide hs
  clear h hr ho hn hok hs
  obtain ⟨Z, hZ⟩ : ∃ Z, Z = fun p => m2N (X p) s := ⟨_, rfl⟩
  rw [← hZ]
  have EZ : Hid (∀ i, Z i = m2N (X i) s) := fun i => by rw [hZ]
  clear hZ
  have lR' := hide lR
  clear lR
  go_enter Tryz.func14, Tryz.ntmps14
  go_wp2_with fail
  generalize ((w.alloc (.cells #[.int .i64 r, .int .i64 c, .slice a1 len p1] 24)).alloc (.cells #[.int .i64 0, .int .i64 0, .slice none 0 0] 24)) = w1 at *
  refine (unhide AL _).mono ?_
  rintro e w2 ⟨rfl, g2⟩
  have B0 := Blk.grown (unhide HB).1 g2
  have y0 : w2.cell? ⟨w.heap.size, 0, none⟩ = some (.int .i64 r) := Blk.cell B0 0
  have y1 : w2.cell? ⟨w.heap.size, 1, none⟩ = some (.int .i64 c) := Blk.cell B0 1
  have ST : Hid (DI w R w.heap.size w.heap.size (w.heap.size + 1) w2.heap.size #[.int .i64 r, .int .i64 c, .slice a1 len p1] #[.int .i64 r, .int .i64 c, .slice a1 len p1] r c Z (c0 || orC (fun p => m2C (X p) s) 0) (n + 2 * (0 : Nat)) 0 (.slice none 0 0) (w2.alloc (.cells #[.int .i64 r, .int .i64 c, .slice none 0 0] 24))) := by
    have G3 : Grown w2 (w2.alloc (.cells #[.int .i64 r, .int .i64 c, .slice none 0 0] 24)) := (Grown.refl _).alloc _ _
    have gg := gtrans (unhide HG).1 g2
    have s := (unhide HG).2.1
    have s2 := g2.2.2
    refine ⟨World.ownsRow_nil _ _ _ _, Blk.grown B0 G3, Blk.grown B0 G3, Blk.grown (Blk.grown (unhide HB).2 g2) G3, Blk.new w2 _ _, ?_, (Mk.of (Mod.of gg)).grown G3, unhide lR', Nat.le_refl _, by omega, by omega, by omega, by omega, by omega⟩
    show RC _ (c0 || false) (n + 2 * 0) _
    rw [Bool.or_false, Int.mul_zero, Int.add_zero]
    exact Blk.grown (Blk.grown (unhide HU) gg) G3
  clear B0 AL HU HB HG g2
  go_wp2_with fail
  generalize w2.alloc (.cells #[.int .i64 r, .int .i64 c, .slice none 0 0] 24) = w3 at *
  generalize w2.heap.size = L at *
  clear y0 y1
  go_loopw [9] (fun i wr => ∃ k : Nat, k ≤ len ∧ i = .int .i64 k ∧ Hid (∃ v, DI w R w.heap.size w.heap.size (w.heap.size + 1) L #[.int .i64 r, .int .i64 c, .slice a1 len p1] #[.int .i64 r, .int .i64 c, .slice a1 len p1] r c Z (c0 || orC (fun p => m2C (X p) s) k) (n + 2 * k) k v wr)) (fun i _ => len - (intOf i).toNat)
  case atStart => exact ⟨0, Nat.zero_le _, rfl, _, unhide ST⟩
  case round =>
    obtain ⟨k, hk, rfl, HI⟩ := hrel
    clear ST
    by_cases hlt : k < len
    · obtain ⟨v, hI⟩ := unhide HI
      obtain ⟨b1, o1, rfl, hw1⟩ := (unhide HR).at hlt
      obtain ⟨x, ex⟩ : ∃ x, X k = x := ⟨_, rfl⟩
      obtain ⟨z, ez⟩ : ∃ z, m2N x s = z := ⟨_, rfl⟩
      rw [ex] at hw1
      have RA := hide (fun b cap W h hr ho => refMulTwoM R x s (c0 || orC (fun p => m2C (X p) s) k) (n + 2 * k) b cap W (by rw [← ex]; exact unhide hX k hlt) (unhide HS) (by have := unhide HN; omega) h hr ho)
      rw [ez] at RA
      have EK : Hid (Z k = z ∧ (c0 || orC (fun p => m2C (X p) s) (k + 1)) = (c0 || orC (fun p => m2C (X p) s) k || m2C x s) ∧ n + 2 * ((k + 1 : Nat) : Int) = n + 2 * k + 2) := by
        refine ⟨by rw [unhide EZ, ex, ez], ?_, by omega⟩
        show (c0 || (orC (fun p => m2C (X p) s) k || m2C (X k) s)) = _
        rw [ex, Bool.or_assoc]
      have CW : Hid (∀ wx v cut n, DA w R w.heap.size w.heap.size (w.heap.size + 1) L #[.int .i64 r, .int .i64 c, .slice (some ⟨b1, o1, none⟩) len p1] #[.int .i64 r, .int .i64 c, .slice (some ⟨b1, o1, none⟩) len p1] r c v cut n wx → wx.cell? ⟨b1, o1 + k, none⟩ = some (.int .i64 x) ∧ wx.cell? ⟨w.heap.size, 2, none⟩ = some (.slice (some ⟨b1, o1, none⟩) len p1) ∧ wx.cell? ⟨L, 2, none⟩ = some v) := fun wx v cut n m => ⟨m.2.2.2.2.2.1.cell hw1 (unhide HO (by omega) _ rfl), Blk.cell m.1 2, Blk.cell m.2.2.2.1 2⟩
      obtain ⟨hc1, hc2, hc3⟩ := unhide CW wr _ _ _ hI.2
      have hz1 : b1 < wr.heap.size := heap_gt hc1
      have hz2 : w.heap.size < wr.heap.size := heap_gt hc2
      have hz3 : L < wr.heap.size := heap_gt hc3
      have i0 : (0 : Int) ≤ (k : Int) := by omega
      have i1 : (k : Int) < (len : Int) := by omega
      have hk1 : k ≤ 1000000 := by omega
      have A0 : Hid (DI w R w.heap.size w.heap.size (w.heap.size + 1) L #[.int .i64 r, .int .i64 c, .slice (some ⟨b1, o1, none⟩) len p1] #[.int .i64 r, .int .i64 c, .slice (some ⟨b1, o1, none⟩) len p1] r c Z (c0 || orC (fun p => m2C (X p) s) k) (n + 2 * k) k v (wr.alloc (.cells #[.int .i64 x, .int .i64 s] 3)).drew ∧ Row (wr.alloc (.cells #[.int .i64 x, .int .i64 s] 3)).drew (some ⟨wr.heap.size, 0, none⟩) 2 (pairZ x s) ∧ wr.heap.size ≠ R) := ⟨hI.grown _ _, pair_rowM wr x s, by have := hI.2.2.2.2.2.1.lt; omega⟩
      clear ex ez HI hI hw1
      go_wp2
      refine region_G (fun w' => w'.cell? ⟨b1, o1 + k, none⟩ = some (.int .i64 x) ∧ w'.cell? ⟨w.heap.size, 2, none⟩ = some (.slice (some ⟨b1, o1, none⟩) len p1) ∧ w'.cell? ⟨L, 2, none⟩ = some v) 14 (by kernel_rfl) ⟨hc1, hc2, hc3⟩ (fun hHeld => ?_)
      refine take_G (i := 0) (d := 26) (v := .pointer (some ⟨L, 2, none⟩)) rfl rfl (by kernel_rfl) (by kernel_rfl) (by kernel_rfl) (by kernel_rfl) (by kernel_rfl) (Or.inl ⟨by rfl, ?_⟩) (by assumption) ?_
      · intro w hSw
        (try dsimp only at hSw)
        go_simp
      (try simp only [Act.put, List.setIfInBounds_toArray, List.set_cons_zero, List.set_cons_succ])
      refine take_G (i := 1) (d := 27) (v := v) rfl rfl (by kernel_rfl) (by kernel_rfl) (by kernel_rfl) (by kernel_rfl) (by kernel_rfl) (Or.inl ⟨by rfl, ?_⟩) (by assumption) ?_
      · intro w hSw
        (try dsimp only at hSw)
        go_simp
      (try simp only [Act.put, List.setIfInBounds_toArray, List.set_cons_zero, List.set_cons_succ])
      refine take_G (i := 2) (d := 28) (v := .pointer (some ⟨R, 0, none⟩)) rfl rfl (by kernel_rfl) (by kernel_rfl) (by kernel_rfl) (by kernel_rfl) (by kernel_rfl) (Or.inl ⟨by rfl, ?_⟩) (by assumption) ?_
      · intro w hSw
        (try dsimp only at hSw)
        go_simp
      (try simp only [Act.put, List.setIfInBounds_toArray, List.set_cons_zero, List.set_cons_succ])
      refine take_G (i := 3) (d := 29) (v := .pointer (some ⟨w.heap.size, 2, none⟩)) rfl rfl (by kernel_rfl) (by kernel_rfl) (by kernel_rfl) (by kernel_rfl) (by kernel_rfl) (Or.inl ⟨by rfl, ?_⟩) (by assumption) ?_
      · intro w hSw
        (try dsimp only at hSw)
        go_simp
      (try simp only [Act.put, List.setIfInBounds_toArray, List.set_cons_zero, List.set_cons_succ])
      refine take_G (i := 4) (d := 30) (v := .slice (some ⟨b1, o1, none⟩) len p1) rfl rfl (by kernel_rfl) (by kernel_rfl) (by kernel_rfl) (by kernel_rfl) (by kernel_rfl) (Or.inl ⟨by rfl, ?_⟩) (by assumption) ?_
      · intro w hSw
        (try dsimp only at hSw)
        go_simp
      (try simp only [Act.put, List.setIfInBounds_toArray, List.set_cons_zero, List.set_cons_succ])
      refine take_G (i := 5) (d := 31) (v := .int .i64 (k : Int)) rfl rfl (by kernel_rfl) (by kernel_rfl) (by kernel_rfl) (by kernel_rfl) (by kernel_rfl) (Or.inl ⟨by rfl, ?_⟩) (by assumption) ?_
      · intro w hSw
        (try dsimp only at hSw)
        go_simp
      (try simp only [Act.put, List.setIfInBounds_toArray, List.set_cons_zero, List.set_cons_succ])
      refine take_G (i := 6) (d := 32) (v := .pointer (some ⟨b1, o1 + k, none⟩)) rfl rfl (by kernel_rfl) (by kernel_rfl) (by kernel_rfl) (by kernel_rfl) (by kernel_rfl) (Or.inl ⟨by rfl, ?_⟩) (by assumption) ?_
      · intro w hSw
        (try dsimp only at hSw)
        go_simp
      (try simp only [Act.put, List.setIfInBounds_toArray, List.set_cons_zero, List.set_cons_succ])
      refine take_G (i := 7) (d := 33) (v := .int .i64 x) rfl rfl (by kernel_rfl) (by kernel_rfl) (by kernel_rfl) (by kernel_rfl) (by kernel_rfl) (Or.inl ⟨by rfl, ?_⟩) (by assumption) ?_
      · intro w hSw
        (try dsimp only at hSw)
        go_simp
      (try simp only [Act.put, List.setIfInBounds_toArray, List.set_cons_zero, List.set_cons_succ])
      refine take_G (i := 8) (d := 34) (v := .int .i64 s) rfl rfl (by kernel_rfl) (by kernel_rfl) (by kernel_rfl) (by kernel_rfl) (by kernel_rfl) (Or.inl ⟨by rfl, ?_⟩) (by assumption) ?_
      · intro w hSw
        (try dsimp only at hSw)
        go_simp
      (try simp only [Act.put, List.setIfInBounds_toArray, List.set_cons_zero, List.set_cons_succ])
      refine step_G (i := 9) (by kernel_rfl) (fun K hK => ?_)
      refine wpOp_of rfl rfl ?_
      unfold Oper.wp
      go_simp
      refine hK _ _ (fun _ => ⟨by simp [go_sem, *], by simp [go_sem, *], by simp [go_sem, *]⟩) ?_
      clear hK K
      (try simp only [Act.put, List.setIfInBounds_toArray, List.set_cons_zero, List.set_cons_succ])
      refine step_G (i := 10) (by kernel_rfl) (fun K hK => ?_)
      refine wpOp_of rfl rfl ?_
      unfold Oper.wp
      go_simp
      refine (unhide RA _ _ _ (unhide A0).1.2.2.2.2.2.1 (unhide A0).2.1 (unhide A0).2.2).mono ?_
      rintro e w4 ⟨rfl, h4, m4⟩
      have I4 := (unhide A0).1.mod m4 h4
      obtain ⟨c21, c22, c23⟩ := unhide CW w4 _ _ _ I4.2
      have z21 := heap_gt c21
      have z22 := heap_gt c22
      have z23 := heap_gt c23
      have A2 := hide (I4.grown #[.int .i64 z] 3)
      clear h4 m4 A0 I4 hHeld hc1 hc2 hc3 hz1 hz2 hz3
      refine hK _ _ (fun _ => ⟨c21, c22, c23⟩) ?_
      clear hK K
      (try simp only [Act.put, List.setIfInBounds_toArray, List.set_cons_zero, List.set_cons_succ])
      refine step_G (i := 11) (by kernel_rfl) (fun K hK => ?_)
      refine wpOp_of rfl rfl ?_
      unfold Oper.wp
      go_simp
      refine hK _ _ (fun _ => ⟨by simp [go_sem, *], by simp [go_sem, *], by simp [go_sem, *]⟩) ?_
      clear hK K
      (try simp only [Act.put, List.setIfInBounds_toArray, List.set_cons_zero, List.set_cons_succ])
      refine step_G (i := 12) (by kernel_rfl) (fun K hK => ?_)
      refine wpOp_of rfl rfl ?_
      refine wp_append rfl (.tmp 27) (.tmp 37) rfl (L + 1) k v Z z (unhide EK).1 w4.heap.size (by first | rfl | simp [Act.eval, Act.put]) (by first | rfl | simp [Act.eval, Act.put]) (unhide A2).1 (Blk.cell (Blk.new w4 _ _) 0) hk1 (by have := Blk.lt (unhide A2).2.2.2.2.1; omega) ?_
      intro v' w5 hg5
      obtain ⟨g', cap', rfl⟩ := ownsRow_succ (unhide hg5).1
      have P := DI.app (unhide A2) (unhide hg5)
      obtain ⟨d1, d2, d3⟩ := unhide CW w5 _ _ _ P.1
      have q3 := Blk.free P.1.2.2.2.1 2
      have HP5 := hide P.2
      clear P hg5 A2 c21 c22 c23 z21 z22 z23
      refine hK _ _ (fun _ => ⟨d1, d2, d3⟩) ?_
      clear hK K
      (try simp only [Act.put, List.setIfInBounds_toArray, List.set_cons_zero, List.set_cons_succ])
      have hHeld := (And.intro d1 (And.intro d2 d3))
      refine take_G (i := 13) (d := 39) (v := .pointer (some ⟨L, 2, none⟩)) rfl rfl (by kernel_rfl) (by kernel_rfl) (by kernel_rfl) (by kernel_rfl) (by kernel_rfl) (Or.inl ⟨by rfl, ?_⟩) (by assumption) ?_
      · intro w hSw
        (try dsimp only at hSw)
        go_simp
      (try simp only [Act.put, List.setIfInBounds_toArray, List.set_cons_zero, List.set_cons_succ])
      refine step_G (i := 14) (by kernel_rfl) (fun K hK => ?_)
      refine wpOp_of rfl rfl ?_
      unfold Oper.wp
      go_simp
      refine hK _ _ (fun h => absurd rfl h) ?_
      clear hK K
      (try simp only [Act.put, List.setIfInBounds_toArray, List.set_cons_zero, List.set_cons_succ])
      refine done_G (by kernel_rfl) ?_
      have R5 : Hid (∃ v, DI w R w.heap.size w.heap.size (w.heap.size + 1) L #[.int .i64 r, .int .i64 c, .slice (some ⟨b1, o1, none⟩) len p1] #[.int .i64 r, .int .i64 c, .slice (some ⟨b1, o1, none⟩) len p1] r c Z (c0 || orC (fun p => m2C (X p) s) (k + 1)) (n + 2 * ((k + 1 : Nat) : Int)) (k + 1) v (w5.setCell ⟨L, 2, none⟩ (.slice (some ⟨g', 0, none⟩) (k + 1) cap'))) := by
        show ∃ v, _
        rw [(unhide EK).2.1, (unhide EK).2.2]
        exact ⟨_, unhide HP5⟩
      clear HP5 EK RA CW d1 d2 d3 q3 hHeld
      refine noPanic_normal ?_
      go_wp2
      go_roundw
      case rel => exact ⟨k + 1, by omega, by go_num, R5⟩
      case measure => simp [intOf]; omega
    · obtain rfl : k = len := by omega
      obtain ⟨v, h0, b0, b1, b2, hM, hu, hm, hl⟩ := unhide HI
      obtain ⟨ao2, cap2, rfl, h1, h3, h4⟩ := owns_rowC h0
      have y0 : wr.cell? ⟨L, 0, none⟩ = some (.int .i64 r) := Blk.cell hM 0
      have y1 : wr.cell? ⟨L, 1, none⟩ = some (.int .i64 c) := Blk.cell hM 1
      have y2 : wr.cell? ⟨L, 2, none⟩ = some (.slice ao2 k cap2) := Blk.cell hM 2
      have t2 : wr.cell? ⟨w.heap.size, 2, none⟩ = some (.slice a1 k p1) := Blk.cell b0 2
      have e0 : wr.cell? ⟨w.heap.size + 1, 0, none⟩ = some (.int .i64 0) := Blk.cell b2 0
      have e1 : wr.cell? ⟨w.heap.size + 1, 1, none⟩ = some (.int .i64 0) := Blk.cell b2 1
      have e2 : wr.cell? ⟨w.heap.size + 1, 2, none⟩ = some (.slice none 0 0) := Blk.cell b2 2
      have f := Blk.free b2
      have R6 := hide (And.intro b2 (And.intro h1 (And.intro h3 (And.intro h4 (And.intro hu (And.intro hm hl))))))
      clear h0 b0 b1 b2 hM hu hm hl h1 h3 h4 HI
      go_wp2
      obtain ⟨b2, h1, h3, h4, hu, hm, hl⟩ := unhide R6
      have P := putM b2 (.int .i64 r) (.int .i64 c) (.slice ao2 k cap2)
      generalize (((wr.setCell ⟨w.heap.size + 1, 0, none⟩ (.int .i64 r)).setCell ⟨w.heap.size + 1, 1, none⟩ (.int .i64 c)).setCell ⟨w.heap.size + 1, 2, none⟩ (.slice ao2 k cap2)) = wE at *
      have c0 : wE.cell? ⟨w.heap.size + 1, 0, none⟩ = some (.int .i64 r) := Blk.cell P.1 0
      have c1 : wE.cell? ⟨w.heap.size + 1, 1, none⟩ = some (.int .i64 c) := Blk.cell P.1 1
      have c2 : wE.cell? ⟨w.heap.size + 1, 2, none⟩ = some (.slice ao2 k cap2) := Blk.cell P.1 2
      refine bodyPost_ret (v := .tuple #[.agg #[.int .i64 r, .int .i64 c, .slice ao2 k cap2], .int .i64 0]) (by simp [results, Tryz.results14, go_sem, c0, c1, c2]) rfl ?_
      exact ⟨_, _, rfl, h1, h3.mod P.2 (h4 _ (by omega)), fun U hU => h4 U (by omega), Blk.keep hu P.2 (by omega), hm.new P.2 (by omega)⟩

set_option maxHeartbeats 2000000 in
theorem refScale_bad (R : Nat) (R1 C1 s : Int) (a1 : Option Addr) (l1 p1 : Nat) (Z : Nat → Int) (hb : ¬ okM R1 C1 l1) (c0 : Bool) (n : Int) (w : World) (h : RC R c0 n w) :
    Calls Tryz.prog 14 #[.pointer (some ⟨R, 0, none⟩), .agg #[.int .i64 R1, .int .i64 C1, .slice a1 l1 p1], .int .i64 s] w fun e w' => DocP 0 0 0 Z 3 (fun w' => RC R c0 n w' ∧ Mk R w w') w e w' := by
  have AL := hide (fun w => refMCheck R1 C1 a1 l1 p1 w)
  rw [chk_bad hb] at AL
  have lR := Blk.lt h
  have HB : Hid (Blk (w.heap.size + 1) #[.int .i64 0, .int .i64 0, .slice none 0 0] 24 ((w.alloc (.cells #[.int .i64 R1, .int .i64 C1, .slice a1 l1 p1] 24)).alloc (.cells #[.int .i64 0, .int .i64 0, .slice none 0 0] 24))) := blk_new2 w _ _ _
  have HG : Hid (Grown w ((w.alloc (.cells #[.int .i64 R1, .int .i64 C1, .slice a1 l1 p1] 24)).alloc (.cells #[.int .i64 0, .int .i64 0, .slice none 0 0] 24)) ∧ RC R c0 n w ∧ R < w.heap.size) := ⟨((Grown.refl _).alloc _ _).alloc _ _, h, lR⟩
  clear hb h lR
  go_enter Tryz.func14, Tryz.ntmps14
  go_wp2_with fail
  generalize ((w.alloc (.cells #[.int .i64 R1, .int .i64 C1, .slice a1 l1 p1] 24)).alloc (.cells #[.int .i64 0, .int .i64 0, .slice none 0 0] 24)) = w1 at *
  refine (unhide AL _).mono ?_
  rintro e w2 ⟨rfl, g2⟩
  have b2 := Blk.grown (unhide HB) g2
  have e0 : w2.cell? ⟨w.heap.size + 1, 0, none⟩ = some (.int .i64 0) := Blk.cell b2 0
  have e1 : w2.cell? ⟨w.heap.size + 1, 1, none⟩ = some (.int .i64 0) := Blk.cell b2 1
  have e2 : w2.cell? ⟨w.heap.size + 1, 2, none⟩ = some (.slice none 0 0) := Blk.cell b2 2
  have f := Blk.free b2
  have R6 := hide (And.intro b2 g2)
  clear b2 g2 AL HB
  go_wp2
  obtain ⟨b2, g2⟩ := unhide R6
  have P := putM b2 (.int .i64 0) (.int .i64 0) (.slice none 0 0)
  generalize (((w2.setCell ⟨w.heap.size + 1, 0, none⟩ (.int .i64 0)).setCell ⟨w.heap.size + 1, 1, none⟩ (.int .i64 0)).setCell ⟨w.heap.size + 1, 2, none⟩ (.slice none 0 0)) = wE at *
  have c0 : wE.cell? ⟨w.heap.size + 1, 0, none⟩ = some (.int .i64 0) := Blk.cell P.1 0
  have c1 : wE.cell? ⟨w.heap.size + 1, 1, none⟩ = some (.int .i64 0) := Blk.cell P.1 1
  have c2 : wE.cell? ⟨w.heap.size + 1, 2, none⟩ = some (.slice none 0 0) := Blk.cell P.1 2
  refine bodyPost_ret (v := .tuple #[.agg #[.int .i64 0, .int .i64 0, .slice none 0 0], .int .i64 3]) (by simp [results, Tryz.results14, go_sem, c0, c1, c2]) rfl ?_
  obtain ⟨G, h, lR⟩ := unhide HG
  have gg := gtrans G g2
  exact ⟨_, _, rfl, Nat.le_refl _, Or.inl rfl, fun U hU hl => absurd hl (Nat.lt_irrefl _), Blk.keep (Blk.grown h gg) P.2 (by omega), (Mk.of (Mod.of gg)).new P.2 (by omega)⟩


end Go.Proofs.YtcobicnpdmgnjaaGreat

/- What Sum, Less and Scale tell: the program, and the document. -/
namespace Go.Proofs.YtcobicnpdmgnjaaGreat
open Go.RowKit Go.Shelf Go.Proofs.Wd
set_option linter.unusedVariables false
set_option linter.unusedSimpArgs false
set_option maxRecDepth 10000

open Classical in
noncomputable def pairO (f : Int → Int → Int) (g : Int → Int → Bool) (d : Int) (R1 C1 R2 C2 : Int) (l1 l2 : Nat) (A B : Nat → Int) (c0 : Bool) (n0 : Int) : MO :=
  if okM R1 C1 l1 ∧ okM R2 C2 l2 ∧ R1 = R2 ∧ C1 = C2 then ⟨R1, C1, l1, fun p => f (A p) (B p), 0, c0 || orC (fun p => g (A p) (B p)) l1, n0 + d * l1⟩ else ⟨0, 0, 0, A, 3, c0, n0⟩
open Classical in
noncomputable def scaleO (R1 C1 s : Int) (l1 : Nat) (A : Nat → Int) (c0 : Bool) (n0 : Int) : MO :=
  if okM R1 C1 l1 then ⟨R1, C1, l1, fun p => m2N (A p) s, 0, c0 || orC (fun p => m2C (A p) s) l1, n0 + 2 * l1⟩ else ⟨0, 0, 0, A, 3, c0, n0⟩
theorem pairO_bounds {f : Int → Int → Int} {g : Int → Int → Bool} {d : Int} {R1 C1 R2 C2 : Int} {l1 l2 : Nat} {A B : Nat → Int} {c0 : Bool} {n0 : Int} {q : MO} (hd : 0 ≤ d ∧ d ≤ 2) (h : pairO f g d R1 C1 R2 C2 l1 l2 A B c0 n0 = q) : q.len ≤ 144 ∧ n0 ≤ q.n ∧ q.n ≤ n0 + 288 := by
  subst h
  unfold pairO
  by_cases hg : okM R1 C1 l1 ∧ okM R2 C2 l2 ∧ R1 = R2 ∧ C1 = C2
  · rw [if_pos hg]
    obtain ⟨_, _, _, _, _, _, _, k1, k2⟩ := hg.1.nat
    refine ⟨k2, ?_, ?_⟩
    · show n0 ≤ n0 + d * l1
      have : 0 ≤ d * l1 := Int.mul_nonneg hd.1 (by omega)
      omega
    · show n0 + d * l1 ≤ n0 + 288
      have : d * l1 ≤ 2 * 144 := Int.mul_le_mul hd.2 (by omega) (by omega) (by omega)
      omega
  · rw [if_neg hg]
    exact ⟨Nat.zero_le _, Int.le_refl _, by show n0 ≤ n0 + 288; omega⟩
theorem scaleO_bounds {R1 C1 s : Int} {l1 : Nat} {A : Nat → Int} {c0 : Bool} {n0 : Int} {q : MO} (h : scaleO R1 C1 s l1 A c0 n0 = q) : q.len ≤ 144 ∧ n0 ≤ q.n ∧ q.n ≤ n0 + 288 := by
  subst h
  unfold scaleO
  by_cases hg : okM R1 C1 l1
  · rw [if_pos hg]
    obtain ⟨_, _, _, _, _, _, _, k1, k2⟩ := hg.nat
    exact ⟨k2, by show n0 ≤ n0 + 2 * l1; omega, by show n0 + 2 * l1 ≤ n0 + 288; omega⟩
  · rw [if_neg hg]
    exact ⟨Nat.zero_le _, Int.le_refl _, by show n0 ≤ n0 + 288; omega⟩


theorem sumAny (U : Nat) (c0 : Bool) (n0 : Int) (hn : 0 ≤ n0 ∧ n0 < 1152921504606846976) (R1 C1 R2 C2 : Int) (a1 a2 : Option Addr) (l1 p1 l2 p2 : Nat) (A B : Nat → Int) (hA : ∀ j, j < l1 → I64 (A j)) (hB : ∀ j, j < l2 → I64 (B j)) (w : World) (h : UC U c0 n0 w) (ra : Row w a1 l1 A) (oa : Off U l1 a1) (rb : Row w a2 l2 B) (ob : Off U l2 a2) (q : MO) (hq : pairO s2N s2C 2 R1 C1 R2 C2 l1 l2 A B c0 n0 = q) :
    Calls Tryz.prog 9 #[.pointer (some ⟨U, 0, none⟩), .agg #[.int .i64 R1, .int .i64 C1, .slice a1 l1 p1], .agg #[.int .i64 R2, .int .i64 C2, .slice a2 l2 p2]] w fun e w' => MatP q.r q.c q.len q.Z q.err (fun w' => UC U q.cut q.n w' ∧ Mk U w w') w e w' := by
  subst hq
  unfold pairO
  by_cases hg : okM R1 C1 l1 ∧ okM R2 C2 l2 ∧ R1 = R2 ∧ C1 = C2
  · rw [if_pos hg]
    obtain ⟨h1, h2, h3, h4⟩ := hg
    subst h3 h4
    obtain rfl : l1 = l2 := by have := h1.2.2; have := h2.2.2; omega
    obtain ⟨r, m, rfl, rfl, hr, hm, rfl, k1, k2⟩ := h1.nat
    obtain ⟨b, o, rfl, za⟩ := ra.some k1
    obtain ⟨b2, o2, rfl, zb⟩ := rb.some k1
    exact matSum_ok U c0 n0 hn r m b o p1 b2 o2 p2 A B hr hm hA hB w h za zb (off_at oa k1) (off_at ob k1)
  · rw [if_neg hg]
    exact matSum_bad U c0 n0 hn R1 C1 R2 C2 a1 a2 l1 p1 l2 p2 A hg w h
theorem refSumAny (R : Nat) (c0 : Bool) (n0 : Int) (hn : 0 ≤ n0 ∧ n0 < 1152921504606846976) (R1 C1 R2 C2 : Int) (a1 a2 : Option Addr) (l1 p1 l2 p2 : Nat) (A B : Nat → Int) (hA : ∀ j, j < l1 → I64 (A j)) (hB : ∀ j, j < l2 → I64 (B j)) (w : World) (h : RC R c0 n0 w) (ra : Row w a1 l1 A) (oa : Off R l1 a1) (rb : Row w a2 l2 B) (ob : Off R l2 a2) (q : MO) (hq : pairO s2N s2C 2 R1 C1 R2 C2 l1 l2 A B c0 n0 = q) :
    Calls Tryz.prog 10 #[.pointer (some ⟨R, 0, none⟩), .agg #[.int .i64 R1, .int .i64 C1, .slice a1 l1 p1], .agg #[.int .i64 R2, .int .i64 C2, .slice a2 l2 p2]] w fun e w' => DocP q.r q.c q.len q.Z q.err (fun w' => RC R q.cut q.n w' ∧ Mk R w w') w e w' := by
  subst hq
  unfold pairO
  by_cases hg : okM R1 C1 l1 ∧ okM R2 C2 l2 ∧ R1 = R2 ∧ C1 = C2
  · rw [if_pos hg]
    obtain ⟨h1, h2, h3, h4⟩ := hg
    subst h3 h4
    obtain rfl : l1 = l2 := by have := h1.2.2; have := h2.2.2; omega
    exact refSum_ok R c0 n0 R1 C1 a1 a2 l1 p1 p2 A B h1 hn hA hB w h ra oa rb ob
  · rw [if_neg hg]
    exact refSum_bad R R1 C1 R2 C2 a1 a2 l1 p1 l2 p2 A hg c0 n0 w h


theorem lessAny (U : Nat) (c0 : Bool) (n0 : Int) (hn : 0 ≤ n0 ∧ n0 < 1152921504606846976) (R1 C1 R2 C2 : Int) (a1 a2 : Option Addr) (l1 p1 l2 p2 : Nat) (A B : Nat → Int) (hA : ∀ j, j < l1 → I64 (A j)) (hB : ∀ j, j < l2 → I64 (B j)) (w : World) (h : UC U c0 n0 w) (ra : Row w a1 l1 A) (oa : Off U l1 a1) (rb : Row w a2 l2 B) (ob : Off U l2 a2) (q : MO) (hq : pairO subN subC 1 R1 C1 R2 C2 l1 l2 A B c0 n0 = q) :
    Calls Tryz.prog 11 #[.pointer (some ⟨U, 0, none⟩), .agg #[.int .i64 R1, .int .i64 C1, .slice a1 l1 p1], .agg #[.int .i64 R2, .int .i64 C2, .slice a2 l2 p2]] w fun e w' => MatP q.r q.c q.len q.Z q.err (fun w' => UC U q.cut q.n w' ∧ Mk U w w') w e w' := by
  subst hq
  unfold pairO
  by_cases hg : okM R1 C1 l1 ∧ okM R2 C2 l2 ∧ R1 = R2 ∧ C1 = C2
  · rw [if_pos hg]
    obtain ⟨h1, h2, h3, h4⟩ := hg
    subst h3 h4
    obtain rfl : l1 = l2 := by have := h1.2.2; have := h2.2.2; omega
    obtain ⟨r, m, rfl, rfl, hr, hm, rfl, k1, k2⟩ := h1.nat
    obtain ⟨b, o, rfl, za⟩ := ra.some k1
    obtain ⟨b2, o2, rfl, zb⟩ := rb.some k1
    exact matLess_ok U c0 n0 hn r m b o p1 b2 o2 p2 A B hr hm hA hB w h za zb (off_at oa k1) (off_at ob k1)
  · rw [if_neg hg]
    exact matLess_bad U c0 n0 hn R1 C1 R2 C2 a1 a2 l1 p1 l2 p2 A hg w h
theorem refLessAny (R : Nat) (c0 : Bool) (n0 : Int) (hn : 0 ≤ n0 ∧ n0 < 1152921504606846976) (R1 C1 R2 C2 : Int) (a1 a2 : Option Addr) (l1 p1 l2 p2 : Nat) (A B : Nat → Int) (hA : ∀ j, j < l1 → I64 (A j)) (hB : ∀ j, j < l2 → I64 (B j)) (w : World) (h : RC R c0 n0 w) (ra : Row w a1 l1 A) (oa : Off R l1 a1) (rb : Row w a2 l2 B) (ob : Off R l2 a2) (q : MO) (hq : pairO subN subC 1 R1 C1 R2 C2 l1 l2 A B c0 n0 = q) :
    Calls Tryz.prog 12 #[.pointer (some ⟨R, 0, none⟩), .agg #[.int .i64 R1, .int .i64 C1, .slice a1 l1 p1], .agg #[.int .i64 R2, .int .i64 C2, .slice a2 l2 p2]] w fun e w' => DocP q.r q.c q.len q.Z q.err (fun w' => RC R q.cut q.n w' ∧ Mk R w w') w e w' := by
  subst hq
  unfold pairO
  by_cases hg : okM R1 C1 l1 ∧ okM R2 C2 l2 ∧ R1 = R2 ∧ C1 = C2
  · rw [if_pos hg]
    obtain ⟨h1, h2, h3, h4⟩ := hg
    subst h3 h4
    obtain rfl : l1 = l2 := by have := h1.2.2; have := h2.2.2; omega
    exact refLess_ok R c0 n0 R1 C1 a1 a2 l1 p1 p2 A B h1 hn hA hB w h ra oa rb ob
  · rw [if_neg hg]
    exact refLess_bad R R1 C1 R2 C2 a1 a2 l1 p1 l2 p2 A hg c0 n0 w h


theorem scaleAny (U : Nat) (c0 : Bool) (n0 s : Int) (hs : I64 s) (hn : 0 ≤ n0 ∧ n0 < 1152921504606846976) (R1 C1 : Int) (a1 : Option Addr) (l1 p1 : Nat) (A : Nat → Int) (hA : ∀ j, j < l1 → I64 (A j)) (w : World) (h : UC U c0 n0 w) (ra : Row w a1 l1 A) (oa : Off U l1 a1) (q : MO) (hq : scaleO R1 C1 s l1 A c0 n0 = q) :
    Calls Tryz.prog 13 #[.pointer (some ⟨U, 0, none⟩), .agg #[.int .i64 R1, .int .i64 C1, .slice a1 l1 p1], .int .i64 s] w fun e w' => MatP q.r q.c q.len q.Z q.err (fun w' => UC U q.cut q.n w' ∧ Mk U w w') w e w' := by
  subst hq
  unfold scaleO
  by_cases hg : okM R1 C1 l1
  · rw [if_pos hg]
    obtain ⟨r, m, rfl, rfl, hr, hm, rfl, k1, k2⟩ := hg.nat
    obtain ⟨b, o, rfl, za⟩ := ra.some k1
    exact matScale_ok U c0 n0 s hs hn r m b o p1 A hr hm hA w h za (off_at oa k1)
  · rw [if_neg hg]
    exact matScale_bad U c0 n0 s hn R1 C1 a1 l1 p1 A hg w h
theorem refScaleAny (R : Nat) (c0 : Bool) (n0 s : Int) (hs : I64 s) (hn : 0 ≤ n0 ∧ n0 < 1152921504606846976) (R1 C1 : Int) (a1 : Option Addr) (l1 p1 : Nat) (A : Nat → Int) (hA : ∀ j, j < l1 → I64 (A j)) (w : World) (h : RC R c0 n0 w) (ra : Row w a1 l1 A) (oa : Off R l1 a1) (q : MO) (hq : scaleO R1 C1 s l1 A c0 n0 = q) :
    Calls Tryz.prog 14 #[.pointer (some ⟨R, 0, none⟩), .agg #[.int .i64 R1, .int .i64 C1, .slice a1 l1 p1], .int .i64 s] w fun e w' => DocP q.r q.c q.len q.Z q.err (fun w' => RC R q.cut q.n w' ∧ Mk R w w') w e w' := by
  subst hq
  unfold scaleO
  by_cases hg : okM R1 C1 l1
  · rw [if_pos hg]
    exact refScale_ok R c0 n0 R1 C1 s hs a1 l1 p1 A hg hn hA w h ra oa
  · rw [if_neg hg]
    exact refScale_bad R R1 C1 s a1 l1 p1 A hg c0 n0 w h


end Go.Proofs.YtcobicnpdmgnjaaGreat

/- OverInts over what a call made; a law's state beside it. -/
namespace Go.Proofs.YtcobicnpdmgnjaaGreat
open Go.RowKit Go.Shelf Go.Proofs.Wd
set_option linter.unusedVariables false
set_option linter.unusedSimpArgs false
set_option maxRecDepth 10000

theorem Own.set {B len : Nat} {Z : Nat → Int} {w : World} (h : Own B len Z w) (k : Nat) (v : Int) : Own B len (fun i => if i = k then v else Z i) (w.setCell ⟨B, k, none⟩ (.int .i64 v)) := by
  obtain ⟨cur, h1, h2⟩ := h
  refine ⟨_, Blk.set h1 k _, fun i hi => ?_⟩
  have e := h2 i hi
  have hs := (Array.getElem?_eq_some_iff.1 e).1
  rw [Array.getElem?_setIfInBounds]
  by_cases hk : k = i
  · rw [if_pos hk, if_pos (by omega)]
    show _ = some (Value.int .i64 (if i = k then v else Z i))
    rw [if_pos hk.symm]
  · rw [if_neg hk, e]
    show _ = some (Value.int .i64 (if i = k then v else Z i))
    rw [if_neg (fun e => hk e.symm)]
def OvJ (B : Nat) (ao : Option Addr) (len : Nat) (w wr : World) : Prop := Mod B w wr ∧ (len = 0 ∨ (ao = some ⟨B, 0, none⟩ ∧ ∃ Y, Own B len Y wr))
set_option maxHeartbeats 1000000 in
theorem kitOverI (B : Nat) (ao : Option Addr) (len cap : Nat) (X : Nat → Int) (hl : len ≤ 1000000) (w : World) (hA : len = 0 ∨ (ao = some ⟨B, 0, none⟩ ∧ Own B len X w)) :
    Calls Tryz.prog 18 #[.slice ao len cap] w fun e w' => e = .returned (.tuple #[]) ∧ Mod B w w' := by
  have HA := hide hA
  clear hA
  go_enter Tryz.func18, Tryz.ntmps18
  go_wp2
  go_loopw [2] (fun i wr => ∃ k : Nat, k ≤ len ∧ i = .int .i64 k ∧ Hid (OvJ B ao len w wr)) (fun i _ => len - (intOf i).toNat)
  case atStart => exact ⟨0, Nat.zero_le _, rfl, Mod.refl _ _, (unhide HA).imp id fun h => ⟨h.1, X, h.2⟩⟩
  case round =>
    obtain ⟨k, hk, rfl, HI⟩ := hrel
    by_cases hlt : k < len
    · obtain ⟨i1, i2⟩ := unhide HI
      rcases i2 with i2 | ⟨e1, Y, i2⟩
      · omega
      · subst e1
        have hc : wr.cell? ⟨B, k, none⟩ = some (.int .i64 (Y k)) := by obtain ⟨cur, b1, b2⟩ := i2; rw [Blk.cell b1, b2 k hlt]
        have hfz : wr.frozen? ⟨B, k, none⟩ = false := by obtain ⟨cur, b1, b2⟩ := i2; exact Blk.free b1 k
        have R : Hid (OvJ B (some ⟨B, 0, none⟩) len w (wr.setCell ⟨B, k, none⟩ (.int .i64 (-77)))) :=
          ⟨i1.setCell _ _, Or.inr ⟨rfl, _, Own.set i2 k _⟩⟩
        clear i1 i2 HI HA
        go_wp2
        go_roundw
        case rel => exact ⟨k + 1, by omega, by go_num, R⟩
        case measure => simp [intOf]; omega
    · obtain rfl : len = k := by omega
      go_wp2
      exact bodyPost_end (v := .tuple #[]) (by simp [results, Tryz.results18, go_sem]) rfl ⟨rfl, (unhide HI).1⟩

/-- A block that is none of the boxes, and holds no list. -/
def OffR (b : Nat) (bx : List (Nat × Array Value)) (rows : List (Option Addr × Nat × (Nat → Int))) : Prop := (∀ x ∈ bx, x.1 ≠ b) ∧ (∀ r ∈ rows, Off b r.2.1 r.1)
section
variable {w : World} {E : List Nat} {bx : List (Nat × Array Value)} {rows : List (Option Addr × Nat × (Nat → Int))} {wx w' : World} {b : Nat}
theorem LS.fresh (h : LS w E bx rows wx) (hb : wx.heap.size ≤ b) : OffR b bx rows := ⟨fun x hx => by have := Blk.lt (h.2.2.1 x hx).1; omega, fun r hr => (h.2.2.2 r hr).1.off hb⟩
theorem LS.over (h : LS w [] bx rows wx) (m : Mk b wx w') (hw : w.heap.size ≤ b) (f : OffR b bx rows) : LS w [] bx rows w' :=
  ⟨h.1.mk m hw, fun _ h => absurd h List.not_mem_nil, fun x hx => ⟨Blk.mk (h.2.2.1 x hx).1 m (f.1 x hx), List.not_mem_nil⟩, fun r hr => ⟨(h.2.2.2 r hr).1.mk m (f.2 r hr), fun _ h => absurd h List.not_mem_nil⟩⟩
theorem Mk.fresh (m : Mk wx.heap.size wx w') : Kp wx w' := ⟨m.1, m.2.1, fun k hk => m.2.2.1 k hk (by omega), m.2.2.2⟩
theorem kitOverL {ao : Option Addr} {len cap : Nat} {Z : Nat → Int} (hl : len ≤ 1000000) (h : LS w [] bx rows wx) (o : len = 0 ∨ (ao = some ⟨b, 0, none⟩ ∧ Own b len Z wx)) (hw : w.heap.size ≤ b) (f : len = 0 ∨ OffR b bx rows) :
    Calls Tryz.prog 18 #[.slice ao len cap] wx fun e w' => e = .returned (.tuple #[]) ∧ LS w [] bx rows w' ∧ (∀ k cs T, (len = 0 ∨ k ≠ b) → Blk k cs T wx → Blk k cs T w') := by
  by_cases hz : len = 0
  · refine (kitOverI wx.heap.size ao len cap Z hl wx (Or.inl hz)).mono ?_
    rintro e w' ⟨rfl, m⟩
    have k := Mk.fresh (Mk.of m)
    exact ⟨rfl, h.kp k, fun _ _ _ _ hb => Blk.kp hb k⟩
  · refine (kitOverI b ao len cap Z hl wx o).mono ?_
    rintro e w' ⟨rfl, m⟩
    exact ⟨rfl, h.over (Mk.of m) hw (f.resolve_left hz), fun _ _ _ hk hb => Blk.mk hb (Mk.of m) (hk.resolve_left hz)⟩
end

end Go.Proofs.YtcobicnpdmgnjaaGreat

/- MatSums. -/
namespace Go.Proofs.YtcobicnpdmgnjaaGreat
open Go.RowKit Go.Shelf Go.Proofs.Wd
set_option linter.unusedVariables false
set_option linter.unusedSimpArgs false
set_option maxRecDepth 10000

theorem LS.nilS (w : World) : LS w [] [] [] w := ⟨Kp.refl _, fun _ h => absurd h List.not_mem_nil, fun _ h => absurd h List.not_mem_nil, fun _ h => absurd h List.not_mem_nil⟩
theorem LS.swapS {w : World} {U V : Nat} {bx : List (Nat × Array Value)} {rows : List (Option Addr × Nat × (Nat → Int))} {wx : World} (h : LS w [V, U] bx rows wx) : LS w [U, V] bx rows wx :=
  h.sub (fun x hx => by simp at hx ⊢; exact hx.symm) (fun _ h => h) (fun _ h => h)


theorem TS.toldD {w : World} {U V : Nat} {cu cv cv' : Array Value} {tu tv : TypeId} {bx : List (Nat × Array Value)} {rows : List (Option Addr × Nat × (Nat → Int))} {wx w' : World} {r c err : Int} {len : Nat} {Z : Nat → Int} {e : Ending} (h : TS w U V cu tu cv tv bx rows wx) (m : DocP r c len Z err (fun w' => Blk V cv' tv w' ∧ Mk V wx w') wx e w') :
    ∃ ao cap, e = .returned (.tuple #[.agg #[.int .i64 r, .int .i64 c, .slice ao len cap], .int .i64 err]) ∧ len ≤ cap ∧ TS w U V cu tu cv' tv bx ((ao, len, Z) :: rows) w' := by
  obtain ⟨ao, cap, rfl, h1, h2, h3, h4, h5⟩ := m
  have t := h.mkV h5 h4
  exact ⟨ao, cap, rfl, h1, t.1, t.2.1, t.2.2.1, t.2.2.2.row h2 (fun e he => h3 e (h.2.2.2.2.1 e he).2)⟩


theorem refUCut (R : Nat) (c : Bool) (n : Int) (w : World) (h : RC R c n w) : Calls Tryz.prog 17 #[.pointer (some ⟨R, 0, none⟩)] w fun e w' => e = .returned (.bool c) ∧ w' = w := by
  have c0 := RC.c0 h
  clear h
  go_enter Tryz.func17, Tryz.ntmps17
  go_wp2
  go_ret
  exact ⟨rfl, rfl⟩


theorem LS.cellsL {w : World} {E : List Nat} {bx : List (Nat × Array Value)} {rows : List (Option Addr × Nat × (Nat → Int))} {wx : World} (h : LS w E bx rows wx) {b : Nat} {x y z : Value} (hb : (b, #[x, y, z]) ∈ bx) : wx.cell? ⟨b, 0, none⟩ = some x ∧ wx.cell? ⟨b, 1, none⟩ = some y ∧ wx.cell? ⟨b, 2, none⟩ = some z := ⟨h.cell hb 0, h.cell hb 1, h.cell hb 2⟩
/-- Where a result of the program lies: in a block of its own. -/
def OwF (U V : Nat) (ao : Option Addr) (len : Nat) (Z : Nat → Int) (b : Nat) (wx : World) : Prop := (b ≠ U ∧ b ≠ V) ∧ (len = 0 ∨ (ao = some ⟨b, 0, none⟩ ∧ Blk b (ints len Z) 3 wx))
section
variable {U V : Nat} {ao : Option Addr} {len : Nat} {Z : Nat → Int} {b : Nat} {wx w' : World}
theorem OwF.kp (h : OwF U V ao len Z b wx) (k : Kp wx w') : OwF U V ao len Z b w' := ⟨h.1, h.2.imp id (fun h => ⟨h.1, Blk.kp h.2 k⟩)⟩
theorem OwF.alloc (h : OwF U V ao len Z b wx) (cs : Array Value) (t : TypeId) : OwF U V ao len Z b (wx.alloc (.cells cs t)) := h.kp ((Kp.refl _).alloc _ _)
theorem OwF.mkU (h : OwF U V ao len Z b wx) (k : Mk U wx w') : OwF U V ao len Z b w' := ⟨h.1, h.2.imp id (fun q => ⟨q.1, Blk.mk q.2 k h.1.1⟩)⟩
theorem OwF.mkV (h : OwF U V ao len Z b wx) (k : Mk V wx w') : OwF U V ao len Z b w' := ⟨h.1, h.2.imp id (fun q => ⟨q.1, Blk.mk q.2 k h.1.2⟩)⟩
end


set_option maxRecDepth 50000 in
set_option maxHeartbeats 8000000 in
theorem lawMatSums_not (R1 C1 R2 C2 s : Int) (hs : I64 s) (a1 a2 : Option Addr) (l1 p1 l2 p2 : Nat) (A B : Nat → Int) (h1 : l1 ≤ p1) (h2 : l2 ≤ p2) (iA : ∀ i, i < l1 → I64 (A i)) (iB : ∀ i, i < l2 → I64 (B i)) (z1 : a1 = none → l1 = 0 ∧ p1 = 0) (z2 : a2 = none → l2 = 0 ∧ p2 = 0) (w : World) (ra : Row w a1 l1 A) (rb : Row w a2 l2 B) (hc : 160 < l1 ∨ 160 < l2) :
    Calls Tryz.prog 3 #[.agg #[.int .i64 R1, .int .i64 C1, .slice a1 l1 p1], .agg #[.int .i64 R2, .int .i64 C2, .slice a2 l2 p2], .int .i64 s] w fun e w' => e = .returned (.bool true) ∧ Kp w w' := by
  have HC := hide hc
  clear hc
  have L0 := hide ((((LS.nilS w).row ra (by simp)).row rb (by simp)).box2 #[.int .i64 R1, .int .i64 C1, .slice a1 l1 p1] #[.int .i64 R2, .int .i64 C2, .slice a2 l2 p2])
  have LA := hide (fun w => lawLong R1 C1 a1 l1 p1 w)
  have LB := hide (fun w => lawLong R2 C2 a2 l2 p2 w)

  clear ra rb
  go_enter Tryz.func3, Tryz.ntmps3
  go_wp2_with fail
  generalize (w.alloc (.cells #[.int .i64 R1, .int .i64 C1, .slice a1 l1 p1] 24)).alloc (.cells #[.int .i64 R2, .int .i64 C2, .slice a2 l2 p2] 24) = w0 at *
  refine (unitNew w0).mono ?_
  rintro e w1 ⟨rfl, u1, g1⟩
  have L1 := hide (And.intro u1 ((unhide L0).unit g1 u1))
  clear u1 g1
  go_wp2_with fail
  refine (refUNew w1).mono ?_
  rintro e w2 ⟨rfl, u2, g2⟩
  have L2 : Hid (TS w w0.heap.size w1.heap.size #[.bool false, .bool true, .int .i64 0] 42 #[.bool false, .int .i64 0] 46 [(w.heap.size + 1, #[.int .i64 R2, .int .i64 C2, .slice a2 l2 p2]), (w.heap.size, #[.int .i64 R1, .int .i64 C1, .slice a1 l1 p1])] [(a2, l2, B), (a1, l1, A)] w2) := by
    have l1' := unhide L1
    have lt := Blk.lt l1'.1
    exact ⟨Blk.grown l1'.1 g2, u2, by omega, (l1'.2.unit g2 u2).swapS⟩
  clear u2 g2 L1 L0
  generalize w0.heap.size = U at *
  generalize w1.heap.size = V at *
  obtain ⟨x0, x1, x2⟩ := (unhide L2).cells (b := w.heap.size) (x := .int .i64 R1) (y := .int .i64 C1) (z := .slice a1 l1 p1) (by simp)
  obtain ⟨y0, y1, y2⟩ := (unhide L2).cells (b := w.heap.size + 1) (x := .int .i64 R2) (y := .int .i64 C2) (z := .slice a2 l2 p2) (by simp)
  go_wp2_with fail
  refine (unhide LA _).mono ?_
  rintro e w3 ⟨rfl, g3⟩
  have L3 := hide ((unhide L2).kp (Kp.of g3))
  clear x0 x1 x2 y0 y1 y2 g3 L2

  by_cases hl : 160 < l1
  · rw [decide_eq_true hl]
    clear HC
    go_wp2_with fail
    refine (lawMatAwake _).mono ?_
    rintro e w5 ⟨rfl, k5⟩
    have L5 := hide ((unhide L3).kp k5)
    clear k5 L3
    go_wp2
    go_ret
    exact ⟨rfl, (unhide L5).2.2.2.1⟩
  · have hl2 : 160 < l2 := (unhide HC).resolve_left hl
    rw [decide_eq_false hl]
    obtain ⟨y0, y1, y2⟩ := (unhide L3).cells (b := w.heap.size + 1) (x := .int .i64 R2) (y := .int .i64 C2) (z := .slice a2 l2 p2) (by simp)
    clear HC hl
    go_wp2_with fail
    refine (unhide LB _).mono ?_
    rintro e w4 ⟨rfl, g4⟩
    have L4 := hide ((unhide L3).kp (Kp.of g4))
    rw [decide_eq_true hl2]
    clear g4 L3 y0 y1 y2
    go_wp2_with fail
    refine (lawMatAwake _).mono ?_
    rintro e w5 ⟨rfl, k5⟩
    have L5 := hide ((unhide L4).kp k5)
    clear k5 L4
    go_wp2
    go_ret
    exact ⟨rfl, (unhide L5).2.2.2.1⟩

set_option maxRecDepth 50000 in
set_option maxHeartbeats 16000000 in
theorem lawMatSums_ok (R1 C1 R2 C2 s : Int) (hs : I64 s) (a1 a2 : Option Addr) (l1 p1 l2 p2 : Nat) (A B : Nat → Int) (h1 : l1 ≤ p1) (h2 : l2 ≤ p2) (iA : ∀ i, i < l1 → I64 (A i)) (iB : ∀ i, i < l2 → I64 (B i)) (z1 : a1 = none → l1 = 0 ∧ p1 = 0) (z2 : a2 = none → l2 = 0 ∧ p2 = 0) (w : World) (ra : Row w a1 l1 A) (rb : Row w a2 l2 B) (hc : l1 ≤ 160 ∧ l2 ≤ 160) :
    Calls Tryz.prog 3 #[.agg #[.int .i64 R1, .int .i64 C1, .slice a1 l1 p1], .agg #[.int .i64 R2, .int .i64 C2, .slice a2 l2 p2], .int .i64 s] w fun e w' => e = .returned (.bool true) ∧ Kp w w' := by
  have HC := hide hc
  have HA := hide (And.intro iA iB)
  have K1 := hide (fun w hr => kitCopyM R1 C1 a1 l1 p1 A (by omega) z1 w hr)
  have K2 := hide (fun w hr => kitCopyM R2 C2 a2 l2 p2 B (by omega) z2 w hr)
  clear hc iA iB z1 z2
  have L0 := hide ((((LS.nilS w).row ra (by simp)).row rb (by simp)).box2 #[.int .i64 R1, .int .i64 C1, .slice a1 l1 p1] #[.int .i64 R2, .int .i64 C2, .slice a2 l2 p2])
  have LA := hide (fun w => lawLong R1 C1 a1 l1 p1 w)
  have LB := hide (fun w => lawLong R2 C2 a2 l2 p2 w)

  clear ra rb
  go_enter Tryz.func3, Tryz.ntmps3
  go_wp2_with fail
  generalize (w.alloc (.cells #[.int .i64 R1, .int .i64 C1, .slice a1 l1 p1] 24)).alloc (.cells #[.int .i64 R2, .int .i64 C2, .slice a2 l2 p2] 24) = w0 at *
  refine (unitNew w0).mono ?_
  rintro e w1 ⟨rfl, u1, g1⟩
  have L1 := hide (And.intro u1 ((unhide L0).unit g1 u1))
  clear u1 g1
  go_wp2_with fail
  refine (refUNew w1).mono ?_
  rintro e w2 ⟨rfl, u2, g2⟩
  have L2 : Hid (TS w w0.heap.size w1.heap.size #[.bool false, .bool true, .int .i64 0] 42 #[.bool false, .int .i64 0] 46 [(w.heap.size + 1, #[.int .i64 R2, .int .i64 C2, .slice a2 l2 p2]), (w.heap.size, #[.int .i64 R1, .int .i64 C1, .slice a1 l1 p1])] [(a2, l2, B), (a1, l1, A)] w2) := by
    have l1' := unhide L1
    have lt := Blk.lt l1'.1
    exact ⟨Blk.grown l1'.1 g2, u2, by omega, (l1'.2.unit g2 u2).swapS⟩
  clear u2 g2 L1 L0
  generalize w0.heap.size = U at *
  generalize w1.heap.size = V at *
  obtain ⟨x0, x1, x2⟩ := (unhide L2).cells (b := w.heap.size) (x := .int .i64 R1) (y := .int .i64 C1) (z := .slice a1 l1 p1) (by simp)
  obtain ⟨y0, y1, y2⟩ := (unhide L2).cells (b := w.heap.size + 1) (x := .int .i64 R2) (y := .int .i64 C2) (z := .slice a2 l2 p2) (by simp)
  go_wp2_with fail
  refine (unhide LA _).mono ?_
  rintro e w3 ⟨rfl, g3⟩
  have L3 := hide ((unhide L2).kp (Kp.of g3))
  clear x0 x1 x2 y0 y1 y2 g3 L2

  rw [decide_eq_false (by have := unhide HC; omega)]
  obtain ⟨y0, y1, y2⟩ := (unhide L3).cells (b := w.heap.size + 1) (x := .int .i64 R2) (y := .int .i64 C2) (z := .slice a2 l2 p2) (by simp)
  go_wp2_with fail
  refine (unhide LB _).mono ?_
  rintro e w4 ⟨rfl, g4⟩
  have L4 := hide ((unhide L3).kp (Kp.of g4))
  rw [decide_eq_false (by have := unhide HC; omega)]
  clear g4 L3 y0 y1 y2
  go_wp2_with fail
  refine regTwo (w0 := w) (E := [U, V]) (bx := [(w.heap.size + 1, #[.int .i64 R2, .int .i64 C2, .slice a2 l2 p2]), (w.heap.size, #[.int .i64 R1, .int .i64 C1, .slice a1 l1 p1])]) (rows := [(a2, l2, B), (a1, l1, A)]) (X := fun wx => Blk U #[.bool false, .bool true, .int .i64 0] 42 wx ∧ Blk V #[.bool false, .int .i64 0] 46 wx ∧ U ≠ V) (Z1 := A) (Z2 := B) (B1 := w.heap.size) (B2 := w.heap.size + 1) (by kernel_rfl) rfl (by kernel_rfl) rfl rfl rfl rfl rfl rfl rfl rfl (by kernel_rfl) (by kernel_rfl) (by kernel_rfl) (by kernel_rfl) (by decide) (by decide) (by decide) ?_ rfl rfl (by simp) (by simp) (by simp) (by simp) ?_ (unhide K1) (unhide K2) ⟨(unhide L4).1, (unhide L4).2.1, (unhide L4).2.2.1⟩ ?_ ?_ ?_ (unhide L4).2.2.2 ?_
  · intro k hk; simp at hk; rcases hk with rfl | rfl | rfl | rfl | rfl | rfl <;> simp
  · exact fun v w => enters_of Tryz.func8 (by kernel_rfl) rfl #[v] w
  · exact fun a b k x => ⟨Blk.kp x.1 k, Blk.kp x.2.1 k, x.2.2⟩
  · exact fun A a b hA m x => ⟨Blk.mk x.1 m (by have := Blk.lt (unhide L4).1; omega), Blk.mk x.2.1 m (by have := Blk.lt (unhide L4).2.1; omega), x.2.2⟩
  · intro e he; simp at he; rcases he with rfl | rfl; exact Blk.lt (unhide L4).1; exact Blk.lt (unhide L4).2.1
  intro aa pa ab pb A1 A2 w5 hpa hpb hX hL
  have L5 : Hid (TS w U V #[.bool false, .bool true, .int .i64 0] 42 #[.bool false, .int .i64 0] 46 [(A2, #[.int .i64 R2, .int .i64 C2, .slice ab l2 pb]), (A1, #[.int .i64 R1, .int .i64 C1, .slice aa l1 pa]), (w.heap.size + 1, #[.int .i64 R2, .int .i64 C2, .slice a2 l2 p2]), (w.heap.size, #[.int .i64 R1, .int .i64 C1, .slice a1 l1 p1])] [(ab, l2, B), (aa, l1, A), (a2, l2, B), (a1, l1, A)] w5) := ⟨hX.1, hX.2.1, hX.2.2, hL⟩
  clear hX hL L4 K1 K2
  simp only [List.setIfInBounds_toArray, List.set_cons_zero, List.set_cons_succ]
  obtain ⟨q1, hq1⟩ : ∃ q, pairO s2N s2C 2 R1 C1 R2 C2 l1 l2 A B false 0 = q := ⟨_, rfl⟩
  have Q1 := hide (pairO_bounds (by omega) hq1)
  obtain ⟨q2, hq2⟩ : ∃ q, pairO subN subC 1 R1 C1 R2 C2 l1 l2 A B q1.cut q1.n = q := ⟨_, rfl⟩
  have Q2 := hide (pairO_bounds (by omega) hq2)
  obtain ⟨q3, hq3⟩ : ∃ q, scaleO R1 C1 s l1 A q2.cut q2.n = q := ⟨_, rfl⟩
  have Q3 := hide (scaleO_bounds hq3)
  have HQ := hide (And.intro hq1 (And.intro hq2 hq3))
  have HS := hide hs
  clear hq1 hq2 hq3 hs
  obtain ⟨k00, k01, k02⟩ := (unhide L5).cells (b := A1) (x := .int .i64 R1) (y := .int .i64 C1) (z := .slice aa l1 pa) (by simp)
  obtain ⟨k10, k11, k12⟩ := (unhide L5).cells (b := A2) (x := .int .i64 R2) (y := .int .i64 C2) (z := .slice ab l2 pb) (by simp)
  go_wp2_with fail
  refine (sumAny U false 0 (by omega) R1 C1 R2 C2 aa ab l1 pa l2 pb A B (unhide HA).1 (unhide HA).2 _ (unhide L5).1 ((unhide L5).rowU (ao := aa) (len := l1) (Z := A) (by simp)).1 ((unhide L5).rowU (ao := aa) (len := l1) (Z := A) (by simp)).2.1 ((unhide L5).rowU (ao := ab) (len := l2) (Z := B) (by simp)).1 ((unhide L5).rowU (ao := ab) (len := l2) (Z := B) (by simp)).2.1 q1 (unhide HQ).1).mono ?_
  intro e v1 hm
  have mk : Mk U _ v1 := (let ⟨_, _, _, _, _, _, _, x⟩ := hm; x.2)
  obtain ⟨s1, t1, b1, rfl, hc1, ho1, hf1, T1⟩ := (unhide L5).toldU hm
  have L6 := hide (T1.box #[.int .i64 q1.r, .int .i64 q1.c, .slice s1 q1.len t1])
  have F1_1 : Hid (OwF U V s1 q1.len q1.Z b1 (v1.alloc (.cells #[.int .i64 q1.r, .int .i64 q1.c, .slice s1 q1.len t1] 24))) := OwF.alloc ⟨by have := Blk.lt (unhide L5).1; have := Blk.lt (unhide L5).2.1; omega, ho1⟩ _ _
  have G1 := hide (And.intro (Nat.le_trans (unhide L5).2.2.2.1.2.2.2 hf1) (And.intro ((unhide L5).2.2.2.fresh hf1) (ho1.imp id (fun q => Blk.lt q.2))))
  clear mk hm T1 L5 hc1 ho1 hf1 k00 k01 k02 k10 k11 k12

  obtain ⟨k00, k01, k02⟩ := (unhide L6).cells (b := w.heap.size) (x := .int .i64 R1) (y := .int .i64 C1) (z := .slice a1 l1 p1) (by simp)
  obtain ⟨k10, k11, k12⟩ := (unhide L6).cells (b := w.heap.size + 1) (x := .int .i64 R2) (y := .int .i64 C2) (z := .slice a2 l2 p2) (by simp)
  go_wp2_with fail
  refine (refSumAny V false 0 (by omega) R1 C1 R2 C2 a1 a2 l1 p1 l2 p2 A B (unhide HA).1 (unhide HA).2 _ (unhide L6).2.1 ((unhide L6).rowU (ao := a1) (len := l1) (Z := A) (by simp)).1 ((unhide L6).rowU (ao := a1) (len := l1) (Z := A) (by simp)).2.2 ((unhide L6).rowU (ao := a2) (len := l2) (Z := B) (by simp)).1 ((unhide L6).rowU (ao := a2) (len := l2) (Z := B) (by simp)).2.2 q1 (unhide HQ).1).mono ?_
  intro e v2 hm
  have mk : Mk V _ v2 := (let ⟨_, _, _, _, _, _, x⟩ := hm; x.2)
  obtain ⟨s2, t2, rfl, hc2, T2⟩ := (unhide L6).toldD hm
  have L7 := hide (T2.box #[.int .i64 q1.r, .int .i64 q1.c, .slice s2 q1.len t2])
  have F1_2 := hide (((unhide F1_1).mkV mk).alloc #[.int .i64 q1.r, .int .i64 q1.c, .slice s2 q1.len t2] 24)
  clear F1_1
  clear mk hm T2 L6 hc2 k00 k01 k02 k10 k11 k12

  obtain ⟨k00, k01, k02⟩ := (unhide L7).cells (b := A1) (x := .int .i64 R1) (y := .int .i64 C1) (z := .slice aa l1 pa) (by simp)
  obtain ⟨k10, k11, k12⟩ := (unhide L7).cells (b := A2) (x := .int .i64 R2) (y := .int .i64 C2) (z := .slice ab l2 pb) (by simp)
  go_wp2_with fail
  refine (lessAny U q1.cut q1.n (by have := unhide Q1; omega) R1 C1 R2 C2 aa ab l1 pa l2 pb A B (unhide HA).1 (unhide HA).2 _ (unhide L7).1 ((unhide L7).rowU (ao := aa) (len := l1) (Z := A) (by simp)).1 ((unhide L7).rowU (ao := aa) (len := l1) (Z := A) (by simp)).2.1 ((unhide L7).rowU (ao := ab) (len := l2) (Z := B) (by simp)).1 ((unhide L7).rowU (ao := ab) (len := l2) (Z := B) (by simp)).2.1 q2 (unhide HQ).2.1).mono ?_
  intro e v3 hm
  have mk : Mk U _ v3 := (let ⟨_, _, _, _, _, _, _, x⟩ := hm; x.2)
  obtain ⟨s3, t3, b3, rfl, hc3, ho3, hf3, T3⟩ := (unhide L7).toldU hm
  have L8 := hide (T3.box #[.int .i64 q2.r, .int .i64 q2.c, .slice s3 q2.len t3])
  have F3_3 : Hid (OwF U V s3 q2.len q2.Z b3 (v3.alloc (.cells #[.int .i64 q2.r, .int .i64 q2.c, .slice s3 q2.len t3] 24))) := OwF.alloc ⟨by have := Blk.lt (unhide L7).1; have := Blk.lt (unhide L7).2.1; omega, ho3⟩ _ _
  have G3 := hide (And.intro (Nat.le_trans (unhide L7).2.2.2.1.2.2.2 hf3) (And.intro ((unhide L7).2.2.2.fresh hf3) (ho3.imp id (fun q => Blk.lt q.2))))
  have O3 : Hid (v1.heap.size < v3.heap.size ∧ v1.heap.size < b3) := ⟨T3.lt (b := v1.heap.size) (cs := #[.int .i64 q1.r, .int .i64 q1.c, .slice s1 q1.len t1]) (by simp), Nat.lt_of_lt_of_le ((unhide L7).lt (b := v1.heap.size) (cs := #[.int .i64 q1.r, .int .i64 q1.c, .slice s1 q1.len t1]) (by simp)) hf3⟩
  have F1_3 := hide (((unhide F1_2).mkU mk).alloc #[.int .i64 q2.r, .int .i64 q2.c, .slice s3 q2.len t3] 24)
  clear F1_2
  clear mk hm T3 L7 hc3 ho3 hf3 k00 k01 k02 k10 k11 k12

  obtain ⟨k00, k01, k02⟩ := (unhide L8).cells (b := w.heap.size) (x := .int .i64 R1) (y := .int .i64 C1) (z := .slice a1 l1 p1) (by simp)
  obtain ⟨k10, k11, k12⟩ := (unhide L8).cells (b := w.heap.size + 1) (x := .int .i64 R2) (y := .int .i64 C2) (z := .slice a2 l2 p2) (by simp)
  go_wp2_with fail
  refine (refLessAny V q1.cut q1.n (by have := unhide Q1; omega) R1 C1 R2 C2 a1 a2 l1 p1 l2 p2 A B (unhide HA).1 (unhide HA).2 _ (unhide L8).2.1 ((unhide L8).rowU (ao := a1) (len := l1) (Z := A) (by simp)).1 ((unhide L8).rowU (ao := a1) (len := l1) (Z := A) (by simp)).2.2 ((unhide L8).rowU (ao := a2) (len := l2) (Z := B) (by simp)).1 ((unhide L8).rowU (ao := a2) (len := l2) (Z := B) (by simp)).2.2 q2 (unhide HQ).2.1).mono ?_
  intro e v4 hm
  have mk : Mk V _ v4 := (let ⟨_, _, _, _, _, _, x⟩ := hm; x.2)
  obtain ⟨s4, t4, rfl, hc4, T4⟩ := (unhide L8).toldD hm
  have L9 := hide (T4.box #[.int .i64 q2.r, .int .i64 q2.c, .slice s4 q2.len t4])
  have F1_4 := hide (((unhide F1_3).mkV mk).alloc #[.int .i64 q2.r, .int .i64 q2.c, .slice s4 q2.len t4] 24)
  clear F1_3
  have F3_4 := hide (((unhide F3_3).mkV mk).alloc #[.int .i64 q2.r, .int .i64 q2.c, .slice s4 q2.len t4] 24)
  clear F3_3
  clear mk hm T4 L8 hc4 k00 k01 k02 k10 k11 k12

  obtain ⟨k00, k01, k02⟩ := (unhide L9).cells (b := A1) (x := .int .i64 R1) (y := .int .i64 C1) (z := .slice aa l1 pa) (by simp)
  obtain ⟨k10, k11, k12⟩ := (unhide L9).cells (b := A2) (x := .int .i64 R2) (y := .int .i64 C2) (z := .slice ab l2 pb) (by simp)
  go_wp2_with fail
  refine (scaleAny U q2.cut q2.n s (unhide HS) (by have := unhide Q1; have := unhide Q2; omega) R1 C1 aa l1 pa A (unhide HA).1 _ (unhide L9).1 ((unhide L9).rowU (ao := aa) (len := l1) (Z := A) (by simp)).1 ((unhide L9).rowU (ao := aa) (len := l1) (Z := A) (by simp)).2.1 q3 (unhide HQ).2.2).mono ?_
  intro e v5 hm
  have mk : Mk U _ v5 := (let ⟨_, _, _, _, _, _, _, x⟩ := hm; x.2)
  obtain ⟨s5, t5, b5, rfl, hc5, ho5, hf5, T5⟩ := (unhide L9).toldU hm
  have LX := hide (T5.box #[.int .i64 q3.r, .int .i64 q3.c, .slice s5 q3.len t5])
  have F5_5 : Hid (OwF U V s5 q3.len q3.Z b5 (v5.alloc (.cells #[.int .i64 q3.r, .int .i64 q3.c, .slice s5 q3.len t5] 24))) := OwF.alloc ⟨by have := Blk.lt (unhide L9).1; have := Blk.lt (unhide L9).2.1; omega, ho5⟩ _ _
  have G5 := hide (And.intro (Nat.le_trans (unhide L9).2.2.2.1.2.2.2 hf5) (And.intro ((unhide L9).2.2.2.fresh hf5) (ho5.imp id (fun q => Blk.lt q.2))))
  have O5 : Hid (v3.heap.size < v5.heap.size ∧ v3.heap.size < b5) := ⟨T5.lt (b := v3.heap.size) (cs := #[.int .i64 q2.r, .int .i64 q2.c, .slice s3 q2.len t3]) (by simp), Nat.lt_of_lt_of_le ((unhide L9).lt (b := v3.heap.size) (cs := #[.int .i64 q2.r, .int .i64 q2.c, .slice s3 q2.len t3]) (by simp)) hf5⟩
  have F1_5 := hide (((unhide F1_4).mkU mk).alloc #[.int .i64 q3.r, .int .i64 q3.c, .slice s5 q3.len t5] 24)
  clear F1_4
  have F3_5 := hide (((unhide F3_4).mkU mk).alloc #[.int .i64 q3.r, .int .i64 q3.c, .slice s5 q3.len t5] 24)
  clear F3_4
  clear mk hm T5 L9 hc5 ho5 hf5 k00 k01 k02 k10 k11 k12

  obtain ⟨k00, k01, k02⟩ := (unhide LX).cells (b := w.heap.size) (x := .int .i64 R1) (y := .int .i64 C1) (z := .slice a1 l1 p1) (by simp)
  obtain ⟨k10, k11, k12⟩ := (unhide LX).cells (b := w.heap.size + 1) (x := .int .i64 R2) (y := .int .i64 C2) (z := .slice a2 l2 p2) (by simp)
  go_wp2_with fail
  refine (refScaleAny V q2.cut q2.n s (unhide HS) (by have := unhide Q1; have := unhide Q2; omega) R1 C1 a1 l1 p1 A (unhide HA).1 _ (unhide LX).2.1 ((unhide LX).rowU (ao := a1) (len := l1) (Z := A) (by simp)).1 ((unhide LX).rowU (ao := a1) (len := l1) (Z := A) (by simp)).2.2 q3 (unhide HQ).2.2).mono ?_
  intro e v6 hm
  have mk : Mk V _ v6 := (let ⟨_, _, _, _, _, _, x⟩ := hm; x.2)
  obtain ⟨s6, t6, rfl, hc6, T6⟩ := (unhide LX).toldD hm
  have LY := hide (T6.box #[.int .i64 q3.r, .int .i64 q3.c, .slice s6 q3.len t6])
  have F1_6 := hide (((unhide F1_5).mkV mk).alloc #[.int .i64 q3.r, .int .i64 q3.c, .slice s6 q3.len t6] 24)
  clear F1_5
  have F3_6 := hide (((unhide F3_5).mkV mk).alloc #[.int .i64 q3.r, .int .i64 q3.c, .slice s6 q3.len t6] 24)
  clear F3_5
  have F5_6 := hide (((unhide F5_5).mkV mk).alloc #[.int .i64 q3.r, .int .i64 q3.c, .slice s6 q3.len t6] 24)
  clear F5_5
  clear mk hm T6 LX hc6 k00 k01 k02 k10 k11 k12

  obtain ⟨k00, k01, k02⟩ := (unhide LY).cells (b := v1.heap.size) (x := .int .i64 q1.r) (y := .int .i64 q1.c) (z := .slice s1 q1.len t1) (by simp)
  obtain ⟨k10, k11, k12⟩ := (unhide LY).cells (b := v2.heap.size) (x := .int .i64 q1.r) (y := .int .i64 q1.c) (z := .slice s2 q1.len t2) (by simp)
  go_wp2_with fail
  refine (kitSameM q1.r q1.c s1 s2 q1.len t1 t2 q1.Z (by have := unhide Q1; omega) _ ((unhide LY).rowU (ao := s1) (len := q1.len) (Z := q1.Z) (by simp)).1 ((unhide LY).rowU (ao := s2) (len := q1.len) (Z := q1.Z) (by simp)).1).mono ?_
  rintro e x1 ⟨rfl, kk⟩
  have LZ := hide ((unhide LY).kp kk)
  have F1_7 := hide ((unhide F1_6).kp kk)
  have F3_7 := hide ((unhide F3_6).kp kk)
  have F5_7 := hide ((unhide F5_6).kp kk)
  clear F1_6 F3_6 F5_6
  clear kk LY k00 k01 k02 k10 k11 k12

  obtain ⟨k00, k01, k02⟩ := (unhide LZ).cells (b := v3.heap.size) (x := .int .i64 q2.r) (y := .int .i64 q2.c) (z := .slice s3 q2.len t3) (by simp)
  obtain ⟨k10, k11, k12⟩ := (unhide LZ).cells (b := v4.heap.size) (x := .int .i64 q2.r) (y := .int .i64 q2.c) (z := .slice s4 q2.len t4) (by simp)
  go_wp2_with fail
  refine (kitSameM q2.r q2.c s3 s4 q2.len t3 t4 q2.Z (by have := unhide Q2; omega) _ ((unhide LZ).rowU (ao := s3) (len := q2.len) (Z := q2.Z) (by simp)).1 ((unhide LZ).rowU (ao := s4) (len := q2.len) (Z := q2.Z) (by simp)).1).mono ?_
  rintro e x3 ⟨rfl, kk⟩
  have LZ2 := hide ((unhide LZ).kp kk)
  have F1_8 := hide ((unhide F1_7).kp kk)
  have F3_8 := hide ((unhide F3_7).kp kk)
  have F5_8 := hide ((unhide F5_7).kp kk)
  clear F1_7 F3_7 F5_7
  clear kk LZ k00 k01 k02 k10 k11 k12

  obtain ⟨k00, k01, k02⟩ := (unhide LZ2).cells (b := v5.heap.size) (x := .int .i64 q3.r) (y := .int .i64 q3.c) (z := .slice s5 q3.len t5) (by simp)
  obtain ⟨k10, k11, k12⟩ := (unhide LZ2).cells (b := v6.heap.size) (x := .int .i64 q3.r) (y := .int .i64 q3.c) (z := .slice s6 q3.len t6) (by simp)
  go_wp2_with fail
  refine (kitSameM q3.r q3.c s5 s6 q3.len t5 t6 q3.Z (by have := unhide Q3; omega) _ ((unhide LZ2).rowU (ao := s5) (len := q3.len) (Z := q3.Z) (by simp)).1 ((unhide LZ2).rowU (ao := s6) (len := q3.len) (Z := q3.Z) (by simp)).1).mono ?_
  rintro e x5 ⟨rfl, kk⟩
  have LZ3 := hide ((unhide LZ2).kp kk)
  have F1_9 := hide ((unhide F1_8).kp kk)
  have F3_9 := hide ((unhide F3_8).kp kk)
  have F5_9 := hide ((unhide F5_8).kp kk)
  clear F1_8 F3_8 F5_8
  clear kk LZ2 k00 k01 k02 k10 k11 k12

  go_wp2_with fail
  refine (unitCut U _ _ _ (unhide LZ3).1).mono ?_
  rintro e x6 ⟨rfl, rfl⟩
  go_wp2_with fail
  refine (refUCut V _ _ _ (unhide LZ3).2.1).mono ?_
  rintro e x7 ⟨rfl, rfl⟩
  have S0 : Hid (LS w [] [(v1.heap.size, #[.int .i64 q1.r, .int .i64 q1.c, .slice s1 q1.len t1]), (v3.heap.size, #[.int .i64 q2.r, .int .i64 q2.c, .slice s3 q2.len t3]), (v5.heap.size, #[.int .i64 q3.r, .int .i64 q3.c, .slice s5 q3.len t5]), (A2, #[.int .i64 R2, .int .i64 C2, .slice ab l2 pb]), (A1, #[.int .i64 R1, .int .i64 C1, .slice aa l1 pa]), (w.heap.size + 1, #[.int .i64 R2, .int .i64 C2, .slice a2 l2 p2]), (w.heap.size, #[.int .i64 R1, .int .i64 C1, .slice a1 l1 p1])] [(ab, l2, B), (aa, l1, A), (a2, l2, B), (a1, l1, A)] x7) := (unhide LZ3).2.2.2.sub (by simp) (by intro x hx; simp at hx ⊢; rcases hx with rfl | rfl | rfl | rfl | rfl | rfl | rfl <;> simp) (by intro x hx; simp at hx ⊢; rcases hx with rfl | rfl | rfl | rfl <;> simp)
  have X1 : Hid (q1.len = 0 ∨ OffR b1 [(v1.heap.size, #[.int .i64 q1.r, .int .i64 q1.c, .slice s1 q1.len t1]), (v3.heap.size, #[.int .i64 q2.r, .int .i64 q2.c, .slice s3 q2.len t3]), (v5.heap.size, #[.int .i64 q3.r, .int .i64 q3.c, .slice s5 q3.len t5]), (A2, #[.int .i64 R2, .int .i64 C2, .slice ab l2 pb]), (A1, #[.int .i64 R1, .int .i64 C1, .slice aa l1 pa]), (w.heap.size + 1, #[.int .i64 R2, .int .i64 C2, .slice a2 l2 p2]), (w.heap.size, #[.int .i64 R1, .int .i64 C1, .slice a1 l1 p1])] [(ab, l2, B), (aa, l1, A), (a2, l2, B), (a1, l1, A)]) := by
    obtain ⟨_, f, g⟩ := unhide G1
    have o3 := unhide O3
    have o5 := unhide O5
    refine g.imp id (fun g => ⟨fun x hx => ?_, fun r hr => f.2 r (by simp at hr ⊢; rcases hr with rfl | rfl | rfl | rfl <;> simp)⟩)
    simp at hx
    rcases hx with rfl | rfl | rfl | rfl | rfl | rfl | rfl
    · show v1.heap.size ≠ b1; omega
    · show v3.heap.size ≠ b1; omega
    · show v5.heap.size ≠ b1; omega
    all_goals exact f.1 _ (by simp)
  have X3 : Hid (q2.len = 0 ∨ OffR b3 [(v1.heap.size, #[.int .i64 q1.r, .int .i64 q1.c, .slice s1 q1.len t1]), (v3.heap.size, #[.int .i64 q2.r, .int .i64 q2.c, .slice s3 q2.len t3]), (v5.heap.size, #[.int .i64 q3.r, .int .i64 q3.c, .slice s5 q3.len t5]), (A2, #[.int .i64 R2, .int .i64 C2, .slice ab l2 pb]), (A1, #[.int .i64 R1, .int .i64 C1, .slice aa l1 pa]), (w.heap.size + 1, #[.int .i64 R2, .int .i64 C2, .slice a2 l2 p2]), (w.heap.size, #[.int .i64 R1, .int .i64 C1, .slice a1 l1 p1])] [(ab, l2, B), (aa, l1, A), (a2, l2, B), (a1, l1, A)]) := by
    obtain ⟨_, f, g⟩ := unhide G3
    have o3 := unhide O3
    have o5 := unhide O5
    refine g.imp id (fun g => ⟨fun x hx => ?_, fun r hr => f.2 r (by simp at hr ⊢; rcases hr with rfl | rfl | rfl | rfl <;> simp)⟩)
    simp at hx
    rcases hx with rfl | rfl | rfl | rfl | rfl | rfl | rfl
    · show v1.heap.size ≠ b3; omega
    · show v3.heap.size ≠ b3; omega
    · show v5.heap.size ≠ b3; omega
    all_goals exact f.1 _ (by simp)
  have X5 : Hid (q3.len = 0 ∨ OffR b5 [(v1.heap.size, #[.int .i64 q1.r, .int .i64 q1.c, .slice s1 q1.len t1]), (v3.heap.size, #[.int .i64 q2.r, .int .i64 q2.c, .slice s3 q2.len t3]), (v5.heap.size, #[.int .i64 q3.r, .int .i64 q3.c, .slice s5 q3.len t5]), (A2, #[.int .i64 R2, .int .i64 C2, .slice ab l2 pb]), (A1, #[.int .i64 R1, .int .i64 C1, .slice aa l1 pa]), (w.heap.size + 1, #[.int .i64 R2, .int .i64 C2, .slice a2 l2 p2]), (w.heap.size, #[.int .i64 R1, .int .i64 C1, .slice a1 l1 p1])] [(ab, l2, B), (aa, l1, A), (a2, l2, B), (a1, l1, A)]) := by
    obtain ⟨_, f, g⟩ := unhide G5
    have o3 := unhide O3
    have o5 := unhide O5
    refine g.imp id (fun g => ⟨fun x hx => ?_, fun r hr => f.2 r (by simp at hr ⊢; rcases hr with rfl | rfl | rfl | rfl <;> simp)⟩)
    simp at hx
    rcases hx with rfl | rfl | rfl | rfl | rfl | rfl | rfl
    · show v1.heap.size ≠ b5; omega
    · show v3.heap.size ≠ b5; omega
    · show v5.heap.size ≠ b5; omega
    all_goals exact f.1 _ (by simp)
  have D13 : Hid (q1.len = 0 ∨ b3 ≠ b1) := by
    obtain ⟨_, _, g⟩ := unhide G1
    have o3 := unhide O3
    have o5 := unhide O5
    exact g.imp id (fun g => by omega)
  have D15 : Hid (q1.len = 0 ∨ b5 ≠ b1) := by
    obtain ⟨_, _, g⟩ := unhide G1
    have o3 := unhide O3
    have o5 := unhide O5
    exact g.imp id (fun g => by omega)
  have D35 : Hid (q2.len = 0 ∨ b5 ≠ b3) := by
    obtain ⟨_, _, g⟩ := unhide G3
    have o3 := unhide O3
    have o5 := unhide O5
    exact g.imp id (fun g => by omega)
  have P1 := hide (unhide F1_9).2
  have P3 := hide (unhide F3_9).2
  have P5 := hide (unhide F5_9).2
  have HW := hide (And.intro (unhide G1).1 (And.intro (unhide G3).1 (unhide G5).1))
  clear LZ3 F1_9 F3_9 F5_9 G1 G3 G5 O3 O5
  obtain ⟨k00, k01, k02⟩ := (unhide S0).cellsL (b := v1.heap.size) (x := .int .i64 q1.r) (y := .int .i64 q1.c) (z := .slice s1 q1.len t1) (by simp)
  go_wp2_with fail
  refine (kitOverL (b := b1) (Z := q1.Z) (by have := unhide Q1; omega) (unhide S0) ((unhide P1).imp id (fun q => ⟨q.1, Own.of q.2⟩)) (by have := unhide HW; omega) (unhide X1)).mono ?_
  rintro e y1 ⟨rfl, hl, hk⟩
  have S1 := hide hl
  have P3' := hide ((unhide P3).imp id (fun q => And.intro q.1 (hk b3 _ _ (unhide D13) q.2)))
  clear P3
  have P3 := hide (unhide P3')
  clear P3'
  have P5' := hide ((unhide P5).imp id (fun q => And.intro q.1 (hk b5 _ _ (unhide D15) q.2)))
  clear P5
  have P5 := hide (unhide P5')
  clear P5'
  clear hl hk S0 k00 k01 k02 P1 X1
  obtain ⟨k00, k01, k02⟩ := (unhide S1).cellsL (b := v3.heap.size) (x := .int .i64 q2.r) (y := .int .i64 q2.c) (z := .slice s3 q2.len t3) (by simp)
  go_wp2_with fail
  refine (kitOverL (b := b3) (Z := q2.Z) (by have := unhide Q2; omega) (unhide S1) ((unhide P3).imp id (fun q => ⟨q.1, Own.of q.2⟩)) (by have := unhide HW; omega) (unhide X3)).mono ?_
  rintro e y3 ⟨rfl, hl, hk⟩
  have S2 := hide hl
  have P5' := hide ((unhide P5).imp id (fun q => And.intro q.1 (hk b5 _ _ (unhide D35) q.2)))
  clear P5
  have P5 := hide (unhide P5')
  clear P5'
  clear hl hk S1 k00 k01 k02 P3 X3
  obtain ⟨k00, k01, k02⟩ := (unhide S2).cellsL (b := v5.heap.size) (x := .int .i64 q3.r) (y := .int .i64 q3.c) (z := .slice s5 q3.len t5) (by simp)
  go_wp2_with fail
  refine (kitOverL (b := b5) (Z := q3.Z) (by have := unhide Q3; omega) (unhide S2) ((unhide P5).imp id (fun q => ⟨q.1, Own.of q.2⟩)) (by have := unhide HW; omega) (unhide X5)).mono ?_
  rintro e y5 ⟨rfl, hl, hk⟩
  have S3 := hide hl
  clear hl hk S2 k00 k01 k02 P5 X5
  obtain ⟨k00, k01, k02⟩ := (unhide S3).cellsL (b := A1) (x := .int .i64 R1) (y := .int .i64 C1) (z := .slice aa l1 pa) (by simp)
  obtain ⟨k10, k11, k12⟩ := (unhide S3).cellsL (b := w.heap.size) (x := .int .i64 R1) (y := .int .i64 C1) (z := .slice a1 l1 p1) (by simp)
  go_wp2_with fail
  refine (kitSameM R1 C1 aa a1 l1 pa p1 A (by have := unhide HC; omega) _ ((unhide S3).at (ao := aa) (len := l1) (Z := A) (by simp)).1 ((unhide S3).at (ao := a1) (len := l1) (Z := A) (by simp)).1).mono ?_
  rintro e z1 ⟨rfl, kk⟩
  have S4 := hide ((unhide S3).kp kk)
  clear kk S3 k00 k01 k02 k10 k11 k12
  obtain ⟨k00, k01, k02⟩ := (unhide S4).cellsL (b := A2) (x := .int .i64 R2) (y := .int .i64 C2) (z := .slice ab l2 pb) (by simp)
  obtain ⟨k10, k11, k12⟩ := (unhide S4).cellsL (b := w.heap.size + 1) (x := .int .i64 R2) (y := .int .i64 C2) (z := .slice a2 l2 p2) (by simp)
  go_wp2_with fail
  refine (kitSameM R2 C2 ab a2 l2 pb p2 B (by have := unhide HC; omega) _ ((unhide S4).at (ao := ab) (len := l2) (Z := B) (by simp)).1 ((unhide S4).at (ao := a2) (len := l2) (Z := B) (by simp)).1).mono ?_
  rintro e z2 ⟨rfl, kk⟩
  have S5 := hide ((unhide S4).kp kk)
  clear kk S4 k00 k01 k02 k10 k11 k12
  go_wp2_with fail
  refine (lawMatAwake _).mono ?_
  rintro e z3 ⟨rfl, kk⟩
  have S6 := hide ((unhide S5).kp kk)
  clear kk S5
  go_wp2
  go_ret
  exact ⟨rfl, (unhide S6).1⟩



theorem lawMatSums (R1 C1 R2 C2 s : Int) (hs : I64 s) (a1 a2 : Option Addr) (l1 p1 l2 p2 : Nat) (A B : Nat → Int) (h1 : l1 ≤ p1) (h2 : l2 ≤ p2) (iA : ∀ i, i < l1 → I64 (A i)) (iB : ∀ i, i < l2 → I64 (B i)) (z1 : a1 = none → l1 = 0 ∧ p1 = 0) (z2 : a2 = none → l2 = 0 ∧ p2 = 0) (w : World) (ra : Row w a1 l1 A) (rb : Row w a2 l2 B) : Calls Tryz.prog 3 #[.agg #[.int .i64 R1, .int .i64 C1, .slice a1 l1 p1], .agg #[.int .i64 R2, .int .i64 C2, .slice a2 l2 p2], .int .i64 s] w fun e w' => e = .returned (.bool true) ∧ Kp w w' := by
  by_cases h : 160 < l1 ∨ 160 < l2
  · exact lawMatSums_not R1 C1 R2 C2 s hs a1 a2 l1 p1 l2 p2 A B h1 h2 iA iB z1 z2 w ra rb h
  · exact lawMatSums_ok R1 C1 R2 C2 s hs a1 a2 l1 p1 l2 p2 A B h1 h2 iA iB z1 z2 w ra rb (by omega)


end Go.Proofs.YtcobicnpdmgnjaaGreat

/- The statement MatSums holds for every input: the law returns true, and its arguments read afterwards as before. No condition. -/
namespace Go.Proofs.YtcobicnpdmgnjaaGreat.matSums
open Go.ChangeShapes Go.WideShapes Go.ChangeAt Go.RowKit Go.Joins Go.Proofs.Wd
set_option linter.unusedVariables false
set_option linter.unusedSimpArgs false
set_option maxRecDepth 10000

theorem own : ownKnob Tryz.prog.godebug = none := by kernel_rfl

set_option maxRecDepth 100000 in
theorem lifted (os : Os) (started : os.Started) (H : Type) (enc : TypeId × Value → H) :
    ReturnsInHanded {} Tryz.checked os 3 .any (Rows.matSumsSpec.pre6 enc Tryz.prog Tryz.f3 Rows.matSumsRow.domain false) (Rows.matSumsSpec.post enc Tryz.prog Tryz.f3 false true false false) := by
  refine returnsInHanded_of_change (C := Tryz.checked) own started (by kernel_rfl) Tryz.func3
    (ChangeSpec.witness6 (enc := enc) (C := Tryz.checked) false ⟨#[], #[.agg #[.int .i64 0, .int .i64 0, .slice none 0 0], .agg #[.int .i64 0, .int .i64 0, .slice none 0 0], .int .i64 0], []⟩ 8 (by kernel_rfl) (by kernel_rfl) (by kernel_rfl) (by kernel_rfl)) ?_
  intro W base args ds gs before hval0 hW hcnd _
  have hval : ∀ (j : Nat) t v, Tryz.f3.params[j]? = some t → args[j]? = some v → Value.okWide Tryz.prog W .any base t v := hval0
  have hW' := hW
  obtain ⟨p, q, hA0, hV, rfl, hfz, hnd⟩ := hW
  have hA : DataW.TrodAll enc Tryz.prog W 0 (fun _ => true) true Tryz.f3.params.toList args.toList ds p := hA0
  rw [Tryz.params3] at hA hval
  obtain ⟨v0, vs0, d0, ds0, p0, q0, hargs, rfl, rfl, h0, r0⟩ := trodAll_cons hA
  obtain ⟨v1, vs1, d1, ds1, p1, q1, rfl, rfl, rfl, h1, r1⟩ := trodAll_cons r0
  obtain ⟨v2, vs2, d2, ds2, p2, q2, rfl, rfl, rfl, h2, r2⟩ := trodAll_cons r1
  obtain ⟨rfl, rfl, rfl⟩ := trodAll_nil r2
  obtain rfl : args = #[v0, v1, v2] := by cases args; simp_all
  obtain ⟨rfl, rfl⟩ := trodVars_none hV
  have hlt := hW'.lt
  have k0 := h0
  obtain ⟨fuel0, t0⟩ := h0
  obtain ⟨cs0, rfl, _⟩ := okWide_struct Tryz.underlying24 (hval 0 24 v0 rfl rfl)
  obtain ⟨R0, C0, ao0, ln0, lc0, Z0, e0, iR0, iC0, le0, lm0, row0, num0, nil0⟩ := open_mat t0
  obtain rfl : cs0 = #[.int .i64 R0, .int .i64 C0, .slice ao0 ln0 lc0] := Array.ext' (by simpa [Value.cells] using e0)
  have k1 := h1
  obtain ⟨fuel1, t1⟩ := h1
  obtain ⟨cs1, rfl, _⟩ := okWide_struct Tryz.underlying24 (hval 1 24 v1 rfl rfl)
  obtain ⟨R1, C1, ao1, ln1, lc1, Z1, e1, iR1, iC1, le1, lm1, row1, num1, nil1⟩ := open_mat t1
  obtain rfl : cs1 = #[.int .i64 R1, .int .i64 C1, .slice ao1 ln1 lc1] := Array.ext' (by simpa [Value.cells] using e1)
  obtain ⟨a2, rfl, rfl, rfl, wa2⟩ := open_int Tryz.underlying3 (hval 2 3 v2 rfl rfl) h2
  clear hA0 hval0
  refine (lawMatSums R0 C0 R1 C1 a2 (i64_wf wa2) ao0 ao1 ln0 lc0 ln1 lc1 Z0 Z1 le0 le1 num0 num1 nil0 nil1 W row0 row1).mono fun e W' ⟨he, hg⟩ => ?_
  subst he
  exact ⟨_, rfl, post_of_kp (pa := p0 ++ (p1 ++ ([] ++ ([])))) (pv := []) hW' (fun _ => (trodAll_cons_mk (shut_bool Tryz.underlying4 _) trodAll_mk0)) (trodAll_cons_mk (WideElems.Trod_stays laid (by kernel_rfl) (of_decide_eq_true (by kernel_rfl)) k0 (fun x hx => hg.same (hlt x (by simp [hx]))) (fun x hx => by simpa using hlt x (by simp [hx]))) (trodAll_cons_mk (WideElems.Trod_stays laid (by kernel_rfl) (of_decide_eq_true (by kernel_rfl)) k1 (fun x hx => hg.same (hlt x (by simp [hx]))) (fun x hx => by simpa using hlt x (by simp [hx]))) (trodAll_cons_mk (shut_int Tryz.underlying3 wa2) trodAll_mk0))) rfl hg⟩

end Go.Proofs.YtcobicnpdmgnjaaGreat.matSums
namespace Go.Proofs.YtcobicnpdmgnjaaGreat
theorem matSums_holds : Rows.MatSumsSaid :=
  OpenClaim.holds_of_wide 3 Tryz.f3 rfl rfl rfl rfl rfl rfl rfl ⟨rfl, rfl, rfl, rfl, rfl⟩ rfl rfl rfl rfl rfl (by kernel_rfl) Tryz.func3 (by kernel_rfl)
    (of_decide_eq_true (by kernel_rfl)) (by unfold Func.isWrapper; first | (rw [if_pos (by decide +kernel)]; kernel_rfl) | (rw [if_neg (by decide +kernel)]; exact ⟨rfl, rfl⟩))
    (fun os started H enc _ => matSums.lifted os started H enc)
#print axioms matSums_holds
end Go.Proofs.YtcobicnpdmgnjaaGreat
