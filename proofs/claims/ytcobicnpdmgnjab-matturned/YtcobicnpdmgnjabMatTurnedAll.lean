/- MatAw MatRL MatTS MatTu MatTurnedLaw, one after another. -/
import Derived.Test.YtcobicnpdmgnjabMatO
import Derived.Test.YtcobicnpdmgnjabMatN
import Derived.Test.YtcobicnpdmgnjabRowL
import Derived.Test.YtcobicnpdmgnjabRows
import Derived.ProofKit
import Derived.OpenShut
import Derived.Lib.SmallJoins
/- The laws' helper awake: some of the chapter's examples. -/
namespace Go.Proofs.Ytcobicnpdmgnjab
open Go.RowKit Go.Shelf Go.Proofs.Wd
set_option linter.unusedVariables false
set_option linter.unusedSimpArgs false

/-- A list of whole numbers, as it is written, times One. -/
def oneL (l : List Int) : Nat → Int := fun i => ix l i * 4294967296
theorem lits_small {l : List Int} (h : ∀ x ∈ l, -1000000 ≤ x ∧ x ≤ 1000000) : ∀ i, i < l.length → -1000000 ≤ ix l i ∧ ix l i ≤ 1000000 := by
  intro i hi
  have : ix l i = l[i] := by simp [ix, hi]
  rw [this]
  exact h _ (List.getElem_mem _)
theorem oneL_I64 {l : List Int} (h : ∀ x ∈ l, -1000000 ≤ x ∧ x ≤ 1000000) : ∀ i, i < l.length → I64 (oneL l i) := by
  intro i hi
  have := lits_small h i hi
  unfold oneL I64
  omega
/-- A list that is written out, and the matrix of it. -/
theorem lawOfL (l : List Int) (n : Nat) (hl : l.length = n) (hn : n ≤ 1000000) (h : ∀ x ∈ l, -1000000 ≤ x ∧ x ≤ 1000000) (r c : Int) (b cap : Nat) (w : World) (hb : Blk b (l.map (Value.int .i64)).toArray 3 w) :
    Calls Try.prog 13 #[.int .i64 r, .int .i64 c, .slice (some ⟨b, 0, none⟩) n cap] w fun e w' => CopyM r c n (oneL l) w e w' := by
  subst hl
  exact lawOf r c _ _ cap (ix l) hn (lits_small h) w (row_lit hb)

theorem ok22 : okM 2 2 4 := ⟨⟨by omega, by omega⟩, ⟨by omega, by omega⟩, by decide⟩
theorem mul22 : ∀ i, i < 4 → mulZ (oneL [1, 2, 3, 4]) (oneL [0, 1, 1, 0]) 2 2 i = oneL [2, 1, 4, 3] i := by decide +kernel
theorem mul22c : (false || orC (mulG (oneL [1, 2, 3, 4]) (oneL [0, 1, 1, 0]) 2 2) 4) = false := by decide +kernel
theorem turn22 : ∀ i, i < 4 → turnZ (oneL [1, 2, 3, 4]) 2 2 i = oneL [1, 3, 2, 4] i := by decide +kernel

set_option maxRecDepth 20000 in
set_option maxHeartbeats 4000000 in
theorem lawMatAwake (w : World) : Calls Try.prog 4 #[] w fun e w' => e = .returned (.bool true) ∧ Kp w w' := by
  have N1 := hide (unitNew w)
  have hU := Nat.le_refl w.heap.size
  generalize e : w.heap.size = U at N1 hU
  replace hU : w.heap.size ≤ U := by omega
  have HE := hide hU
  clear e hU
  go_enter Try.func4, Try.ntmps4
  go_wp2_with fail
  refine (unhide N1).mono ?_
  rintro e w1 ⟨rfl, h1, g1⟩
  have S1 : Hid (UC U false 0 w1 ∧ LS w [U] [] [] w1) := ⟨h1, Kp.of g1, fun e he => (by simp at he; subst he; exact ⟨unhide HE, Blk.lt h1⟩), fun _ h => absurd h List.not_mem_nil, fun _ h => absurd h List.not_mem_nil⟩
  clear h1 g1 N1
  have b1 := Blk.new w1 #[.int .i64 1, .int .i64 2, .int .i64 3, .int .i64 4] 3
  have O1 := hide (lawOfL [1, 2, 3, 4] 4 rfl (by omega) (by simp) 2 2 w1.heap.size 4 _ b1)
  have K1 : Hid (Kp w1 (w1.alloc (.cells #[.int .i64 1, .int .i64 2, .int .i64 3, .int .i64 4] 3))) := (Kp.refl _).alloc _ _
  clear b1
  go_wp2_with fail
  generalize w1.alloc (.cells #[.int .i64 1, .int .i64 2, .int .i64 3, .int .i64 4] 3) = w2 at *
  refine (unhide O1).mono ?_
  intro e w3 hv
  have S3 : Hid (UC U false 0 w3) := Blk.kp (unhide S1).1 ((unhide K1).trans (let ⟨_, _, _, _, _, _, k⟩ := hv; k))
  obtain ⟨a1, p1, rfl, hp1, s3⟩ := ((unhide S1).2.kp (unhide K1)).copy hv
  have L3 := hide (And.intro hp1 s3)
  clear hv hp1 s3 O1 K1 S1
  have b1 := Blk.new w3 #[.int .i64 0, .int .i64 1, .int .i64 1, .int .i64 0] 3
  have O1 := hide (lawOfL [0, 1, 1, 0] 4 rfl (by omega) (by simp) 2 2 w3.heap.size 4 _ b1)
  have K1 : Hid (Kp w3 (w3.alloc (.cells #[.int .i64 0, .int .i64 1, .int .i64 1, .int .i64 0] 3))) := (Kp.refl _).alloc _ _
  clear b1
  go_wp2_with fail
  generalize w3.alloc (.cells #[.int .i64 0, .int .i64 1, .int .i64 1, .int .i64 0] 3) = w4 at *
  refine (unhide O1).mono ?_
  intro e w5 hv
  have S5 : Hid (UC U false 0 w5) := Blk.kp (unhide S3) ((unhide K1).trans (let ⟨_, _, _, _, _, _, k⟩ := hv; k))
  obtain ⟨a2, p2, rfl, hp2, s5⟩ := ((unhide L3).2.kp (unhide K1)).copy hv
  have L5 := hide (And.intro (unhide L3).1 (And.intro hp2 s5))
  clear hv hp2 s5 O1 K1 S3 L3
  have L6 := hide ((unhide L5).2.2.box2 #[.int .i64 2, .int .i64 2, .slice a1 4 p1] #[.int .i64 2, .int .i64 2, .slice a2 4 p2])
  have K6 : Hid (Kp w5 ((w5.alloc (.cells #[.int .i64 2, .int .i64 2, .slice a1 4 p1] 24)).alloc (.cells #[.int .i64 2, .int .i64 2, .slice a2 4 p2] 24))) := ((Kp.refl _).alloc _ _).alloc _ _
  go_wp2_with fail
  generalize (w5.alloc (.cells #[.int .i64 2, .int .i64 2, .slice a1 4 p1] 24)).alloc (.cells #[.int .i64 2, .int .i64 2, .slice a2 4 p2] 24) = w6 at *
  have U6 : Hid (UC U false 0 w6) := Blk.kp (unhide S5) (unhide K6)
  have r1 := (unhide L6).at (ao := a1) (len := 4) (Z := oneL [1, 2, 3, 4]) (by simp)
  have r2 := (unhide L6).at (ao := a2) (len := 4) (Z := oneL [0, 1, 1, 0]) (by simp)
  refine (mulAny U false 0 ⟨by omega, by omega⟩ 2 2 2 2 a1 a2 4 p1 4 p2 (oneL [1, 2, 3, 4]) (oneL [0, 1, 1, 0]) (unhide L5).1 (oneL_I64 (l := [1, 2, 3, 4]) (by simp)) (oneL_I64 (l := [0, 1, 1, 0]) (by simp)) w6 (unhide U6) r1.1 (r1.2 U (by simp)) r2.1 (r2.2 U (by simp)) _ (mulO_of ok22 ok22 rfl)).mono ?_
  intro e w7 hv
  have ls7 : LS w [U] _ _ w7 := (unhide L6).mk (by simp) (let ⟨_, _, _, _, _, _, _, x⟩ := hv; x.2)
  obtain ⟨ac, pc, B7, rfl, _, _, _, s7, u7⟩ := (unhide L6).told ls7 hv
  have s7' := s7.congr (Y := oneL [2, 1, 4, 3]) mul22
  have L7 := hide s7'
  have d0 : w7.cell? ⟨w5.heap.size, 0, none⟩ = some (.int .i64 2) := s7'.cell (b := w5.heap.size) (cs := #[.int .i64 2, .int .i64 2, .slice a1 4 p1]) (by simp) 0
  have d1 : w7.cell? ⟨w5.heap.size, 1, none⟩ = some (.int .i64 2) := s7'.cell (b := w5.heap.size) (cs := #[.int .i64 2, .int .i64 2, .slice a1 4 p1]) (by simp) 1
  have d2 : w7.cell? ⟨w5.heap.size, 2, none⟩ = some (.slice a1 4 p1) := s7'.cell (b := w5.heap.size) (cs := #[.int .i64 2, .int .i64 2, .slice a1 4 p1]) (by simp) 2
  have hlt := s7'.lt (b := w5.heap.size) (cs := #[.int .i64 2, .int .i64 2, .slice a1 4 p1]) (by simp)
  clear hv ls7 s7 s7' u7 r1 r2 U6 K6 S5
  have L8 := hide ((unhide L7).box #[.int .i64 2, .int .i64 2, .slice ac 4 pc])
  simp only [show Int.toNat 2 = 2 from rfl, show 2 * 2 = 4 from rfl]
  go_wp2_with fail
  generalize w7.alloc (.cells #[.int .i64 2, .int .i64 2, .slice ac 4 pc] 24) = w8 at *
  have r1 := (unhide L8).at (ao := a1) (len := 4) (Z := oneL [1, 2, 3, 4]) (by simp)
  refine (turnAny 2 2 a1 4 p1 (oneL [1, 2, 3, 4]) w8 r1.1 _ (turnO_of ok22)).mono ?_
  intro e w9 hv
  obtain ⟨ad, pd, B9, rfl, _, _, _, s9, _⟩ := (unhide L8).told ((unhide L8).kp (let ⟨_, _, _, _, _, _, _, x⟩ := hv; x)) hv
  have L9 := hide (s9.congr (Y := oneL [1, 3, 2, 4]) turn22)
  clear hv s9 r1 d0 d1 d2 hlt
  have L10 := hide ((unhide L9).box #[.int .i64 2, .int .i64 2, .slice ad 4 pd])
  simp only [show Int.toNat 2 = 2 from rfl, show 2 * 2 = 4 from rfl]
  go_wp2_with fail
  generalize w9.alloc (.cells #[.int .i64 2, .int .i64 2, .slice ad 4 pd] 24) = w10 at *
  have CW : Hid (∀ wx, Kp w10 wx → wx.cell? ⟨w7.heap.size, 0, none⟩ = some (.int .i64 2) ∧ wx.cell? ⟨w7.heap.size, 1, none⟩ = some (.int .i64 2) ∧ wx.cell? ⟨w7.heap.size, 2, none⟩ = some (.slice ac 4 pc) ∧ wx.cell? ⟨w9.heap.size, 0, none⟩ = some (.int .i64 2) ∧ wx.cell? ⟨w9.heap.size, 1, none⟩ = some (.int .i64 2) ∧ wx.cell? ⟨w9.heap.size, 2, none⟩ = some (.slice ad 4 pd)) := fun wx k => by
    have h := (unhide L10).kp k
    exact ⟨h.cell (b := w7.heap.size) (cs := #[.int .i64 2, .int .i64 2, .slice ac 4 pc]) (by simp) 0, h.cell (b := w7.heap.size) (cs := #[.int .i64 2, .int .i64 2, .slice ac 4 pc]) (by simp) 1, h.cell (b := w7.heap.size) (cs := #[.int .i64 2, .int .i64 2, .slice ac 4 pc]) (by simp) 2, h.cell (b := w9.heap.size) (cs := #[.int .i64 2, .int .i64 2, .slice ad 4 pd]) (by simp) 0, h.cell (b := w9.heap.size) (cs := #[.int .i64 2, .int .i64 2, .slice ad 4 pd]) (by simp) 1, h.cell (b := w9.heap.size) (cs := #[.int .i64 2, .int .i64 2, .slice ad 4 pd]) (by simp) 2⟩
  have Rc : Hid (∀ wx, Kp w10 wx → Row wx ac 4 (oneL [2, 1, 4, 3])) := fun wx k => (((unhide L10).kp k).at (ao := ac) (len := 4) (Z := oneL [2, 1, 4, 3]) (by simp)).1
  have Rd : Hid (∀ wx, Kp w10 wx → Row wx ad 4 (oneL [1, 3, 2, 4])) := fun wx k => (((unhide L10).kp k).at (ao := ad) (len := 4) (Z := oneL [1, 3, 2, 4]) (by simp)).1
  obtain ⟨x1, x2, x3, x4, x5, x6⟩ := unhide CW w10 (Kp.refl _)
  have hz1 : w7.heap.size < w10.heap.size := heap_gt x1
  have hz2 : w9.heap.size < w10.heap.size := heap_gt x4
  have O1 : Hid (∀ wx b, Blk b #[.int .i64 2, .int .i64 1, .int .i64 4, .int .i64 3] 3 wx → Calls Try.prog 13 #[.int .i64 2, .int .i64 2, .slice (some ⟨b, 0, none⟩) 4 4] wx fun e w' => CopyM 2 2 4 (oneL [2, 1, 4, 3]) wx e w') := fun wx b hb => lawOfL [2, 1, 4, 3] 4 rfl (by omega) (by simp) 2 2 b 4 wx hb
  have O2 : Hid (∀ wx b, Blk b #[.int .i64 1, .int .i64 3, .int .i64 2, .int .i64 4] 3 wx → Calls Try.prog 13 #[.int .i64 2, .int .i64 2, .slice (some ⟨b, 0, none⟩) 4 4] wx fun e w' => CopyM 2 2 4 (oneL [1, 3, 2, 4]) wx e w') := fun wx b hb => lawOfL [1, 3, 2, 4] 4 rfl (by omega) (by simp) 2 2 b 4 wx hb
  have KD : Hid (Kp w10 (w10.alloc (.cells #[.int .i64 2, .int .i64 1, .int .i64 4, .int .i64 3] 3)).drew) := (Kp.refl w10).alloc _ _
  have KW := hide (unhide L10).1
  clear L10 L9 L8 L7 L6 L5
  go_region_held3 (fun w' => w'.cell? ⟨w7.heap.size, 0, none⟩ = some (.int .i64 2) ∧ w'.cell? ⟨w7.heap.size, 1, none⟩ = some (.int .i64 2) ∧ w'.cell? ⟨w7.heap.size, 2, none⟩ = some (.slice ac 4 pc) ∧ w'.cell? ⟨w9.heap.size, 0, none⟩ = some (.int .i64 2) ∧ w'.cell? ⟨w9.heap.size, 1, none⟩ = some (.int .i64 2) ∧ w'.cell? ⟨w9.heap.size, 2, none⟩ = some (.slice ad 4 pd))
      (simp [go_sem, *])
      (first
        | (go_at_call 13; refine (unhide O1 _ w10.heap.size (show Blk w10.heap.size #[.int .i64 2, .int .i64 1, .int .i64 4, .int .i64 3] 3 (w10.alloc (.cells #[.int .i64 2, .int .i64 1, .int .i64 4, .int .i64 3] 3)).drew from Blk.new w10 _ _)).mono ?_; clear O1; rintro e w11 ⟨a3, p3, rfl, hp3, r3, _, k3⟩; have K11 : Hid (Kp w10 w11) := ((unhide KD).trans k3); have R3 := hide r3; obtain ⟨y1, y2, y3, y4, y5, y6⟩ := unhide CW w11 (unhide K11); have hz3 := heap_gt y1; have hz4 := heap_gt y4; clear r3 k3 KD hp3)
        | (go_at_call 11; refine (kitSameM 2 2 ac a3 4 pc p3 (oneL [2, 1, 4, 3]) (by omega) _ (unhide Rc _ (unhide K11)) (unhide R3)).mono ?_; clear R3 Rc; rintro e w12 ⟨rfl, k12⟩; have K12 : Hid (Kp w10 w12) := ((unhide K11).trans k12); obtain ⟨z1, z2, z3, z4, z5, z6⟩ := unhide CW w12 (unhide K12); have hz5 := heap_gt z1; have hz6 := heap_gt z4; have KE : Hid (Kp w10 (w12.alloc (.cells #[.int .i64 1, .int .i64 3, .int .i64 2, .int .i64 4] 3))) := ((unhide K12).alloc _ _); clear k12)
        | (go_at_call 13; refine (unhide O2 _ _ (Blk.new _ _ _)).mono ?_; clear O2; rintro e w13 ⟨a4, p4, rfl, hp4, r4, _, k4⟩; have K13 : Hid (Kp w10 w13) := ((unhide KE).trans k4); have R4 := hide r4; obtain ⟨v1, v2, v3, v4, v5, v6⟩ := unhide CW w13 (unhide K13); clear r4 k4 hp4 KE)
        | (go_at_call 11; refine (kitSameM 2 2 ad a4 4 pd p4 (oneL [1, 3, 2, 4]) (by omega) _ (unhide Rd _ (unhide K13)) (unhide R4)).mono ?_; clear R4 Rd; rintro e w14 ⟨rfl, k14⟩; have K14 : Hid (Kp w10 w14) := ((unhide K13).trans k14); obtain ⟨t1, t2, t3, t4, t5, t6⟩ := unhide CW w14 (unhide K14); clear k14))
  go_wp2
  go_ret
  exact ⟨rfl, (unhide KW).trans (unhide K14)⟩

end Go.Proofs.Ytcobicnpdmgnjab

/- How matrices that are handed in lie in memory. -/
namespace Go.Proofs.Ytcobicnpdmgnjab
open Go.ChangeShapes Go.WideShapes Go.ChangeAt Go.RowKit Go.Joins Go.Proofs.Wd Go.Deep
set_option linter.unusedVariables false
set_option linter.unusedSimpArgs false

set_option maxRecDepth 20000 in
theorem open_mat {H : Type} {enc : TypeId × Value → H} {W : World} {n : Nat} {cs : List Value} {y : DataW H × List MemPlace} (h : DataW.trod enc Try.prog W 0 (fun _ => true) true n 24 cs = some y) :
    ∃ (R C : Int) (ao : Option Addr) (ln lc : Nat) (Z : Nat → Int), cs = [.int .i64 R, .int .i64 C, .slice ao ln lc] ∧ I64 R ∧ I64 C ∧ ln ≤ lc ∧ lc ≤ 9223372036854775807 ∧ Row W ao ln Z ∧ (∀ i, i < ln → I64 (Z i)) ∧ (ao = none → ln = 0 ∧ lc = 0) := by
  obtain ⟨xs, m, _, _, hlen, hxl, hf⟩ := DataW.trod_struct Try.underlying24 h
  rw [show Try.prog.cellsOf 24 = 3 by kernel_rfl] at hlen
  match cs, hlen with
  | [v0, v1, v2], _ =>
  match xs, hxl with
  | [x0, x1, x2], _ =>
  have f0 : DataW.trod enc Try.prog W 0 (fun _ => true) true m 3 (([v0, v1, v2].drop 0).take (Try.prog.cellsOf 3)) = some x0 := hf 0 _ rfl
  rw [cellsInt] at f0
  have f1 : DataW.trod enc Try.prog W 0 (fun _ => true) true m 3 (([v0, v1, v2].drop 1).take (Try.prog.cellsOf 3)) = some x1 := hf 1 _ rfl
  rw [cellsInt] at f1
  have f2 : DataW.trod enc Try.prog W 0 (fun _ => true) true m 22 (([v0, v1, v2].drop 2).take (Try.prog.cellsOf 22)) = some x2 := hf 2 _ rfl
  rw [cellsInts] at f2
  obtain ⟨R, e0, _, w0⟩ := DataW.trod_int Try.underlying3 f0
  obtain ⟨C, e1, _, w1⟩ := DataW.trod_int Try.underlying3 f1
  obtain ⟨lo, ln, lc, lz, rfl, l1, l2, l3, l4, l5⟩ := open_row0 f2
  simp at e0 e1
  subst e0 e1
  exact ⟨R, C, lo, ln, lc, lz, rfl, i64_wf w0, i64_wf w1, l1, l2, l3, l4, l5⟩

end Go.Proofs.Ytcobicnpdmgnjab

/- Laws with two units under way. -/
namespace Go.Proofs.Ytcobicnpdmgnjab
open Go.RowKit Go.Shelf Go.Proofs.Wd
set_option linter.unusedVariables false
set_option linter.unusedSimpArgs false

def TS (w : World) (U V : Nat) (cu : Array Value) (tu : TypeId) (cv : Array Value) (tv : TypeId) (bx : List (Nat × Array Value)) (rows : List (Option Addr × Nat × (Nat → Int))) (wx : World) : Prop :=
  Blk U cu tu wx ∧ Blk V cv tv wx ∧ U ≠ V ∧ LS w [U, V] bx rows wx
theorem LS.unit {w : World} {E : List Nat} {bx : List (Nat × Array Value)} {rows : List (Option Addr × Nat × (Nat → Int))} {wx w1 : World} {cs : Array Value} {T : TypeId} (h : LS w E bx rows wx) (g : Grown wx w1) (hu : Blk wx.heap.size cs T w1) : LS w (wx.heap.size :: E) bx rows w1 := by
  have k := h.kp (Kp.of g)
  refine ⟨k.1, fun e he => ?_, fun b hb => ⟨(k.2.2.1 b hb).1, fun he => ?_⟩, fun r hr => ⟨(k.2.2.2 r hr).1, fun e he => ?_⟩⟩
  · rcases List.mem_cons.1 he with rfl | he
    · exact ⟨h.1.2.2.2, Blk.lt hu⟩
    · exact k.2.1 e he
  · rcases List.mem_cons.1 he with e | he
    · have := Blk.lt (h.2.2.1 b hb).1; omega
    · exact (k.2.2.1 b hb).2 he
  · rcases List.mem_cons.1 he with rfl | he
    · exact (h.2.2.2 r hr).1.off (Nat.le_refl _)
    · exact (k.2.2.2 r hr).2 e he
section
variable {w : World} {U V : Nat} {cu cv : Array Value} {tu tv : TypeId} {bx : List (Nat × Array Value)} {rows : List (Option Addr × Nat × (Nat → Int))} {wx w' : World}
theorem TS.kp (h : TS w U V cu tu cv tv bx rows wx) (k : Kp wx w') : TS w U V cu tu cv tv bx rows w' := ⟨Blk.kp h.1 k, Blk.kp h.2.1 k, h.2.2.1, h.2.2.2.kp k⟩
theorem TS.box (h : TS w U V cu tu cv tv bx rows wx) (cs : Array Value) : TS w U V cu tu cv tv ((wx.heap.size, cs) :: bx) rows (wx.alloc (.cells cs 24)) :=
  ⟨Blk.grown h.1 ((Grown.refl _).alloc _ _), Blk.grown h.2.1 ((Grown.refl _).alloc _ _), h.2.2.1, h.2.2.2.box cs⟩
theorem TS.mkU {cu' : Array Value} (h : TS w U V cu tu cv tv bx rows wx) (m : Mk U wx w') (u : Blk U cu' tu w') : TS w U V cu' tu cv tv bx rows w' := ⟨u, Blk.mk h.2.1 m (Ne.symm h.2.2.1), h.2.2.1, h.2.2.2.mk (by simp) m⟩
theorem TS.mkV {cv' : Array Value} (h : TS w U V cu tu cv tv bx rows wx) (m : Mk V wx w') (u : Blk V cv' tv w') : TS w U V cu tu cv' tv bx rows w' := ⟨Blk.mk h.1 m h.2.2.1, u, h.2.2.1, h.2.2.2.mk (by simp) m⟩
theorem TS.toldU {cu' : Array Value} {r c err : Int} {len : Nat} {Z : Nat → Int} {e : Ending} (h : TS w U V cu tu cv tv bx rows wx) (m : MatP r c len Z err (fun w' => Blk U cu' tu w' ∧ Mk U wx w') wx e w') :
    ∃ ao cap B, e = .returned (.tuple #[.agg #[.int .i64 r, .int .i64 c, .slice ao len cap], .int .i64 err]) ∧ len ≤ cap ∧ (len = 0 ∨ (ao = some ⟨B, 0, none⟩ ∧ Blk B (ints len Z) 3 w')) ∧ wx.heap.size ≤ B ∧ TS w U V cu' tu cv tv bx ((ao, len, Z) :: rows) w' := by
  have hx : Blk U cu' tu w' ∧ Mk U wx w' := let ⟨_, _, _, _, _, _, _, x⟩ := m; x
  have t := h.mkU hx.2 hx.1
  obtain ⟨ao, cap, B, h1, h2, h3, h4, h5, _⟩ := h.2.2.2.told t.2.2.2 m
  exact ⟨ao, cap, B, h1, h2, h3, h4, t.1, t.2.1, t.2.2.1, h5⟩
theorem TS.toldV {cv' : Array Value} {r c err : Int} {len : Nat} {Z : Nat → Int} {e : Ending} (h : TS w U V cu tu cv tv bx rows wx) (m : MatP r c len Z err (fun w' => Blk V cv' tv w' ∧ Mk V wx w') wx e w') :
    ∃ ao cap B, e = .returned (.tuple #[.agg #[.int .i64 r, .int .i64 c, .slice ao len cap], .int .i64 err]) ∧ len ≤ cap ∧ (len = 0 ∨ (ao = some ⟨B, 0, none⟩ ∧ Blk B (ints len Z) 3 w')) ∧ wx.heap.size ≤ B ∧ TS w U V cu tu cv' tv bx ((ao, len, Z) :: rows) w' := by
  have hx : Blk V cv' tv w' ∧ Mk V wx w' := let ⟨_, _, _, _, _, _, _, x⟩ := m; x
  have t := h.mkV hx.2 hx.1
  obtain ⟨ao, cap, B, h1, h2, h3, h4, h5, _⟩ := h.2.2.2.told t.2.2.2 m
  exact ⟨ao, cap, B, h1, h2, h3, h4, t.1, t.2.1, t.2.2.1, h5⟩
theorem TS.toldK {r c err : Int} {len : Nat} {Z : Nat → Int} {e : Ending} (h : TS w U V cu tu cv tv bx rows wx) (m : MatP r c len Z err (Kp wx) wx e w') :
    ∃ ao cap B, e = .returned (.tuple #[.agg #[.int .i64 r, .int .i64 c, .slice ao len cap], .int .i64 err]) ∧ len ≤ cap ∧ (len = 0 ∨ (ao = some ⟨B, 0, none⟩ ∧ Blk B (ints len Z) 3 w')) ∧ wx.heap.size ≤ B ∧ TS w U V cu tu cv tv bx ((ao, len, Z) :: rows) w' := by
  have hx : Kp wx w' := let ⟨_, _, _, _, _, _, _, x⟩ := m; x
  have t := h.kp hx
  obtain ⟨ao, cap, B, h1, h2, h3, h4, h5, _⟩ := h.2.2.2.told t.2.2.2 m
  exact ⟨ao, cap, B, h1, h2, h3, h4, t.1, t.2.1, t.2.2.1, h5⟩
theorem TS.congr {ao : Option Addr} {len : Nat} {Z Y : Nat → Int} (h : TS w U V cu tu cv tv bx ((ao, len, Z) :: rows) wx) (hz : ∀ i, i < len → Z i = Y i) : TS w U V cu tu cv tv bx ((ao, len, Y) :: rows) wx := ⟨h.1, h.2.1, h.2.2.1, h.2.2.2.congr hz⟩
/-- The three cells of a matrix. -/
theorem TS.cells (h : TS w U V cu tu cv tv bx rows wx) {b : Nat} {x y z : Value} (hb : (b, #[x, y, z]) ∈ bx) : wx.cell? ⟨b, 0, none⟩ = some x ∧ wx.cell? ⟨b, 1, none⟩ = some y ∧ wx.cell? ⟨b, 2, none⟩ = some z := ⟨h.2.2.2.cell hb 0, h.2.2.2.cell hb 1, h.2.2.2.cell hb 2⟩
theorem TS.lt (h : TS w U V cu tu cv tv bx rows wx) {b : Nat} {cs : Array Value} (hb : (b, cs) ∈ bx) : b < wx.heap.size := h.2.2.2.lt hb
theorem TS.rowU (h : TS w U V cu tu cv tv bx rows wx) {ao : Option Addr} {len : Nat} {Z : Nat → Int} (hr : (ao, len, Z) ∈ rows) : Row wx ao len Z ∧ Off U len ao ∧ Off V len ao :=
  ⟨(h.2.2.2.at hr).1, (h.2.2.2.at hr).2 U (by simp), (h.2.2.2.at hr).2 V (by simp)⟩
end

end Go.Proofs.Ytcobicnpdmgnjab

/- MatTurned. -/
namespace Go.Proofs.Ytcobicnpdmgnjab
open Go.RowKit Go.Shelf Go.Proofs.Wd
set_option linter.unusedVariables false
set_option linter.unusedSimpArgs false

theorem LS.swap {w : World} {U V : Nat} {bx : List (Nat × Array Value)} {rows : List (Option Addr × Nat × (Nat → Int))} {wx : World} (h : LS w [V, U] bx rows wx) : LS w [U, V] bx rows wx := by
  have e : ∀ x, x ∈ [U, V] → x ∈ [V, U] := fun x hx => by simp at hx ⊢; exact hx.symm
  have e' : ∀ x, x ∈ [V, U] → x ∈ [U, V] := fun x hx => by simp at hx ⊢; exact hx.symm
  exact ⟨h.1, fun x hx => h.2.1 x (e x hx), fun b hb => ⟨(h.2.2.1 b hb).1, fun hx => (h.2.2.1 b hb).2 (e _ hx)⟩, fun r hr => ⟨(h.2.2.2 r hr).1, fun x hx => (h.2.2.2 r hr).2 x (e x hx)⟩⟩
theorem LS.nil (w : World) : LS w [] [] [] w := ⟨Kp.refl _, fun _ h => absurd h List.not_mem_nil, fun _ h => absurd h List.not_mem_nil, fun _ h => absurd h List.not_mem_nil⟩
/-- Were all of the first k fixed numbers? -/
def fxB (A : Nat → Int) : Nat → Bool
  | 0 => true
  | k + 1 => fxB A k && decide (-9223372036854775807 ≤ A k)
theorem fxB_all (A : Nat → Int) : ∀ k, fxB A k = true → ∀ i, i < k → -9223372036854775807 ≤ A i
  | 0, _, i, hi => absurd hi (Nat.not_lt_zero _)
  | k + 1, h, i, hi => by
    have h' : (fxB A k && decide (-9223372036854775807 ≤ A k)) = true := h
    rw [Bool.and_eq_true] at h'
    by_cases e : i = k
    · subst e; simpa using h'.2
    · exact fxB_all A k h'.1 i (by omega)


set_option maxRecDepth 50000 in
set_option maxHeartbeats 8000000 in
theorem lawMatTurned_not (R1 C1 R2 C2 : Int) (a1 a2 : Option Addr) (l1 p1 l2 p2 : Nat) (A B : Nat → Int) (h1 : l1 ≤ p1) (h2 : l2 ≤ p2) (w : World) (ra : Row w a1 l1 A) (rb : Row w a2 l2 B)
    (hc : 160 < l1 ∨ 160 < l2 ∨ ¬ okM R1 C1 l1) :
    Calls Try.prog 3 #[.agg #[.int .i64 R1, .int .i64 C1, .slice a1 l1 p1], .agg #[.int .i64 R2, .int .i64 C2, .slice a2 l2 p2]] w fun e w' => e = .returned (.bool true) ∧ Kp w w' := by
  have L0 := hide ((((LS.nil w).row ra (by simp)).row rb (by simp)).box2 #[.int .i64 R1, .int .i64 C1, .slice a1 l1 p1] #[.int .i64 R2, .int .i64 C2, .slice a2 l2 p2])
  have LA := hide (fun w => lawLong R1 C1 a1 l1 p1 w)
  have LB := hide (fun w => lawLong R2 C2 a2 l2 p2 w)
  have HC := hide hc
  clear ra rb hc
  go_enter Try.func3, Try.ntmps3
  go_wp2_with fail
  generalize (w.alloc (.cells #[.int .i64 R1, .int .i64 C1, .slice a1 l1 p1] 24)).alloc (.cells #[.int .i64 R2, .int .i64 C2, .slice a2 l2 p2] 24) = w0 at *
  refine (lawMatAwake w0).mono ?_
  rintro e w1 ⟨rfl, k1⟩
  have L1 := hide ((unhide L0).kp k1)
  clear k1 L0
  go_wp2_with fail
  refine (unitNew w1).mono ?_
  rintro e w2 ⟨rfl, u2, g2⟩
  have L2 := hide (And.intro u2 ((unhide L1).unit g2 u2))
  clear u2 g2
  go_wp2_with fail
  refine (unitNew w2).mono ?_
  rintro e w3 ⟨rfl, u3, g3⟩
  have L3 := hide (And.intro (Blk.grown (unhide L2).1 g3) (And.intro u3 (And.intro (Nat.ne_of_lt (Blk.lt (unhide L2).1)) ((unhide L2).2.unit g3 u3).swap)))
  clear u3 g3
  generalize w1.heap.size = U at *
  generalize w2.heap.size = V at *
  have L3' : Hid (TS w U V #[.bool false, .bool true, .int .i64 0] 39 #[.bool false, .bool true, .int .i64 0] 39 [(w.heap.size + 1, #[.int .i64 R2, .int .i64 C2, .slice a2 l2 p2]), (w.heap.size, #[.int .i64 R1, .int .i64 C1, .slice a1 l1 p1])] [(a2, l2, B), (a1, l1, A)] w3) := unhide L3
  obtain ⟨x0, x1, x2⟩ := (unhide L3').cells (b := w.heap.size) (x := .int .i64 R1) (y := .int .i64 C1) (z := .slice a1 l1 p1) (by simp)
  clear L3 L2 L1
  by_cases q1 : 160 < l1
  · rw [decide_eq_true q1] at LA
    clear q1 HC
    go_wp2_with fail
    refine (unhide LA _).mono ?_
    rintro e w4 ⟨rfl, g4⟩
    have K := hide ((unhide L3').2.2.2.1.grown g4)
    clear g4 LA LB x0 x1 x2
    go_wp2
    go_ret
    exact ⟨rfl, unhide K⟩
  · rw [decide_eq_false q1] at LA
    go_wp2_with fail
    refine (unhide LA _).mono ?_
    rintro e w4 ⟨rfl, g4⟩
    have L4 := hide ((unhide L3').kp (Kp.of g4))
    clear g4 LA L3' x0 x1 x2
    obtain ⟨y0, y1, y2⟩ := (unhide L4).cells (b := w.heap.size + 1) (x := .int .i64 R2) (y := .int .i64 C2) (z := .slice a2 l2 p2) (by simp)
    by_cases q2 : 160 < l2
    · rw [decide_eq_true q2] at LB
      clear q2 HC
      go_wp2_with fail
      refine (unhide LB _).mono ?_
      rintro e w5 ⟨rfl, g5⟩
      have K := hide ((unhide L4).2.2.2.1.grown g5)
      clear g5 LB y0 y1 y2
      go_wp2
      go_ret
      exact ⟨rfl, unhide K⟩
    · rw [decide_eq_false q2] at LB
      have hb : ¬ okM R1 C1 l1 := ((unhide HC).resolve_left (by omega)).resolve_left (by omega)
      have CK := hide (fun w => matCheck R1 C1 a1 l1 p1 w)
      rw [chk_bad hb] at CK
      have TN := hide (fun w => matTurn_bad R1 C1 a1 l1 p1 A hb w)
      clear q1 q2 HC hb
      go_wp2_with fail
      refine (unhide LB _).mono ?_
      rintro e w5 ⟨rfl, g5⟩
      have L5 := hide ((unhide L4).kp (Kp.of g5))
      clear g5 LB L4 y0 y1 y2
      obtain ⟨x0, x1, x2⟩ := (unhide L5).cells (b := w.heap.size) (x := .int .i64 R1) (y := .int .i64 C1) (z := .slice a1 l1 p1) (by simp)
      go_wp2_with fail
      refine (unhide TN _).mono ?_
      intro e w6 hv
      obtain ⟨ao6, cap6, B6, rfl, _, _, _, t6⟩ := (unhide L5).toldK hv
      have L6 := hide (t6.box #[.int .i64 0, .int .i64 0, .slice ao6 0 cap6])
      clear hv t6 x0 x1 x2
      generalize hw7 : w6.alloc (.cells #[.int .i64 0, .int .i64 0, .slice ao6 0 cap6] 24) = w7 at L6
      obtain ⟨x0, x1, x2⟩ := (unhide L6).cells (b := w.heap.size) (x := .int .i64 R1) (y := .int .i64 C1) (z := .slice a1 l1 p1) (by simp)
      go_wp2_with fail
      clear hw7
      refine (unhide CK _).mono ?_
      rintro e w8 ⟨rfl, g8⟩
      have K := hide ((unhide L6).2.2.2.1.grown g8)
      clear g8 CK x0 x1 x2
      go_wp2
      go_ret
      exact ⟨rfl, unhide K⟩


theorem Row.congr {w : World} {ao : Option Addr} {len : Nat} {Z Y : Nat → Int} (h : Row w ao len Z) (hz : ∀ i, i < len → Z i = Y i) : Row w ao len Y := by
  rcases h with h | ⟨b, o, rfl, hc⟩
  · exact Or.inl h
  · exact Or.inr ⟨b, o, rfl, fun i hi => by rw [hc i hi, hz i hi]⟩
/-- What comes of b turned, of a times b, and of both turned, exchanged. -/
theorem outTurned (r c : Nat) (hr : 1 ≤ r ∧ r ≤ 12) (hc : 1 ≤ c ∧ c ≤ 12) (R2 C2 : Int) (l2 : Nat) (A B : Nat → Int) (iB : ∀ i, i < l2 → I64 (B i)) (g : Bool) (n : Int) (tb m1 m2 : MO) (e1 : turnO R2 C2 l2 B = tb) (e2 : mulO r c R2 C2 (r * c) l2 A B g n = m1) (e3 : mulO tb.r tb.c c r tb.len (c * r) tb.Z (turnZ A r c) false 0 = m2) :
    (∀ i, i < tb.len → I64 (tb.Z i)) ∧ ((tb.err = 3 ∧ m1.err = 3 ∧ m2.err = 3) ∨ (tb.err = 0 ∧ m1.err = 3 ∧ m2.err = 3) ∨ (tb.err = 0 ∧ m1.err = 0 ∧ m2.err = 0 ∧ ∃ c2 : Nat, (1 ≤ c2 ∧ c2 ≤ 12) ∧ m1.r = r ∧ m1.c = c2 ∧ m1.len = r * c2 ∧ m2.r = c2 ∧ m2.c = r ∧ m2.len = c2 * r ∧ ∀ i, i < c2 * r → turnZ m1.Z r c2 i = m2.Z i)) := by
  subst e1 e2 e3
  have okA : okM r c (r * c) := ⟨by omega, by omega, by rw [Int.natCast_mul]⟩
  have okT : okM c r (c * r) := ⟨by omega, by omega, by rw [Int.natCast_mul]⟩
  by_cases hb : okM R2 C2 l2
  · obtain ⟨r2, c2, rfl, rfl, hr2, hc2, rfl, k1, k2⟩ := hb.nat
    have okBt : okM c2 r2 (c2 * r2) := ⟨by omega, by omega, by rw [Int.natCast_mul]⟩
    rw [turnO_of hb]
    refine ⟨turn_I64 B r2 c2 iB, ?_⟩
    by_cases e : c = r2
    · subst e
      rw [mulO_of okA hb rfl]
      have := mulO_of (A := turnZ B c c2) (B := turnZ A r c) (c0 := false) (n0 := 0) okBt okT rfl
      simp only [Int.toNat_natCast] at this
      simp only [Int.toNat_natCast]
      rw [this]
      exact Or.inr (Or.inr (by refine ⟨?_, ?_, ?_, c2, hc2, ?_, ?_, ?_, ?_, ?_, ?_, fun i hi => mul_turn A B r c c2 i hi⟩ <;> first | rfl | trivial))
    · refine Or.inr (Or.inl ⟨rfl, ?_, ?_⟩)
      · unfold mulO
        rw [if_neg (fun h => e (by have := h.2.2; omega))]
      · show (mulO c2 r2 c r (c2 * r2) (c * r) (turnZ B r2 c2) (turnZ A r c) false 0).err = 3
        unfold mulO
        rw [if_neg (fun h => e (by have := h.2.2; omega))]
  · have et : turnO R2 C2 l2 B = ⟨0, 0, 0, B, 3, false, 0⟩ := if_neg hb
    rw [et]
    refine ⟨fun i hi => absurd hi (Nat.not_lt_zero _), Or.inl ⟨rfl, ?_, ?_⟩⟩
    · unfold mulO
      rw [if_neg (fun h => hb h.2.1)]
    · show (mulO 0 0 c r 0 (c * r) B (turnZ A r c) false 0).err = 3
      unfold mulO
      rw [if_neg (fun h => by have := h.1.1.1; omega)]
theorem mul144 (r c m : Nat) (hr : 1 ≤ r ∧ r ≤ 12) (hc : 1 ≤ c ∧ c ≤ 12) (hm : 1 ≤ m ∧ m ≤ 12) : 0 ≤ 2 * (m : Int) * ((r * c : Nat) : Int) ∧ 2 * (m : Int) * ((r * c : Nat) : Int) ≤ 24 * 144 := by
  have := mul12n r c hr hc
  exact ⟨Int.mul_nonneg (by omega) (by omega), Int.mul_le_mul (by omega) (by omega) (by omega) (by omega)⟩

set_option maxRecDepth 50000 in
set_option maxHeartbeats 16000000 in
theorem lawMatTurned_ok (r c : Nat) (R2 C2 : Int) (a1 a2 : Option Addr) (p1 l2 p2 : Nat) (A B : Nat → Int) (hr : 1 ≤ r ∧ r ≤ 12) (hc : 1 ≤ c ∧ c ≤ 12) (h1 : r * c ≤ p1) (h2 : l2 ≤ p2) (hl2 : l2 ≤ 160) (iA : ∀ i, i < r * c → I64 (A i)) (iB : ∀ i, i < l2 → I64 (B i)) (w : World) (ra : Row w a1 (r * c) A) (rb : Row w a2 l2 B) :
    Calls Try.prog 3 #[.agg #[.int .i64 r, .int .i64 c, .slice a1 (r * c) p1], .agg #[.int .i64 R2, .int .i64 C2, .slice a2 l2 p2]] w fun e w' => e = .returned (.bool true) ∧ Kp w w' := by
  have hrc := mul12n r c hr hc
  have okA : okM r c (r * c) := ⟨by omega, by omega, by rw [Int.natCast_mul]⟩
  have okT : okM c r (c * r) := ⟨by omega, by omega, by rw [Int.natCast_mul]⟩
  have okR : okM r r (r * r) := ⟨by omega, by omega, by rw [Int.natCast_mul]⟩
  have okC : okM c c (c * c) := ⟨by omega, by omega, by rw [Int.natCast_mul]⟩
  have L0 := hide ((((LS.nil w).row ra (by simp)).row rb (by simp)).box2 #[.int .i64 r, .int .i64 c, .slice a1 (r * c) p1] #[.int .i64 R2, .int .i64 C2, .slice a2 l2 p2])
  have LA := hide (fun w => lawLong r c a1 (r * c) p1 w)
  rw [decide_eq_false (by omega)] at LA
  have LB := hide (fun w => lawLong R2 C2 a2 l2 p2 w)
  rw [decide_eq_false (by omega)] at LB
  have TA : Hid (∀ wx, Row wx a1 (r * c) A → Calls Try.prog 7 #[.agg #[.int .i64 r, .int .i64 c, .slice a1 (r * c) p1]] wx fun e w' => MatP c r (c * r) (turnZ A r c) 0 (Kp wx) wx e w') := fun wx h => turnAny r c a1 (r * c) p1 A wx h _ (turnO_of okA)
  have TT : Hid (∀ wx ao cap, Row wx ao (c * r) (turnZ A r c) → Calls Try.prog 7 #[.agg #[.int .i64 c, .int .i64 r, .slice ao (c * r) cap]] wx fun e w' => MatP r c (r * c) A 0 (Kp wx) wx e w') := fun wx ao cap h => (turnAny c r ao (c * r) cap (turnZ A r c) wx h _ (turnO_of okT)).mono fun e w' hv => MatP.congr hv (fun i hi => turn_turn A r c i hi)
  have ER : Hid (∀ wx, Calls Try.prog 9 #[.int .i64 r] wx fun e w' => MatP r r (r * r) (diagZ oneZ r) 0 (Kp wx) wx e w') := fun wx => matEye_ok r hr wx
  have EC : Hid (∀ wx, Calls Try.prog 9 #[.int .i64 c] wx fun e w' => MatP c c (c * c) (diagZ oneZ c) 0 (Kp wx) wx e w') := fun wx => matEye_ok c hc wx
  have n1 := mul144 r c r hr hc hr
  have n2 := mul144 r c c hr hc hc
  have M1 : Hid (∀ U wx ao cap, r * r ≤ cap → UC U false 0 wx → Row wx ao (r * r) (diagZ oneZ r) → Off U (r * r) ao → Row wx a1 (r * c) A → Off U (r * c) a1 → Calls Try.prog 10 #[.pointer (some ⟨U, 0, none⟩), .agg #[.int .i64 r, .int .i64 r, .slice ao (r * r) cap], .agg #[.int .i64 r, .int .i64 c, .slice a1 (r * c) p1]] wx fun e w' => MatP r c (r * c) (mulZ (diagZ oneZ r) A r c) 0 (fun w' => UC U (orC (mulG (diagZ oneZ r) A r c) (r * c)) (0 + 2 * r * ((r * c : Nat) : Int)) w' ∧ Mk U wx w') wx e w') := fun U wx ao cap hcap hu h3 h4 h5 h6 =>
    mulAny U false 0 ⟨by omega, by omega⟩ r r r c ao a1 (r * r) cap (r * c) p1 _ A hcap (diagZ_I64 oneZ r (fun i _ => by unfold oneZ I64; omega)) iA wx hu h3 h4 h5 h6 _ (mulO_of okR okA rfl)
  have M2 : Hid (∀ U g n wx ao cap, 0 ≤ n ∧ n ≤ 10000 → UC U g n wx → Row wx ao (c * c) (diagZ oneZ c) → Off U (c * c) ao → Row wx a1 (r * c) A → Off U (r * c) a1 → Calls Try.prog 10 #[.pointer (some ⟨U, 0, none⟩), .agg #[.int .i64 r, .int .i64 c, .slice a1 (r * c) p1], .agg #[.int .i64 c, .int .i64 c, .slice ao (c * c) cap]] wx fun e w' => MatP r c (r * c) (mulZ A (diagZ oneZ c) c c) 0 (fun w' => UC U (g || orC (mulG A (diagZ oneZ c) c c) (r * c)) (n + 2 * c * ((r * c : Nat) : Int)) w' ∧ Mk U wx w') wx e w') := fun U g n wx ao cap hn hu h3 h4 h5 h6 =>
    mulAny U g n ⟨hn.1, by omega⟩ r c c c a1 ao (r * c) p1 (c * c) cap A _ h1 iA (diagZ_I64 oneZ c (fun i _ => by unfold oneZ I64; omega)) wx hu h5 h6 h3 h4 _ (mulO_of okA okC rfl)
  have FX : Hid (fxB A (r * c) = true → (∀ i, i < r * c → mulZ (diagZ oneZ r) A r c i = A i) ∧ (∀ i, i < r * c → mulZ A (diagZ oneZ c) c c i = A i) ∧ orC (mulG (diagZ oneZ r) A r c) (r * c) = false ∧ orC (mulG A (diagZ oneZ c) c c) (r * c) = false) := by
    intro hf
    have fx : ∀ i, i < r * c → Fx (A i) := fun i hi => ⟨fxB_all A _ hf i hi, by have := (iA i hi).2; omega⟩
    exact ⟨fun i hi => (eye_left A r c i fx hi).1, fun i hi => (eye_right A r c i fx hi).1, orC_of _ _ (fun i hi => (eye_left A r c i fx hi).2), orC_of _ _ (fun i hi => (eye_right A r c i fx hi).2)⟩
  have TB : Hid (∀ wx, Row wx a2 l2 B → Calls Try.prog 7 #[.agg #[.int .i64 R2, .int .i64 C2, .slice a2 l2 p2]] wx fun e w' => MatP (turnO R2 C2 l2 B).r (turnO R2 C2 l2 B).c (turnO R2 C2 l2 B).len (turnO R2 C2 l2 B).Z (turnO R2 C2 l2 B).err (Kp wx) wx e w') := fun wx h => turnAny R2 C2 a2 l2 p2 B wx h _ rfl
  have HN := hide (And.intro n1 n2)
  have HH := hide (And.intro hr (And.intro hc (And.intro h1 (And.intro h2 (And.intro hl2 (And.intro iA (And.intro iB (And.intro okA okT))))))))
  obtain ⟨rc, hrcE⟩ : ∃ q, r * c = q := ⟨_, rfl⟩
  obtain ⟨cr, hcrE⟩ : ∃ q, c * r = q := ⟨_, rfl⟩
  obtain ⟨rr, hrrE⟩ : ∃ q, r * r = q := ⟨_, rfl⟩
  obtain ⟨cc, hccE⟩ : ∃ q, c * c = q := ⟨_, rfl⟩
  have HQ := hide (And.intro hrcE (And.intro hcrE (And.intro hrrE hccE)))
  rw [hrcE] at L0 LA HN hrc
  simp only [hrcE, hcrE, hrrE, hccE] at TA TT ER EC M1 M2 FX
  rw [hrcE]
  clear hr hc h1 h2 hl2 iA iB ra rb okA okT okR okC n1 n2 hrcE hcrE hrrE hccE
  go_enter Try.func3, Try.ntmps3
  go_wp2_with fail
  generalize (w.alloc (.cells #[.int .i64 r, .int .i64 c, .slice a1 rc p1] 24)).alloc (.cells #[.int .i64 R2, .int .i64 C2, .slice a2 l2 p2] 24) = w0 at *
  refine (lawMatAwake w0).mono ?_
  rintro e w1 ⟨rfl, k1⟩
  have L1 := hide ((unhide L0).kp k1)
  clear k1 L0
  go_wp2_with fail
  refine (unitNew w1).mono ?_
  rintro e w2 ⟨rfl, u2, g2⟩
  have L2 := hide (And.intro u2 ((unhide L1).unit g2 u2))
  clear u2 g2
  go_wp2_with fail
  refine (unitNew w2).mono ?_
  rintro e w3 ⟨rfl, u3, g3⟩
  have L3 := hide (And.intro (Blk.grown (unhide L2).1 g3) (And.intro u3 (And.intro (Nat.ne_of_lt (Blk.lt (unhide L2).1)) ((unhide L2).2.unit g3 u3).swap)))
  clear u3 g3
  generalize w1.heap.size = U at *
  generalize w2.heap.size = V at *
  have L3' : Hid (TS w U V #[.bool false, .bool true, .int .i64 0] 39 #[.bool false, .bool true, .int .i64 0] 39 [(w.heap.size + 1, #[.int .i64 R2, .int .i64 C2, .slice a2 l2 p2]), (w.heap.size, #[.int .i64 r, .int .i64 c, .slice a1 rc p1])] [(a2, l2, B), (a1, rc, A)] w3) := unhide L3
  clear L3 L2 L1
  obtain ⟨x0, x1, x2⟩ := (unhide L3').cells (b := w.heap.size) (x := .int .i64 r) (y := .int .i64 c) (z := .slice a1 rc p1) (by simp)
  go_wp2_with fail
  refine (unhide LA _).mono ?_
  rintro e w4 ⟨rfl, g4⟩
  have L4 := hide ((unhide L3').kp (Kp.of g4))
  clear g4 LA L3' x0 x1 x2
  obtain ⟨y0, y1, y2⟩ := (unhide L4).cells (b := w.heap.size + 1) (x := .int .i64 R2) (y := .int .i64 C2) (z := .slice a2 l2 p2) (by simp)
  go_wp2_with fail
  refine (unhide LB _).mono ?_
  rintro e w5 ⟨rfl, g5⟩
  have L5 := hide ((unhide L4).kp (Kp.of g5))
  clear g5 LB L4 y0 y1 y2
  obtain ⟨x0, x1, x2⟩ := (unhide L5).cells (b := w.heap.size) (x := .int .i64 r) (y := .int .i64 c) (z := .slice a1 rc p1) (by simp)
  go_wp2_with fail
  refine (unhide TA _ ((unhide L5).rowU (ao := a1) (len := rc) (Z := A) (by simp)).1).mono ?_
  intro e w6 hv
  obtain ⟨at', pt, Bt, rfl, hpt, _, _, t6⟩ := (unhide L5).toldK hv
  have L6 := hide (t6.box #[.int .i64 c, .int .i64 r, .slice at' cr pt])
  generalize hw7 : w6.alloc (.cells #[.int .i64 c, .int .i64 r, .slice at' cr pt] 24) = w7 at L6
  have HPT := hide hpt
  clear hv t6 x0 x1 x2 TA L5 hpt
  obtain ⟨z0, z1, z2⟩ := (unhide L6).cells (b := w6.heap.size) (x := .int .i64 c) (y := .int .i64 r) (z := .slice at' cr pt) (by simp)
  go_wp2_with fail
  clear hw7
  refine (unhide TT _ _ _ ((unhide L6).rowU (ao := at') (len := cr) (Z := turnZ A r c) (by simp)).1).mono ?_
  intro e w8 hv
  obtain ⟨ag, pg, Bg, rfl, _, _, _, t8⟩ := (unhide L6).toldK hv
  have L8 := hide (t8.box #[.int .i64 r, .int .i64 c, .slice ag rc pg])
  generalize hw9 : w8.alloc (.cells #[.int .i64 r, .int .i64 c, .slice ag rc pg] 24) = w9 at L8
  clear hv t8 z0 z1 z2 TT L6
  obtain ⟨x0, x1, x2⟩ := (unhide L8).cells (b := w.heap.size) (x := .int .i64 r) (y := .int .i64 c) (z := .slice a1 rc p1) (by simp)
  go_wp2_with fail
  clear hw9
  refine (unhide ER _).mono ?_
  intro e w10 hv
  obtain ⟨ae, pe, Be, rfl, hpe, _, _, t10⟩ := (unhide L8).toldK hv
  have L10 := hide (t10.box #[.int .i64 r, .int .i64 r, .slice ae rr pe])
  generalize hw11 : w10.alloc (.cells #[.int .i64 r, .int .i64 r, .slice ae rr pe] 24) = w11 at L10
  have HPE := hide hpe
  clear hv t10 x0 x1 x2 ER L8 hpe
  obtain ⟨x0, x1, x2⟩ := (unhide L10).cells (b := w.heap.size) (x := .int .i64 r) (y := .int .i64 c) (z := .slice a1 rc p1) (by simp)
  go_wp2_with fail
  clear hw11
  refine (unhide EC _).mono ?_
  intro e w12 hv
  obtain ⟨af, pf, Bf, rfl, _, _, _, t12⟩ := (unhide L10).toldK hv
  have L12 := hide (t12.box #[.int .i64 c, .int .i64 c, .slice af cc pf])
  generalize hw13 : w12.alloc (.cells #[.int .i64 c, .int .i64 c, .slice af cc pf] 24) = w13 at L12
  clear hv t12 x0 x1 x2 EC L10
  obtain ⟨x0, x1, x2⟩ := (unhide L12).cells (b := w.heap.size) (x := .int .i64 r) (y := .int .i64 c) (z := .slice a1 rc p1) (by simp)
  obtain ⟨z0, z1, z2⟩ := (unhide L12).cells (b := w10.heap.size) (x := .int .i64 r) (y := .int .i64 r) (z := .slice ae rr pe) (by simp)
  go_wp2_with fail
  clear hw13
  have q1 := (unhide L12).rowU (ao := ae) (len := rr) (Z := diagZ oneZ r) (by simp)
  have q2 := (unhide L12).rowU (ao := a1) (len := rc) (Z := A) (by simp)
  refine (unhide M1 U _ _ _ (unhide HPE) (unhide L12).1 q1.1 q1.2.1 q2.1 q2.2.1).mono ?_
  intro e w14 hv
  obtain ⟨ax, px, Bx, rfl, _, _, _, t14⟩ := (unhide L12).toldU hv
  have L14 := hide (t14.box #[.int .i64 r, .int .i64 c, .slice ax rc px])
  generalize hw15 : w14.alloc (.cells #[.int .i64 r, .int .i64 c, .slice ax rc px] 24) = w15 at L14
  clear hv t14 x0 x1 x2 z0 z1 z2 M1 L12 q1 q2
  obtain ⟨x0, x1, x2⟩ := (unhide L14).cells (b := w.heap.size) (x := .int .i64 r) (y := .int .i64 c) (z := .slice a1 rc p1) (by simp)
  obtain ⟨z0, z1, z2⟩ := (unhide L14).cells (b := w12.heap.size) (x := .int .i64 c) (y := .int .i64 c) (z := .slice af cc pf) (by simp)
  go_wp2_with fail
  clear hw15
  have q1 := (unhide L14).rowU (ao := af) (len := cc) (Z := diagZ oneZ c) (by simp)
  have q2 := (unhide L14).rowU (ao := a1) (len := rc) (Z := A) (by simp)
  refine (unhide M2 U _ _ _ _ _ (by have := unhide HN; omega) (unhide L14).1 q1.1 q1.2.1 q2.1 q2.2.1).mono ?_
  intro e w16 hv
  obtain ⟨ay, py, By, rfl, _, _, _, t16⟩ := (unhide L14).toldU hv
  have L16 := hide (t16.box #[.int .i64 r, .int .i64 c, .slice ay rc py])
  generalize hw17 : w16.alloc (.cells #[.int .i64 r, .int .i64 c, .slice ay rc py] 24) = w17 at L16
  clear hv t16 x0 x1 x2 z0 z1 z2 M2 L14 q1 q2
  obtain ⟨x0, x1, x2⟩ := (unhide L16).cells (b := w.heap.size) (x := .int .i64 r) (y := .int .i64 c) (z := .slice a1 rc p1) (by simp)
  obtain ⟨z0, z1, z2⟩ := (unhide L16).cells (b := w8.heap.size) (x := .int .i64 r) (y := .int .i64 c) (z := .slice ag rc pg) (by simp)
  go_wp2_with fail
  clear hw17
  have q1 := (unhide L16).rowU (ao := ag) (len := rc) (Z := A) (by simp)
  have q2 := (unhide L16).rowU (ao := a1) (len := rc) (Z := A) (by simp)
  refine (kitSameM r c ag a1 rc pg p1 A (by omega) _ q1.1 q2.1).mono ?_
  rintro e w18 ⟨rfl, k18⟩
  have L18 := hide ((unhide L16).kp k18)
  clear k18 x0 x1 x2 z0 z1 z2 L16 q1 q2
  obtain ⟨x0, x1, x2⟩ := (unhide L18).cells (b := w.heap.size) (x := .int .i64 r) (y := .int .i64 c) (z := .slice a1 rc p1) (by simp)
  go_wp2_with fail
  clear x0 x1
  go_loopw [20, 21] (fun f i wr => ∃ k : Nat, k ≤ rc ∧ i = .int .i64 k ∧ f = .bool (fxB A k) ∧ wr = w18) (fun _ i _ => rc - (intOf i).toNat)
  case atStart => exact ⟨0, Nat.zero_le _, rfl, rfl, rfl⟩
  case round =>
    obtain ⟨k, hk, rfl, rfl, hwr⟩ := hrel
    subst hwr
    by_cases hlt : k < rc
    · obtain ⟨b1, o1, ea, hc1⟩ := ((unhide L18).rowU (ao := a1) (len := rc) (Z := A) (by simp)).1.at hlt
      obtain ⟨x, ex⟩ : ∃ x, A k = x := ⟨_, rfl⟩
      rw [ex] at hc1
      have i0 : (0 : Int) ≤ (k : Int) := by omega
      have i1 : (k : Int) < (rc : Int) := by omega
      have EX : Hid (fxB A (k + 1) = (fxB A k && decide (-9223372036854775807 ≤ x))) := by rw [← ex]; rfl
      cases hf : fxB A k with
      | true =>
        rw [hf] at EX
        have EA := hide ea
        subst ea
        clear hf ex
        go_wp2
        go_roundw
        case rel => exact ⟨k + 1, by omega, by go_num, by rw [unhide EX, Bool.true_and], trivial⟩
        case measure => simp [intOf]; omega
      | false =>
        rw [hf] at EX
        clear hf ex hc1 ea
        go_wp2
        go_roundw
        case rel => exact ⟨k + 1, by omega, by go_num, by rw [unhide EX]; rfl, trivial⟩
        case measure => simp [intOf]; omega
    · obtain rfl : k = rc := by omega
      clear hlt
      cases hf : fxB A k with
      | true =>
        obtain ⟨g1, g2, g3, g4⟩ := unhide FX hf
        have q1 := ((unhide L18).rowU (ao := ax) (len := k) (Z := mulZ (diagZ oneZ r) A r c) (by simp)).1.congr g1
        have q3 : Hid (Row wr ay k A) := ((unhide L18).rowU (ao := ay) (len := k) (Z := mulZ A (diagZ oneZ c) c c) (by simp)).1.congr g2
        have q2 := ((unhide L18).rowU (ao := a1) (len := k) (Z := A) (by simp)).1
        have GF : Hid ((orC (mulG (diagZ oneZ r) A r c) k || orC (mulG A (diagZ oneZ c) c c) k) = false) := by rw [g3, g4]; rfl
        obtain ⟨y0, y1, y2⟩ := (unhide L18).cells (b := w14.heap.size) (x := .int .i64 r) (y := .int .i64 c) (z := .slice ax k px) (by simp)
        obtain ⟨x0, x1, x2⟩ := (unhide L18).cells (b := w.heap.size) (x := .int .i64 r) (y := .int .i64 c) (z := .slice a1 k p1) (by simp)
        clear g1 g2 g3 g4 hf FX
        have S1 := hide (kitSameM r c ax a1 k px p1 A (by omega) _ q1 q2)
        clear q1 q2
        go_wp2_with fail
        refine (unhide S1).mono ?_
        rintro e w19 ⟨rfl, k19⟩
        have L19 := hide ((unhide L18).kp k19)
        have q3' := (unhide q3).kp k19
        have q4 := ((unhide L19).rowU (ao := a1) (len := k) (Z := A) (by simp)).1
        have S2 := hide (kitSameM r c ay a1 k py p1 A (by omega) _ q3' q4)
        clear k19 q3 q3' q4 S1 L18 x0 x1 x2 y0 y1 y2
        obtain ⟨y0, y1, y2⟩ := (unhide L19).cells (b := w16.heap.size) (x := .int .i64 r) (y := .int .i64 c) (z := .slice ay k py) (by simp)
        obtain ⟨x0, x1, x2⟩ := (unhide L19).cells (b := w.heap.size) (x := .int .i64 r) (y := .int .i64 c) (z := .slice a1 k p1) (by simp)
        go_wp2_with fail
        refine (unhide S2).mono ?_
        rintro e w20 ⟨rfl, k20⟩
        have L20 := hide ((unhide L19).kp k20)
        clear k20 S2 L19 x0 x1 x2 y0 y1 y2
        have uc : UC U _ _ w20 := (unhide L20).1
        have CT := hide (unitCut U _ _ _ uc)
        rw [unhide GF] at CT
        clear uc
        go_wp2_with fail
        refine (unhide CT).mono ?_
        rintro e w21 ⟨rfl, hw21⟩
        subst hw21
        clear CT GF
        obtain ⟨G, HG⟩ : ∃ G, G = (orC (mulG (diagZ oneZ r) A r c) k || orC (mulG A (diagZ oneZ c) c c) k) := ⟨_, rfl⟩
        obtain ⟨N, hN⟩ : ∃ N : Int, N = 0 + 2 * (r : Int) * (k : Int) + 2 * (c : Int) * (k : Int) := ⟨_, rfl⟩
        rw [← HG, ← hN] at L20
        have nb : Hid (0 ≤ N ∧ N ≤ 10000) := by have := unhide HN; show _ ∧ _; omega
        clear HG hN
        obtain ⟨y0, y1, y2⟩ := (unhide L20).cells (b := w.heap.size + 1) (x := .int .i64 R2) (y := .int .i64 C2) (z := .slice a2 l2 p2) (by simp)
        go_wp2_with fail
        refine (unhide TB _ ((unhide L20).rowU (ao := a2) (len := l2) (Z := B) (by simp)).1).mono ?_
        obtain ⟨tb, htb⟩ : ∃ q, turnO R2 C2 l2 B = q := ⟨_, rfl⟩
        rw [htb]
        intro e w22 hv
        obtain ⟨abt, pbt, Bbt, rfl, hpbt, _, _, t22⟩ := (unhide L20).toldK hv
        have L22 := hide (t22.box #[.int .i64 tb.r, .int .i64 tb.c, .slice abt tb.len pbt])
        generalize hw23 : w22.alloc (.cells #[.int .i64 tb.r, .int .i64 tb.c, .slice abt tb.len pbt] 24) = w23 at L22
        have HTB := hide (And.intro htb hpbt)
        clear hv t22 y0 y1 y2 TB L20 htb hpbt
        obtain ⟨x0, x1, x2⟩ := (unhide L22).cells (b := w.heap.size) (x := .int .i64 r) (y := .int .i64 c) (z := .slice a1 k p1) (by simp)
        obtain ⟨y0, y1, y2⟩ := (unhide L22).cells (b := w.heap.size + 1) (x := .int .i64 R2) (y := .int .i64 C2) (z := .slice a2 l2 p2) (by simp)
        go_wp2_with fail
        clear hw23
        obtain ⟨hr, hc, h1, h2, hl2, iA, iB, okA, okT⟩ := unhide HH
        have q1 := (unhide L22).rowU (ao := a1) (len := k) (Z := A) (by simp)
        have q2 := (unhide L22).rowU (ao := a2) (len := l2) (Z := B) (by simp)
        obtain ⟨m1, hm1⟩ : ∃ q, mulO r c R2 C2 (r * c) l2 A B G N = q := ⟨_, rfl⟩
        have hm1' := hm1
        rw [(unhide HQ).1] at hm1' h1 iA
        refine (mulAny U G N (by have := unhide nb; omega) r c R2 C2 a1 a2 k p1 l2 p2 A B h1 iA iB _ (unhide L22).1 q1.1 q1.2.1 q2.1 q2.2.1 m1 hm1').mono ?_
        intro e w24 hv
        obtain ⟨aab, pab, Bab, rfl, _, _, _, t24⟩ := (unhide L22).toldU hv
        have L24 := hide (t24.box #[.int .i64 m1.r, .int .i64 m1.c, .slice aab m1.len pab])
        generalize hw25 : w24.alloc (.cells #[.int .i64 m1.r, .int .i64 m1.c, .slice aab m1.len pab] 24) = w25 at L24
        have HM1 := hide hm1
        clear hv t24 x0 x1 x2 y0 y1 y2 L22 q1 q2 hm1 hm1' hr hc h1 h2 hl2 iA iB okA okT
        obtain ⟨x0, x1, x2⟩ := (unhide L24).cells (b := w22.heap.size) (x := .int .i64 tb.r) (y := .int .i64 tb.c) (z := .slice abt tb.len pbt) (by simp)
        obtain ⟨y0, y1, y2⟩ := (unhide L24).cells (b := w6.heap.size) (x := .int .i64 c) (y := .int .i64 r) (z := .slice at' cr pt) (by simp)
        go_wp2_with fail
        clear hw25
        obtain ⟨hr, hc, h1, h2, hl2, iA, iB, okA, okT⟩ := unhide HH
        have q1 := (unhide L24).rowU (ao := abt) (len := tb.len) (Z := tb.Z) (by simp)
        have q2 := (unhide L24).rowU (ao := at') (len := cr) (Z := turnZ A r c) (by simp)
        obtain ⟨m2, hm2⟩ : ∃ q, mulO tb.r tb.c c r tb.len (c * r) tb.Z (turnZ A r c) false 0 = q := ⟨_, rfl⟩
        have OUT := outTurned r c hr hc R2 C2 l2 A B iB G N tb m1 m2 (unhide HTB).1 (unhide HM1) hm2
        have itA := turn_I64 A r c iA
        rw [(unhide HQ).2.1] at hm2 itA
        refine (mulAny V false 0 ⟨by omega, by omega⟩ tb.r tb.c c r abt at' tb.len pbt cr pt tb.Z (turnZ A r c) (unhide HTB).2 OUT.1 itA _ (unhide L24).2.1 q1.1 q1.2.2 q2.1 q2.2.2 m2 hm2).mono ?_
        intro e w26 hv
        obtain ⟨apq, ppq, Bpq, rfl, _, _, _, t26⟩ := (unhide L24).toldV hv
        have L26 := hide (t26.box #[.int .i64 m2.r, .int .i64 m2.c, .slice apq m2.len ppq])
        generalize hw27 : w26.alloc (.cells #[.int .i64 m2.r, .int .i64 m2.c, .slice apq m2.len ppq] 24) = w27 at L26
        have HO := hide OUT.2
        have KK := hide (unhide L26).2.2.2.1
        clear hv t26 x0 x1 x2 y0 y1 y2 q1 q2 hm2 itA OUT hr hc h1 h2 hl2 iA iB okA okT L24
        rcases unhide HO with ⟨o1, o2, o3⟩ | ⟨o1, o2, o3⟩ | ⟨o1, o2, o3, o4⟩
        · clear HO HTB HM1 HH
          go_wp2
          go_ret
          exact ⟨rfl, unhide KK⟩
        · clear HO HTB HM1 HH
          go_wp2
          go_ret
          exact ⟨rfl, unhide KK⟩
        · obtain ⟨c2, hc2, f1, f2, f3, f4, f5, f6, f7⟩ := o4
          have okP : okM m1.r m1.c m1.len := by
            have hr := (unhide HH).1
            rw [f1, f2, f3]
            exact ⟨by omega, by omega, by rw [Int.natCast_mul]⟩
          have TP : Hid (∀ wx, Row wx aab m1.len m1.Z → Calls Try.prog 7 #[.agg #[.int .i64 m1.r, .int .i64 m1.c, .slice aab m1.len pab]] wx fun e w' => MatP m2.r m2.c m2.len m2.Z 0 (Kp wx) wx e w') := by
            intro wx h
            have t := turnAny m1.r m1.c aab m1.len pab m1.Z wx h _ (turnO_of okP)
            refine t.mono fun e w' hv => ?_
            have hv' : MatP m2.r m2.c m2.len (turnZ m1.Z r c2) 0 (Kp wx) wx e w' := by
              rw [f4, f5, f6]
              rw [f1, f2] at hv
              exact hv
            exact hv'.congr (fun i hi => f7 i (by rw [← f6]; exact hi))
          have bnd : Hid (m2.len ≤ 1000000) := by
            show m2.len ≤ 1000000
            rw [f6]
            have := mul12n c2 r hc2 (unhide HH).1
            omega
          clear HO HTB HM1 HH okP f1 f2 f3 f4 f5 f6 f7
          obtain ⟨x0, x1, x2⟩ := (unhide L26).cells (b := w24.heap.size) (x := .int .i64 m1.r) (y := .int .i64 m1.c) (z := .slice aab m1.len pab) (by simp)
          go_wp2_with fail
          clear hw27
          refine (unhide TP _ ((unhide L26).rowU (ao := aab) (len := m1.len) (Z := m1.Z) (by simp)).1).mono ?_
          intro e w28 hv
          obtain ⟨aat, pat, Bat, rfl, _, _, _, t28⟩ := (unhide L26).toldK hv
          have L28 := hide (t28.box #[.int .i64 m2.r, .int .i64 m2.c, .slice aat m2.len pat])
          generalize hw29 : w28.alloc (.cells #[.int .i64 m2.r, .int .i64 m2.c, .slice aat m2.len pat] 24) = w29 at L28
          clear hv t28 x0 x1 x2 L26
          obtain ⟨x0, x1, x2⟩ := (unhide L28).cells (b := w28.heap.size) (x := .int .i64 m2.r) (y := .int .i64 m2.c) (z := .slice aat m2.len pat) (by simp)
          obtain ⟨y0, y1, y2⟩ := (unhide L28).cells (b := w26.heap.size) (x := .int .i64 m2.r) (y := .int .i64 m2.c) (z := .slice apq m2.len ppq) (by simp)
          go_wp2_with fail
          clear hw29
          have q1 := (unhide L28).rowU (ao := aat) (len := m2.len) (Z := m2.Z) (by simp)
          have q2 := (unhide L28).rowU (ao := apq) (len := m2.len) (Z := m2.Z) (by simp)
          refine (kitSameM m2.r m2.c aat apq m2.len pat ppq m2.Z (unhide bnd) _ q1.1 q2.1).mono ?_
          rintro e w30 ⟨rfl, k30⟩
          have K30 := hide ((unhide L28).2.2.2.1.trans k30)
          clear k30 q1 q2 x0 x1 x2 y0 y1 y2
          go_wp2
          go_ret
          exact ⟨rfl, unhide K30⟩
      | false =>
        clear hf FX
        obtain ⟨G, HG⟩ : ∃ G, G = (orC (mulG (diagZ oneZ r) A r c) k || orC (mulG A (diagZ oneZ c) c c) k) := ⟨_, rfl⟩
        obtain ⟨N, hN⟩ : ∃ N : Int, N = 0 + 2 * (r : Int) * (k : Int) + 2 * (c : Int) * (k : Int) := ⟨_, rfl⟩
        rw [← HG, ← hN] at L18
        have nb : Hid (0 ≤ N ∧ N ≤ 10000) := by have := unhide HN; show _ ∧ _; omega
        clear HG hN
        obtain ⟨y0, y1, y2⟩ := (unhide L18).cells (b := w.heap.size + 1) (x := .int .i64 R2) (y := .int .i64 C2) (z := .slice a2 l2 p2) (by simp)
        go_wp2_with fail
        refine (unhide TB _ ((unhide L18).rowU (ao := a2) (len := l2) (Z := B) (by simp)).1).mono ?_
        obtain ⟨tb, htb⟩ : ∃ q, turnO R2 C2 l2 B = q := ⟨_, rfl⟩
        rw [htb]
        intro e w22 hv
        obtain ⟨abt, pbt, Bbt, rfl, hpbt, _, _, t22⟩ := (unhide L18).toldK hv
        have L22 := hide (t22.box #[.int .i64 tb.r, .int .i64 tb.c, .slice abt tb.len pbt])
        generalize hw23 : w22.alloc (.cells #[.int .i64 tb.r, .int .i64 tb.c, .slice abt tb.len pbt] 24) = w23 at L22
        have HTB := hide (And.intro htb hpbt)
        clear hv t22 y0 y1 y2 TB L18 htb hpbt
        obtain ⟨x0, x1, x2⟩ := (unhide L22).cells (b := w.heap.size) (x := .int .i64 r) (y := .int .i64 c) (z := .slice a1 k p1) (by simp)
        obtain ⟨y0, y1, y2⟩ := (unhide L22).cells (b := w.heap.size + 1) (x := .int .i64 R2) (y := .int .i64 C2) (z := .slice a2 l2 p2) (by simp)
        go_wp2_with fail
        clear hw23
        obtain ⟨hr, hc, h1, h2, hl2, iA, iB, okA, okT⟩ := unhide HH
        have q1 := (unhide L22).rowU (ao := a1) (len := k) (Z := A) (by simp)
        have q2 := (unhide L22).rowU (ao := a2) (len := l2) (Z := B) (by simp)
        obtain ⟨m1, hm1⟩ : ∃ q, mulO r c R2 C2 (r * c) l2 A B G N = q := ⟨_, rfl⟩
        have hm1' := hm1
        rw [(unhide HQ).1] at hm1' h1 iA
        refine (mulAny U G N (by have := unhide nb; omega) r c R2 C2 a1 a2 k p1 l2 p2 A B h1 iA iB _ (unhide L22).1 q1.1 q1.2.1 q2.1 q2.2.1 m1 hm1').mono ?_
        intro e w24 hv
        obtain ⟨aab, pab, Bab, rfl, _, _, _, t24⟩ := (unhide L22).toldU hv
        have L24 := hide (t24.box #[.int .i64 m1.r, .int .i64 m1.c, .slice aab m1.len pab])
        generalize hw25 : w24.alloc (.cells #[.int .i64 m1.r, .int .i64 m1.c, .slice aab m1.len pab] 24) = w25 at L24
        have HM1 := hide hm1
        clear hv t24 x0 x1 x2 y0 y1 y2 L22 q1 q2 hm1 hm1' hr hc h1 h2 hl2 iA iB okA okT
        obtain ⟨x0, x1, x2⟩ := (unhide L24).cells (b := w22.heap.size) (x := .int .i64 tb.r) (y := .int .i64 tb.c) (z := .slice abt tb.len pbt) (by simp)
        obtain ⟨y0, y1, y2⟩ := (unhide L24).cells (b := w6.heap.size) (x := .int .i64 c) (y := .int .i64 r) (z := .slice at' cr pt) (by simp)
        go_wp2_with fail
        clear hw25
        obtain ⟨hr, hc, h1, h2, hl2, iA, iB, okA, okT⟩ := unhide HH
        have q1 := (unhide L24).rowU (ao := abt) (len := tb.len) (Z := tb.Z) (by simp)
        have q2 := (unhide L24).rowU (ao := at') (len := cr) (Z := turnZ A r c) (by simp)
        obtain ⟨m2, hm2⟩ : ∃ q, mulO tb.r tb.c c r tb.len (c * r) tb.Z (turnZ A r c) false 0 = q := ⟨_, rfl⟩
        have OUT := outTurned r c hr hc R2 C2 l2 A B iB G N tb m1 m2 (unhide HTB).1 (unhide HM1) hm2
        have itA := turn_I64 A r c iA
        rw [(unhide HQ).2.1] at hm2 itA
        refine (mulAny V false 0 ⟨by omega, by omega⟩ tb.r tb.c c r abt at' tb.len pbt cr pt tb.Z (turnZ A r c) (unhide HTB).2 OUT.1 itA _ (unhide L24).2.1 q1.1 q1.2.2 q2.1 q2.2.2 m2 hm2).mono ?_
        intro e w26 hv
        obtain ⟨apq, ppq, Bpq, rfl, _, _, _, t26⟩ := (unhide L24).toldV hv
        have L26 := hide (t26.box #[.int .i64 m2.r, .int .i64 m2.c, .slice apq m2.len ppq])
        generalize hw27 : w26.alloc (.cells #[.int .i64 m2.r, .int .i64 m2.c, .slice apq m2.len ppq] 24) = w27 at L26
        have HO := hide OUT.2
        have KK := hide (unhide L26).2.2.2.1
        clear hv t26 x0 x1 x2 y0 y1 y2 q1 q2 hm2 itA OUT hr hc h1 h2 hl2 iA iB okA okT L24
        rcases unhide HO with ⟨o1, o2, o3⟩ | ⟨o1, o2, o3⟩ | ⟨o1, o2, o3, o4⟩
        · clear HO HTB HM1 HH
          go_wp2
          go_ret
          exact ⟨rfl, unhide KK⟩
        · clear HO HTB HM1 HH
          go_wp2
          go_ret
          exact ⟨rfl, unhide KK⟩
        · obtain ⟨c2, hc2, f1, f2, f3, f4, f5, f6, f7⟩ := o4
          have okP : okM m1.r m1.c m1.len := by
            have hr := (unhide HH).1
            rw [f1, f2, f3]
            exact ⟨by omega, by omega, by rw [Int.natCast_mul]⟩
          have TP : Hid (∀ wx, Row wx aab m1.len m1.Z → Calls Try.prog 7 #[.agg #[.int .i64 m1.r, .int .i64 m1.c, .slice aab m1.len pab]] wx fun e w' => MatP m2.r m2.c m2.len m2.Z 0 (Kp wx) wx e w') := by
            intro wx h
            have t := turnAny m1.r m1.c aab m1.len pab m1.Z wx h _ (turnO_of okP)
            refine t.mono fun e w' hv => ?_
            have hv' : MatP m2.r m2.c m2.len (turnZ m1.Z r c2) 0 (Kp wx) wx e w' := by
              rw [f4, f5, f6]
              rw [f1, f2] at hv
              exact hv
            exact hv'.congr (fun i hi => f7 i (by rw [← f6]; exact hi))
          have bnd : Hid (m2.len ≤ 1000000) := by
            show m2.len ≤ 1000000
            rw [f6]
            have := mul12n c2 r hc2 (unhide HH).1
            omega
          clear HO HTB HM1 HH okP f1 f2 f3 f4 f5 f6 f7
          obtain ⟨x0, x1, x2⟩ := (unhide L26).cells (b := w24.heap.size) (x := .int .i64 m1.r) (y := .int .i64 m1.c) (z := .slice aab m1.len pab) (by simp)
          go_wp2_with fail
          clear hw27
          refine (unhide TP _ ((unhide L26).rowU (ao := aab) (len := m1.len) (Z := m1.Z) (by simp)).1).mono ?_
          intro e w28 hv
          obtain ⟨aat, pat, Bat, rfl, _, _, _, t28⟩ := (unhide L26).toldK hv
          have L28 := hide (t28.box #[.int .i64 m2.r, .int .i64 m2.c, .slice aat m2.len pat])
          generalize hw29 : w28.alloc (.cells #[.int .i64 m2.r, .int .i64 m2.c, .slice aat m2.len pat] 24) = w29 at L28
          clear hv t28 x0 x1 x2 L26
          obtain ⟨x0, x1, x2⟩ := (unhide L28).cells (b := w28.heap.size) (x := .int .i64 m2.r) (y := .int .i64 m2.c) (z := .slice aat m2.len pat) (by simp)
          obtain ⟨y0, y1, y2⟩ := (unhide L28).cells (b := w26.heap.size) (x := .int .i64 m2.r) (y := .int .i64 m2.c) (z := .slice apq m2.len ppq) (by simp)
          go_wp2_with fail
          clear hw29
          have q1 := (unhide L28).rowU (ao := aat) (len := m2.len) (Z := m2.Z) (by simp)
          have q2 := (unhide L28).rowU (ao := apq) (len := m2.len) (Z := m2.Z) (by simp)
          refine (kitSameM m2.r m2.c aat apq m2.len pat ppq m2.Z (unhide bnd) _ q1.1 q2.1).mono ?_
          rintro e w30 ⟨rfl, k30⟩
          have K30 := hide ((unhide L28).2.2.2.1.trans k30)
          clear k30 q1 q2 x0 x1 x2 y0 y1 y2
          go_wp2
          go_ret
          exact ⟨rfl, unhide K30⟩



theorem lawMatTurned (R1 C1 R2 C2 : Int) (a1 a2 : Option Addr) (l1 p1 l2 p2 : Nat) (A B : Nat → Int) (h1 : l1 ≤ p1) (h2 : l2 ≤ p2) (iA : ∀ i, i < l1 → I64 (A i)) (iB : ∀ i, i < l2 → I64 (B i)) (w : World) (ra : Row w a1 l1 A) (rb : Row w a2 l2 B) :
    Calls Try.prog 3 #[.agg #[.int .i64 R1, .int .i64 C1, .slice a1 l1 p1], .agg #[.int .i64 R2, .int .i64 C2, .slice a2 l2 p2]] w fun e w' => e = .returned (.bool true) ∧ Kp w w' := by
  by_cases hc : 160 < l1 ∨ 160 < l2 ∨ ¬ okM R1 C1 l1
  · exact lawMatTurned_not R1 C1 R2 C2 a1 a2 l1 p1 l2 p2 A B h1 h2 w ra rb hc
  · have ok : okM R1 C1 l1 := Classical.byContradiction fun h => hc (Or.inr (Or.inr h))
    have hl : l2 ≤ 160 := Nat.le_of_not_lt fun h => hc (Or.inr (Or.inl h))
    obtain ⟨r, c, rfl, rfl, hr, hcc, rfl, _, _⟩ := ok.nat
    exact lawMatTurned_ok r c R2 C2 a1 a2 p1 l2 p2 A B hr hcc h1 h2 hl iA iB w ra rb

end Go.Proofs.Ytcobicnpdmgnjab

/- The statement MatTurned holds for every input: the law returns true, and its arguments read afterwards as before. No condition. -/
namespace Go.Proofs.Ytcobicnpdmgnjab.matTurned
open Go.ChangeShapes Go.WideShapes Go.ChangeAt Go.RowKit Go.Joins Go.Proofs.Wd
set_option linter.unusedVariables false
set_option linter.unusedSimpArgs false

theorem own : ownKnob Try.prog.godebug = none := by kernel_rfl

set_option maxRecDepth 100000 in
theorem lifted (os : Os) (started : os.Started) (H : Type) (enc : TypeId × Value → H) :
    ReturnsInHanded {} Try.checked os 3 .any (Rows.matTurnedSpec.pre6 enc Try.prog Try.f3 Rows.matTurnedRow.domain false) (Rows.matTurnedSpec.post enc Try.prog Try.f3 false true false false) := by
  refine returnsInHanded_of_change (C := Try.checked) own started (by kernel_rfl) Try.func3
    (ChangeSpec.witness6 (enc := enc) (C := Try.checked) false ⟨#[], #[.agg #[.int .i64 0, .int .i64 0, .slice none 0 0], .agg #[.int .i64 0, .int .i64 0, .slice none 0 0]], []⟩ 8 (by kernel_rfl) (by kernel_rfl) (by kernel_rfl) (by kernel_rfl)) ?_
  intro W base args ds gs before hval0 hW hcnd _
  have hval : ∀ (j : Nat) t v, Try.f3.params[j]? = some t → args[j]? = some v → Value.okWide Try.prog W .any base t v := hval0
  have hW' := hW
  obtain ⟨p, q, hA0, hV, rfl, hfz, hnd⟩ := hW
  have hA : DataW.TrodAll enc Try.prog W 0 (fun _ => true) true Try.f3.params.toList args.toList ds p := hA0
  rw [Try.params3] at hA hval
  obtain ⟨v0, vs0, d0, ds0, p0, q0, hargs, rfl, rfl, h0, r0⟩ := trodAll_cons hA
  obtain ⟨v1, vs1, d1, ds1, p1, q1, rfl, rfl, rfl, h1, r1⟩ := trodAll_cons r0
  obtain ⟨rfl, rfl, rfl⟩ := trodAll_nil r1
  obtain rfl : args = #[v0, v1] := by cases args; simp_all
  obtain ⟨rfl, rfl⟩ := trodVars_none hV
  have hlt := hW'.lt
  have k0 := h0
  obtain ⟨fuel0, t0⟩ := h0
  obtain ⟨cs0, rfl, _⟩ := okWide_struct Try.underlying24 (hval 0 24 v0 rfl rfl)
  obtain ⟨R0, C0, ao0, ln0, lc0, Z0, e0, iR0, iC0, le0, lm0, row0, num0, nil0⟩ := open_mat t0
  obtain rfl : cs0 = #[.int .i64 R0, .int .i64 C0, .slice ao0 ln0 lc0] := Array.ext' (by simpa [Value.cells] using e0)
  have k1 := h1
  obtain ⟨fuel1, t1⟩ := h1
  obtain ⟨cs1, rfl, _⟩ := okWide_struct Try.underlying24 (hval 1 24 v1 rfl rfl)
  obtain ⟨R1, C1, ao1, ln1, lc1, Z1, e1, iR1, iC1, le1, lm1, row1, num1, nil1⟩ := open_mat t1
  obtain rfl : cs1 = #[.int .i64 R1, .int .i64 C1, .slice ao1 ln1 lc1] := Array.ext' (by simpa [Value.cells] using e1)
  clear hA0 hval0
  refine (lawMatTurned R0 C0 R1 C1 ao0 ao1 ln0 lc0 ln1 lc1 Z0 Z1 le0 le1 num0 num1 W row0 row1).mono fun e W' ⟨he, hg⟩ => ?_
  subst he
  exact ⟨_, rfl, post_of_kp (pa := p0 ++ (p1 ++ ([]))) (pv := []) hW' (fun _ => (trodAll_cons_mk (shut_bool Try.underlying4 _) trodAll_mk0)) (trodAll_cons_mk (WideElems.Trod_stays laid (by kernel_rfl) (of_decide_eq_true (by kernel_rfl)) k0 (fun x hx => hg.same (hlt x (by simp [hx]))) (fun x hx => by simpa using hlt x (by simp [hx]))) (trodAll_cons_mk (WideElems.Trod_stays laid (by kernel_rfl) (of_decide_eq_true (by kernel_rfl)) k1 (fun x hx => hg.same (hlt x (by simp [hx]))) (fun x hx => by simpa using hlt x (by simp [hx]))) trodAll_mk0)) rfl hg⟩

end Go.Proofs.Ytcobicnpdmgnjab.matTurned
namespace Go.Proofs.Ytcobicnpdmgnjab
theorem matTurned_holds : Rows.MatTurnedSaid :=
  OpenClaim.holds_of_wide 3 Try.f3 rfl rfl rfl rfl rfl rfl rfl ⟨rfl, rfl, rfl, rfl, rfl⟩ rfl rfl rfl rfl rfl (by kernel_rfl) Try.func3 (by kernel_rfl)
    (of_decide_eq_true (by kernel_rfl)) (by unfold Func.isWrapper; first | (rw [if_pos (by decide +kernel)]; kernel_rfl) | (rw [if_neg (by decide +kernel)]; exact ⟨rfl, rfl⟩))
    (fun os started H enc _ => matTurned.lifted os started H enc)
#print axioms matTurned_holds
end Go.Proofs.Ytcobicnpdmgnjab
