/- A unit in memory, and what the small functions of package unit do to it. -/
import Derived.Test.YtecelkneiffceaaGreatUnitMath
import Derived.Test.YtecelkneiffceaaGreatFixD
import Derived.Test.YtecelkneiffceaaGreatRootB
namespace Go.Proofs.YtecelkneiffceaaGreat
open Go.RowKit Go.Proofs.Wd
set_option linter.unusedVariables false
set_option linter.unusedSimpArgs false
set_option maxRecDepth 10000

/-- But for block U, and new blocks, the world is as it was. -/
def Mod (U : Nat) (w w' : World) : Prop :=
  w'.os = w.os ∧ w'.output = w.output ∧ (∀ k, k < w.heap.size → k ≠ U → w'.heap[k]? = w.heap[k]?) ∧ (∀ a, w'.frozen? a = w.frozen? a) ∧ w.heap.size ≤ w'.heap.size

theorem gblock {w w' : World} (h : Grown w w') {k : Nat} (hk : k < w.heap.size) : w'.heap[k]? = w.heap[k]? := by
  have h1 := h.1.2.2 k hk
  generalize w.heap[k]? = a at *
  generalize w'.heap[k]? = b at *
  rcases a with _ | (⟨c, t, fr⟩ | ⟨es, cl⟩ | _) <;> rcases b with _ | (⟨c', t', fr'⟩ | ⟨es', cl'⟩ | _) <;> simp_all
  apply Array.ext_getElem?
  exact h1.2.2.2

theorem Mod.of {U : Nat} {w w' : World} (h : Grown w w') : Mod U w w' := ⟨h.1.1, h.1.2.1, fun k hk _ => gblock h hk, h.2.1, h.2.2⟩
theorem Mod.refl (U : Nat) (w : World) : Mod U w w := ⟨rfl, rfl, fun _ _ _ => rfl, fun _ => rfl, Nat.le_refl _⟩
theorem Mod.trans {U : Nat} {a b c : World} (h : Mod U a b) (k : Mod U b c) : Mod U a c :=
  ⟨k.1.trans h.1, k.2.1.trans h.2.1, fun i hi hu => (k.2.2.1 i (Nat.lt_of_lt_of_le hi h.2.2.2.2) hu).trans (h.2.2.1 i hi hu), fun x => (k.2.2.2.1 x).trans (h.2.2.2.1 x), Nat.le_trans h.2.2.2.2 k.2.2.2.2⟩
theorem Mod.setCell {U : Nat} {a w : World} (h : Mod U a w) (o : Nat) (v : Value) : Mod U a (w.setCell ⟨U, o, none⟩ v) := by
  refine h.trans ⟨rfl, rfl, fun k hk hu => ?_, fun x => World.frozen?_setCell _ _ _ _, by simp [World.setCell]⟩
  exact Below.heap_setCell _ _ _ _ hu
theorem Mod.grown {U : Nat} {W a b : World} (g : Grown W a) (h : Mod U a b) (hU : W.heap.size ≤ U) : Grown W b := by
  refine ⟨⟨h.1.trans g.1.1, h.2.1.trans g.1.2.1, fun i hi => ?_⟩, fun x => (h.2.2.2.1 x).trans (g.2.1 x), Nat.le_trans g.2.2 h.2.2.2.2⟩
  have e : b.heap[i]? = W.heap[i]? := (h.2.2.1 i (Nat.lt_of_lt_of_le hi g.2.2) (by omega)).trans (gblock g hi)
  rw [e]
  split <;> simp_all

/-- A block of cells that are not frozen. -/
def Blk (U : Nat) (cs : Array Value) (T : TypeId) (w : World) : Prop := w.heap[U]? = some (.cells cs T (0, 0))
theorem Blk.lt {U : Nat} {cs : Array Value} {T : TypeId} {w : World} (h : Blk U cs T w) : U < w.heap.size := (Array.getElem?_eq_some_iff.1 h).1
theorem Blk.cell {U : Nat} {cs : Array Value} {T : TypeId} {w : World} (h : Blk U cs T w) (o : Nat) : w.cell? ⟨U, o, none⟩ = cs[o]? := cell_of_row w U o cs T (0, 0) h
theorem Blk.free {U : Nat} {cs : Array Value} {T : TypeId} {w : World} (h : Blk U cs T w) (o : Nat) : w.frozen? ⟨U, o, none⟩ = false := by
  unfold Blk at h
  simp [World.frozen?, h]
theorem Blk.keep {U V : Nat} {cs : Array Value} {T : TypeId} {w w' : World} (h : Blk U cs T w) (m : Mod V w w') (hne : U ≠ V) : Blk U cs T w' := (m.2.2.1 U h.lt hne).trans h
theorem Blk.grown {U : Nat} {cs : Array Value} {T : TypeId} {w w' : World} (h : Blk U cs T w) (m : Grown w w') : Blk U cs T w' := (gblock m h.lt).trans h
theorem Blk.set {U : Nat} {cs : Array Value} {T : TypeId} {w : World} (h : Blk U cs T w) (o : Nat) (v : Value) : Blk U (cs.setIfInBounds o v) T (w.setCell ⟨U, o, none⟩ v) := by
  unfold Blk at *
  simp only [World.setCell, Array.getElem?_modify, h]
  rfl

/-- A unit that New made. -/
def UC (U : Nat) (c : Bool) (n : Int) (w : World) : Prop := Blk U #[.bool c, .bool true, .int .i64 n] 40 w
theorem UC.c0 {U : Nat} {c : Bool} {n : Int} {w : World} (h : UC U c n w) : w.cell? ⟨U, 0, none⟩ = some (.bool c) := Blk.cell h 0
theorem UC.c1 {U : Nat} {c : Bool} {n : Int} {w : World} (h : UC U c n w) : w.cell? ⟨U, 1, none⟩ = some (.bool true) := Blk.cell h 1
theorem UC.c2 {U : Nat} {c : Bool} {n : Int} {w : World} (h : UC U c n w) : w.cell? ⟨U, 2, none⟩ = some (.int .i64 n) := Blk.cell h 2
theorem UC.set0 {U : Nat} {c : Bool} {n : Int} {w : World} (h : UC U c n w) (d : Bool) : UC U d n (w.setCell ⟨U, 0, none⟩ (.bool d)) := Blk.set h 0 _
theorem UC.set2 {U : Nat} {c : Bool} {n : Int} {w : World} (h : UC U c n w) (m : Int) : UC U c m (w.setCell ⟨U, 2, none⟩ (.int .i64 m)) := Blk.set h 2 _

set_option maxHeartbeats 400000 in
theorem unitNew (w : World) : Calls Tryz.prog 4 #[] w fun e w' => e = .returned (.pointer (some ⟨w.heap.size, 0, none⟩)) ∧ UC w.heap.size false 0 w' ∧ Grown w w' := by
  go_enter Tryz.func4, Tryz.ntmps4
  go_wp2
  go_ret
  exact ⟨rfl, heap_alloc_new w _, (Grown.refl _).alloc _ _⟩

set_option maxHeartbeats 400000 in
theorem unitCut (U : Nat) (c : Bool) (n : Int) (w : World) (h : UC U c n w) : Calls Tryz.prog 11 #[.pointer (some ⟨U, 0, none⟩)] w fun e w' => e = .returned (.bool c) ∧ w' = w := by
  have h0 := h.c0
  go_enter Tryz.func11, Tryz.ntmps11
  go_wp2
  go_ret
  exact ⟨rfl, rfl⟩

set_option maxHeartbeats 400000 in
theorem unitSet (U : Nat) (c d : Bool) (n : Int) (w : World) (h : UC U c n w) : Calls Tryz.prog 22 #[.pointer (some ⟨U, 0, none⟩), .bool d] w fun e w' => e = .returned (.tuple #[]) ∧ UC U (c || d) n w' ∧ Mod U w w' := by
  have h0 := h.c0
  have hf := h.free 0
  have H := hide h
  clear h
  cases d
  · go_enter Tryz.func22, Tryz.ntmps22
    go_wp2
    exact bodyPost_end (v := .tuple #[]) (by simp [results, Tryz.results22, go_sem]) rfl ⟨rfl, by rw [Bool.or_false]; exact unhide H, Mod.refl _ _⟩
  · go_enter Tryz.func22, Tryz.ntmps22
    go_wp2
    exact bodyPost_end (v := .tuple #[]) (by simp [results, Tryz.results22, go_sem]) rfl ⟨rfl, by rw [Bool.or_true]; exact (unhide H).set0 _, (Mod.refl _ _).setCell _ _⟩

set_option maxHeartbeats 400000 in
theorem unitClear (U : Nat) (c : Bool) (n : Int) (w : World) (h : UC U c n w) : Calls Tryz.prog 23 #[.pointer (some ⟨U, 0, none⟩)] w fun e w' => e = .returned (.tuple #[]) ∧ UC U false n w' ∧ Mod U w w' := by
  have h0 := h.c0
  have hf := h.free 0
  have H := hide h
  clear h
  go_enter Tryz.func23, Tryz.ntmps23
  go_wp2
  exact bodyPost_end (v := .tuple #[]) (by simp [results, Tryz.results23, go_sem]) rfl ⟨rfl, (unhide H).set0 _, (Mod.refl _ _).setCell _ _⟩

set_option maxHeartbeats 400000 in
theorem unitIs (U : Nat) (c : Bool) (n : Int) (w : World) (h : UC U c n w) : Calls Tryz.prog 34 #[.pointer (some ⟨U, 0, none⟩)] w fun e w' => e = .returned (.bool false) ∧ w' = w := by
  have h1 := h.c1
  clear h
  go_enter Tryz.func34, Tryz.ntmps34
  go_wp2
  go_ret
  exact ⟨rfl, rfl⟩

set_option maxHeartbeats 400000 in
theorem unitCount (U : Nat) (c : Bool) (n : Int) (w : World) (h : UC U c n w) : Calls Tryz.prog 12 #[.pointer (some ⟨U, 0, none⟩)] w fun e w' => e = .returned (.int .i64 n) ∧ w' = w := by
  have h2 := h.c2
  have H := hide h
  clear h
  go_enter Tryz.func12, Tryz.ntmps12
  go_wp2_with fail
  refine (unitIs U c n w (unhide H)).mono ?_
  rintro e w1 ⟨rfl, rfl⟩
  go_wp2
  go_ret
  exact ⟨rfl, rfl⟩

set_option maxHeartbeats 400000 in
theorem unitNote (U : Nat) (c d : Bool) (n x : Int) (hn : 0 ≤ n ∧ n < 4611686018427387904) (w : World) (h : UC U c n w) : Calls Tryz.prog 38 #[.pointer (some ⟨U, 0, none⟩), .int .i64 x, .bool d] w fun e w' => e = .returned (.int .i64 x) ∧ UC U (c || d) (n + 1) w' ∧ Mod U w w' := by
  have H := hide h
  clear h
  obtain ⟨n0, n1⟩ := hn
  go_enter Tryz.func38, Tryz.ntmps38
  go_wp2_with fail
  refine (unitIs U c n w (unhide H)).mono ?_
  rintro e w1 ⟨rfl, rfl⟩
  go_wp2_with fail
  refine (unitSet U c d n w1 (unhide H)).mono ?_
  rintro e w2 ⟨rfl, h2, m2⟩
  have k2 := h2.c2
  have f2 := h2.free 2
  have H2 := hide h2
  have M2 := hide m2
  clear h2 m2
  go_wp2
  go_ret
  exact ⟨rfl, (unhide H2).set2 _, (unhide M2).setCell _ _⟩

end Go.Proofs.YtecelkneiffceaaGreat
