/- A unit in memory, and what the small functions of package unit do to it. -/
import Derived.Test.YtopaakjildmjcaaGreatRowA
import Derived.Test.YtopaakjildmjcaaGreatUnitMath
import Derived.Test.YtopaakjildmjcaaGreatFixD
import Derived.Test.YtopaakjildmjcaaGreatRootB
namespace Go.Proofs.YtopaakjildmjcaaGreat
open Go.RowKit Go.Proofs.Wd
set_option linter.unusedVariables false
set_option linter.unusedSimpArgs false
set_option maxRecDepth 10000

/-- A unit that New made. -/
def UC (U : Nat) (c : Bool) (n : Int) (w : World) : Prop := Blk U #[.bool c, .bool true, .int .i64 n] 44 w
theorem UC.c0 {U : Nat} {c : Bool} {n : Int} {w : World} (h : UC U c n w) : w.cell? ⟨U, 0, none⟩ = some (.bool c) := Blk.cell h 0
theorem UC.c1 {U : Nat} {c : Bool} {n : Int} {w : World} (h : UC U c n w) : w.cell? ⟨U, 1, none⟩ = some (.bool true) := Blk.cell h 1
theorem UC.c2 {U : Nat} {c : Bool} {n : Int} {w : World} (h : UC U c n w) : w.cell? ⟨U, 2, none⟩ = some (.int .i64 n) := Blk.cell h 2
theorem UC.set0 {U : Nat} {c : Bool} {n : Int} {w : World} (h : UC U c n w) (d : Bool) : UC U d n (w.setCell ⟨U, 0, none⟩ (.bool d)) := Blk.set h 0 _
theorem UC.set2 {U : Nat} {c : Bool} {n : Int} {w : World} (h : UC U c n w) (m : Int) : UC U c m (w.setCell ⟨U, 2, none⟩ (.int .i64 m)) := Blk.set h 2 _

set_option maxHeartbeats 400000 in
theorem unitNew (w : World) : Calls Tryz.prog 5 #[] w fun e w' => e = .returned (.pointer (some ⟨w.heap.size, 0, none⟩)) ∧ UC w.heap.size false 0 w' ∧ Grown w w' := by
  go_enter Tryz.func5, Tryz.ntmps5
  go_wp2
  go_ret
  exact ⟨rfl, heap_alloc_new w _, (Grown.refl _).alloc _ _⟩

set_option maxHeartbeats 400000 in
theorem unitCut (U : Nat) (c : Bool) (n : Int) (w : World) (h : UC U c n w) : Calls Tryz.prog 15 #[.pointer (some ⟨U, 0, none⟩)] w fun e w' => e = .returned (.bool c) ∧ w' = w := by
  have h0 := h.c0
  go_enter Tryz.func15, Tryz.ntmps15
  go_wp2
  go_ret
  exact ⟨rfl, rfl⟩

set_option maxHeartbeats 400000 in
theorem unitSet (U : Nat) (c d : Bool) (n : Int) (w : World) (h : UC U c n w) : Calls Tryz.prog 94 #[.pointer (some ⟨U, 0, none⟩), .bool d] w fun e w' => e = .returned (.tuple #[]) ∧ UC U (c || d) n w' ∧ Mod U w w' := by
  have h0 := h.c0
  have hf := h.free 0
  have H := hide h
  clear h
  cases d
  · go_enter Tryz.func94, Tryz.ntmps94
    go_wp2
    exact bodyPost_end (v := .tuple #[]) (by simp [results, Tryz.results94, go_sem]) rfl ⟨rfl, by rw [Bool.or_false]; exact unhide H, Mod.refl _ _⟩
  · go_enter Tryz.func94, Tryz.ntmps94
    go_wp2
    exact bodyPost_end (v := .tuple #[]) (by simp [results, Tryz.results94, go_sem]) rfl ⟨rfl, by rw [Bool.or_true]; exact (unhide H).set0 _, (Mod.refl _ _).setCell _ _⟩

set_option maxHeartbeats 400000 in
theorem unitIs (U : Nat) (c : Bool) (n : Int) (w : World) (h : UC U c n w) : Calls Tryz.prog 70 #[.pointer (some ⟨U, 0, none⟩)] w fun e w' => e = .returned (.bool false) ∧ w' = w := by
  have h1 := h.c1
  clear h
  go_enter Tryz.func70, Tryz.ntmps70
  go_wp2
  go_ret
  exact ⟨rfl, rfl⟩

set_option maxHeartbeats 400000 in
theorem unitNote (U : Nat) (c d : Bool) (n x : Int) (hn : 0 ≤ n ∧ n < 4611686018427387904) (w : World) (h : UC U c n w) : Calls Tryz.prog 71 #[.pointer (some ⟨U, 0, none⟩), .int .i64 x, .bool d] w fun e w' => e = .returned (.int .i64 x) ∧ UC U (c || d) (n + 1) w' ∧ Mod U w w' := by
  have H := hide h
  clear h
  obtain ⟨n0, n1⟩ := hn
  go_enter Tryz.func71, Tryz.ntmps71
  go_wp2_with fail
  refine (unitIs U c n w (unhide H)).mono ?_
  rintro e w1 ⟨rfl, rfl⟩
  go_wp2_with fail
  refine (unitSet U c d n w1 (unhide H)).mono ?_
  rintro e w2 ⟨rfl, h2, m2⟩
  have k2 := h2.c2
  have f2 := h2.free 2
  have H2 := hide h2
  have M2 := hide m2
  clear h2 m2
  go_wp2
  go_ret
  exact ⟨rfl, (unhide H2).set2 _, (unhide M2).setCell _ _⟩

end Go.Proofs.YtopaakjildmjcaaGreat
