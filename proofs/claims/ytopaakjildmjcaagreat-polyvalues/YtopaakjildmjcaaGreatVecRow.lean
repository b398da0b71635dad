/- A block of numbers that a call itself made: its cells as a function of the place; what is stored into it; how the world stays beside it. -/
import Derived.Test.YtopaakjildmjcaaGreatRowA
import Derived.Laws.CopyOwn
import Derived.Laws.MakeOwn
import Derived.Laws.OwnMore
namespace Go.Proofs.YtopaakjildmjcaaGreat
open Go.RowKit Go.Proofs.Wd
set_option linter.unusedVariables false
set_option linter.unusedSimpArgs false
set_option maxRecDepth 10000

/-- n numbers. -/
def ints (n : Nat) (Z : Nat → Int) : Array Value := ((List.range n).map fun i => Value.int .i64 (Z i)).toArray
theorem ints_size (n : Nat) (Z : Nat → Int) : (ints n Z).size = n := by simp [ints]
theorem ints_at (n : Nat) (Z : Nat → Int) (i : Nat) (h : i < n) : (ints n Z)[i]? = some (.int .i64 (Z i)) := by simp [ints, h]
theorem ints_none (n : Nat) (Z : Nat → Int) (i : Nat) (h : ¬ i < n) : (ints n Z)[i]? = none := by simp [ints]; omega
theorem ints_congr (n : Nat) (Z Y : Nat → Int) (h : ∀ i, i < n → Z i = Y i) : ints n Z = ints n Y := by
  apply Array.ext_getElem?
  intro i
  by_cases hi : i < n
  · rw [ints_at n Z i hi, ints_at n Y i hi, h i hi]
  · rw [ints_none n Z i hi, ints_none n Y i hi]
theorem ints_set (n : Nat) (Z : Nat → Int) (k : Nat) (v : Int) : (ints n Z).setIfInBounds k (.int .i64 v) = ints n (fun i => if i = k then v else Z i) := by
  apply Array.ext_getElem?
  intro i
  rw [Array.getElem?_setIfInBounds]
  by_cases hi : i < n
  · rw [ints_at n Z i hi, ints_at n _ i hi, ints_size]
    by_cases e : k = i
    · subst e; simp [hi]
    · simp [e, Ne.symm e]
  · rw [ints_none n Z i hi, ints_none n _ i hi, ints_size]
    by_cases e : k = i
    · subst e; simp [hi]
    · simp [e]
theorem Blk.row {b n : Nat} {Z : Nat → Int} {T : TypeId} {w : World} (h : Blk b (ints n Z) T w) : Row w (some ⟨b, 0, none⟩) n Z := by
  refine Or.inr ⟨b, 0, rfl, fun i hi => ?_⟩
  rw [Nat.zero_add, Blk.cell h, ints_at n Z i hi]
theorem Blk.setI {b n : Nat} {Z : Nat → Int} {T : TypeId} {w : World} (h : Blk b (ints n Z) T w) (k : Nat) (v : Int) : Blk b (ints n (fun i => if i = k then v else Z i)) T (w.setCell ⟨b, k, none⟩ (.int .i64 v)) := by
  have := Blk.set h k (.int .i64 v)
  rwa [ints_set] at this
theorem off_blk {U b n : Nat} (h : b ≠ U) : Off U n (some ⟨b, 0, none⟩) := by
  intro _ a ha
  cases ha
  exact h
/-- A store into a block that is new. -/
theorem Mod.setNew {U L : Nat} {a w : World} (h : Mod U a w) (hL : a.heap.size ≤ L) (o : Nat) (v : Value) : Mod U a (w.setCell ⟨L, o, none⟩ v) := by
  refine ⟨h.1, h.2.1, fun k hk hu => ?_, fun x => (World.frozen?_setCell _ _ _ _).trans (h.2.2.2.1 x), by have := h.2.2.2.2; simpa [World.setCell] using this⟩
  exact (Below.heap_setCell _ _ _ _ (by show k ≠ L; omega)).trans (h.2.2.1 k hk hu)
theorem Mod.new {U L : Nat} {a b c : World} (h : Mod U a b) (k : Mod L b c) (hL : a.heap.size ≤ L) : Mod U a c :=
  ⟨k.1.trans h.1, k.2.1.trans h.2.1, fun i hi hu => (k.2.2.1 i (Nat.lt_of_lt_of_le hi h.2.2.2.2) (by omega)).trans (h.2.2.1 i hi hu), fun x => (k.2.2.2.1 x).trans (h.2.2.2.1 x), Nat.le_trans h.2.2.2.2 k.2.2.2.2⟩
theorem Mod.setRow (g : Nat) (w : World) (cs : Array Value) : Mod g w (w.setRow g cs) := by
  refine ⟨rfl, rfl, fun k hk hu => setRow_other w g k cs hu, fun x => ?_, by simp [World.setRow]⟩
  by_cases e : x.block = g
  · unfold World.frozen? World.setRow
    rw [e]
    simp only [Array.getElem?_modify, if_pos rfl]
    cases w.heap[g]? with
    | none => rfl
    | some o => cases o <;> rfl
  · unfold World.frozen?
    rw [setRow_other w g x.block cs e]
theorem Blk.new (w : World) (cs : Array Value) (t : TypeId) : Blk w.heap.size cs t (w.alloc (.cells cs t)) := heap_alloc_new w _

theorem made_ints (n : Nat) : madeCells #[.int .i64 0] n = ints n (fun _ => 0) := by
  apply Array.ext_getElem?
  intro i
  by_cases h : i < n
  · rw [ints_at n _ i h]; simp [madeCells, h, Nat.mod_one]
  · rw [ints_none n _ i h]; simp [madeCells]; omega
/-- make([]int, n). -/
theorem make_ints (n : Nat) (hn : n ≤ 1000000) (w : World) : (Instr.makeSlice 22 (.int .i64 n) (.int .i64 n)).run Tryz.prog w = .ok (.slice (some ⟨w.heap.size, 0, none⟩) n n) (w.alloc (.cells (ints n (fun _ => 0)) 3)) := by
  obtain ⟨i0, hi, hz0, hz1, hz2⟩ := info_parts Tryz.infoInt
  have := run_make (P := Tryz.prog) w 22 3 i0 (.int .i64 0) Tryz.underlying22 hi hz0 .i64 .i64 n n (by omega) (Int.le_refl _) (by rw [hz2]; omega) (by omega)
  rw [hz1, Int.toNat_natCast, Nat.mul_one] at this
  rw [this, ← made_ints]
  rfl

end Go.Proofs.YtopaakjildmjcaaGreat
