/- The laws' helper of. -/
import Derived.Test.YtopaakjildmjcaaMatM
import Derived.Test.YtopaakjildmjcaaAppA
namespace Go.Proofs.Ytopaakjildmjcaa
open Go.RowKit Go.Shelf Go.Proofs.Wd
set_option linter.unusedVariables false
set_option linter.unusedSimpArgs false
set_option maxRecDepth 10000

/-- A matrix that is gathered: its cells, the list so far. -/
def OfI (w : World) (r c : Int) (Z : Nat → Int) (k : Nat) (v : Value) (wr : World) : Prop :=
  wr.ownsRow (w.heap.size + 1 + 1) 3 1 v k (intL k Z) ∧ Blk w.heap.size #[.int .i64 0, .int .i64 0, .slice none 0 0] 26 wr ∧ Blk (w.heap.size + 1) #[.int .i64 r, .int .i64 c, v] 26 wr ∧ Kp w wr ∧ w.heap.size + 1 + 1 ≤ wr.heap.size
theorem OfI.app {w wr wa w4 : World} {r c : Int} {Z : Nat → Int} {k : Nat} {v v' : Value} (h : OfI w r c Z k v wr) (g : Grown wr wa) (ha : wa.ownsRow (w.heap.size + 1 + 1) 3 1 v k (intL k Z)) (hg : w4.ownsRow (w.heap.size + 1 + 1) 3 1 v' (k + 1) (intL (k + 1) Z) ∧ wa.grownBy w4 v.ownBlock) :
    Blk (w.heap.size + 1) #[.int .i64 r, .int .i64 c, v] 26 w4 ∧ OfI w r c Z (k + 1) v' (w4.setCell ⟨w.heap.size + 1, 2, none⟩ v') := by
  obtain ⟨h1, h2, h3, h4, h5⟩ := h
  have lt := ha.lt
  have far : ∀ j, j < w.heap.size + 1 + 1 → some j ≠ v.ownBlock := fun j hj e => by have := (lt _ e.symm).1; omega
  have b2 := Blk.by (Blk.grown h2 g) hg.2 (far _ (by omega))
  have b3 := Blk.by (Blk.grown h3 g) hg.2 (far _ (by omega))
  have q : Mod (w.heap.size + 1) w4 (w4.setCell ⟨w.heap.size + 1, 2, none⟩ v') := (Mod.refl _ _).setCell 2 _
  refine ⟨b3, owns_mod hg.1 q (by omega), Blk.keep b2 q (by omega), Blk.set b3 2 _, ((h4.grown g).by hg.2 (fun j e => by have := (lt j e).1; omega)).mod q (by omega), ?_⟩
  have := hg.2.size
  have := g.2.2
  have := q.2.2.2.2
  omega

end Go.Proofs.Ytopaakjildmjcaa
