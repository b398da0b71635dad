/- The document's vec: Sum, Less, Scale, Dot, Most; lists that it gathers by append. -/
import Derived.Test.YtmdclpjbpkfckaaRefU
import Derived.Test.YtmdclpjbpkfckaaVecF
import Derived.Deep.RegionHeld3
import Derived.Deep.DrawnRows
import Derived.Deep.RegionLaw
namespace Go.Proofs.Ytmdclpjbpkfckaa
open Go.RowKit Go.Proofs.Wd
set_option linter.unusedVariables false
set_option linter.unusedSimpArgs false

/-- But for block U, what was there is as it was. -/
def Mk (U : Nat) (w w' : World) : Prop := w'.os = w.os ∧ w'.output = w.output ∧ (∀ k, k < w.heap.size → k ≠ U → w'.heap[k]? = w.heap[k]?) ∧ w.heap.size ≤ w'.heap.size
theorem Mk.of {U : Nat} {w w' : World} (m : Mod U w w') : Mk U w w' := ⟨m.1, m.2.1, m.2.2.1, m.2.2.2.2⟩
theorem Mk.refl (U : Nat) (w : World) : Mk U w w := ⟨rfl, rfl, fun _ _ _ => rfl, Nat.le_refl _⟩
theorem Mk.trans {U : Nat} {a b c : World} (h : Mk U a b) (k : Mk U b c) : Mk U a c :=
  ⟨k.1.trans h.1, k.2.1.trans h.2.1, fun i hi hu => (k.2.2.1 i (Nat.lt_of_lt_of_le hi h.2.2.2) hu).trans (h.2.2.1 i hi hu), Nat.le_trans h.2.2.2 k.2.2.2⟩
theorem Mk.grown {U : Nat} {a b c : World} (h : Mk U a b) (k : Grown b c) : Mk U a c := h.trans (Mk.of (Mod.of k))
theorem Mk.by {U : Nat} {a b c : World} {row : Option Nat} (h : Mk U a b) (m : b.grownBy c row) (hr : ∀ k, row = some k → a.heap.size ≤ k) : Mk U a c :=
  ⟨m.os.trans h.1, m.output.trans h.2.1, fun i hi hu => (m.block i (Nat.lt_of_lt_of_le hi h.2.2.2) (fun e => by have := hr i e.symm; omega)).trans (h.2.2.1 i hi hu), Nat.le_trans h.2.2.2 m.size⟩
theorem Kp.mk {W a b : World} {U : Nat} (h : Kp W a) (m : Mk U a b) (hU : W.heap.size ≤ U) : Kp W b :=
  ⟨m.1.trans h.1, m.2.1.trans h.2.1, fun i hi => (m.2.2.1 i (Nat.lt_of_lt_of_le hi h.2.2.2) (by omega)).trans (h.2.2.1 i hi), Nat.le_trans h.2.2.2 m.2.2.2⟩
theorem Blk.mk {U V : Nat} {cs : Array Value} {T : TypeId} {w w' : World} (h : Blk U cs T w) (m : Mk V w w') (hne : U ≠ V) : Blk U cs T w' := (m.2.2.1 U h.lt hne).trans h
theorem Mk.cell {U : Nat} {w w' : World} (m : Mk U w w') {b o : Nat} {v : Value} (h : w.cell? ⟨b, o, none⟩ = some v) (hb : b ≠ U) : w'.cell? ⟨b, o, none⟩ = some v :=
  (World.cell?_of_block (m.2.2.1 b (heap_gt h) hb)).trans h
theorem Row.mk {U : Nat} {w w' : World} {ao : Option Addr} {len : Nat} {Z : Nat → Int} (h : Row w ao len Z) (m : Mk U w w') (ho : Off U len ao) : Row w' ao len Z := by
  rcases h with h | ⟨b, o, rfl, hc⟩
  · exact Or.inl h
  · exact Or.inr ⟨b, o, rfl, fun i hi => m.cell (hc i hi) (ho (by omega) _ rfl)⟩
theorem owns_mod {U : Nat} {w w' : World} {base : Nat} {e : TypeId} {size : Nat} {v : Value} {n : Nat} {xs : List Value} (h : w.ownsRow base e size v n xs) (m : Mod U w w') (hU : U < base) : w'.ownsRow base e size v n xs := by
  refine ⟨h.1, ?_⟩
  rcases h.2 with h2 | ⟨g, cap, cur, rfl, hb, hg, r⟩
  · exact Or.inl h2
  · exact Or.inr ⟨g, cap, cur, rfl, hb, (m.2.2.1 g (Array.getElem?_eq_some_iff.1 hg).1 (by omega)).trans hg, r⟩

/-- A list that the document's functions tell. -/
def RP (R len : Nat) (Z : Nat → Int) (c : Bool) (n : Int) (w : World) (e : Ending) (w' : World) : Prop :=
  ∃ ao cap, e = .returned (.tuple #[.slice ao len cap, .int .i64 0]) ∧ Row w' ao len Z ∧ (∀ U, U < w.heap.size → Off U len ao) ∧ RC R c n w' ∧ Mk R w w'

def intL (n : Nat) (Z : Nat → Int) : List Value := (List.range n).map fun i => Value.int .i64 (Z i)
theorem intL_succ (n : Nat) (Z : Nat → Int) : intL n Z ++ [.int .i64 (Z n)] = intL (n + 1) Z := by
  unfold intL; rw [List.range_succ, List.map_append]; rfl
/-- append(out, x), as a step of a region that draws. -/
theorem step_append_one {ops : Array Oper} {o : Oper} {a : Act} {w : World} {K : Act → World → Prop} {Q : Exit → Act → World → Prop} {E : Prop} (hgd : o.guard = none) (s x : Operand) (ho : o.op = .call { callee := .builtin .append, args := #[s, x], argTypes := #[22, 22] })
    (base n : Nat) (v : Value) (Z : Nat → Int) (z : Int) (hz : Z n = z) (b : Nat) (hs : a.eval s = v) (hx : a.eval x = .slice (some ⟨b, 0, none⟩) 1 1) (hown : w.ownsRow base 3 1 v n (intL n Z)) (hc : w.cell? ⟨b, 0, none⟩ = some (.int .i64 z)) (hn : n ≤ 1000000) (hb : base ≤ w.heap.size)
    (h : ∀ v' w', Hid (w'.ownsRow base 3 1 v' (n + 1) (intL (n + 1) Z) ∧ w.grownBy w' v.ownBlock) → K (a.put o.dst v') w') : if Region.wanted o (yielded ops a.tmps) = true then Oper.wp Try.prog o a w K Q else E := by
  subst hz
  have hw : Region.wanted o (yielded ops a.tmps) = true := by simp [Region.wanted, hgd]
  rw [if_pos hw]
  obtain ⟨i0, hi, hz0, hz1, hz2⟩ := info_parts Try.infoInt
  obtain ⟨v', w', hrun, r1, r2, _⟩ := run_append_own (P := Try.prog) w base 22 o.type 3 i0 (.int .i64 0) 1 8 Try.underlying22 hi hz0 hz1 hz2 rfl (by decide) v n (intL n Z) hown ⟨b, 0, none⟩ 1 1 [.int .i64 (Z n)] rfl
    (fun j u hj => by
      match j, hj with
      | 0, hj => simp at hj; subst hj; rw [Go.WideShapes.add_plain]; exact hc) (one_cell _) (by unfold maxLen; omega) (by omega) hb
  rw [intL_succ] at r1
  unfold Oper.wp
  simp [execOp, ho, resolve, invoke, builtin, hs, hx, hrun, Result.andThen]
  exact h v' w' ⟨r1, r2⟩

end Go.Proofs.Ytmdclpjbpkfckaa
