/- The law's helper 'awake', and the walk of UnitKnown: the chapter's examples. -/
import Derived.Test.YtopaakjildmjcaaGreatUnitN
namespace Go.Proofs.YtopaakjildmjcaaGreat
open Go.RowKit Go.Proofs.Wd
set_option linter.unusedVariables false
set_option linter.unusedSimpArgs false
set_option maxRecDepth 10000

def ix (l : List Int) (i : Nat) : Int := l.getD i 0
theorem row_lit {w : World} {b : Nat} {l : List Int} {t : TypeId} (h : Blk b (l.map (Value.int .i64)).toArray t w) : Row w (some ⟨b, 0, none⟩) l.length (ix l) := by
  refine Or.inr ⟨b, 0, rfl, fun i hi => ?_⟩
  rw [Blk.cell h]
  simp [ix, hi]
theorem off_lit {U b len : Nat} (h : b ≠ U) : Off U len (some ⟨b, 0, none⟩) := by
  intro _ a ha
  cases ha
  exact h
theorem off_none (U len : Nat) : Off U len none := by
  intro _ a ha
  cases ha
theorem ix_I64 {l : List Int} (h : ∀ x ∈ l, I64 x) : ∀ i, i < l.length → I64 (ix l i) := by
  intro i hi
  simp only [ix, List.getD, List.getElem?_eq_getElem hi]
  exact h _ (List.getElem_mem _)

theorem unitAddL (l : List Int) (r : Int) (d : Bool) (hl : ∀ x ∈ l, I64 x) (h3 : l.length ≤ 1000000) (h1 : thN addN 0 (ix l) l.length = r) (h2 : thC addN addC 0 (ix l) l.length = d)
    (U : Nat) (c : Bool) (n : Int) (hn : 0 ≤ n ∧ n < 2305843009213693952) (b cap : Nat) (t : TypeId) (w : World) (h : UC U c n w) (hrow : Blk b (l.map (Value.int .i64)).toArray t w) (hb : b ≠ U) :
    Calls Tryz.prog 66 #[.pointer (some ⟨U, 0, none⟩), .slice (some ⟨b, 0, none⟩) l.length cap] w fun e w' => e = .returned (.int .i64 r) ∧ UC U (c || d) (n + l.length) w' ∧ Mod U w w' := by
  have := unitAdd U c n (some ⟨b, 0, none⟩) l.length cap (ix l) hn h3 (ix_I64 hl) w h (row_lit hrow) (off_lit hb)
  rw [h1, h2] at this
  exact this
theorem unitMulL (l : List Int) (r : Int) (d : Bool) (hl : ∀ x ∈ l, I64 x) (h3 : l.length ≤ 1000000) (h1 : thN mulN 4294967296 (ix l) l.length = r) (h2 : thC mulN mulC 4294967296 (ix l) l.length = d)
    (U : Nat) (c : Bool) (n : Int) (hn : 0 ≤ n ∧ n < 2305843009213693952) (b cap : Nat) (t : TypeId) (w : World) (h : UC U c n w) (hrow : Blk b (l.map (Value.int .i64)).toArray t w) (hb : b ≠ U) :
    Calls Tryz.prog 63 #[.pointer (some ⟨U, 0, none⟩), .slice (some ⟨b, 0, none⟩) l.length cap] w fun e w' => e = .returned (.int .i64 r) ∧ UC U (c || d) (n + l.length) w' ∧ Mod U w w' := by
  have := unitMul U c n (some ⟨b, 0, none⟩) l.length cap (ix l) hn h3 (ix_I64 hl) w h (row_lit hrow) (off_lit hb)
  rw [h1, h2] at this
  exact this
theorem unitDotL (l k : List Int) (r : Int) (d : Bool) (hl : ∀ x ∈ l, I64 x) (hk : ∀ x ∈ k, I64 x) (h3 : l.length ≤ 1000000) (h4 : k.length = l.length) (h1 : dotN (ix l) (ix k) l.length = r) (h2 : dotC (ix l) (ix k) l.length = d)
    (U : Nat) (c : Bool) (n : Int) (hn : 0 ≤ n ∧ n < 2305843009213693952) (b cap bb cap2 : Nat) (t t2 : TypeId) (w : World) (h : UC U c n w) (hrow : Blk b (l.map (Value.int .i64)).toArray t w) (hb : b ≠ U) (hrow2 : Blk bb (k.map (Value.int .i64)).toArray t2 w) (hb2 : bb ≠ U) :
    Calls Tryz.prog 42 #[.pointer (some ⟨U, 0, none⟩), .slice (some ⟨b, 0, none⟩) l.length cap, .slice (some ⟨bb, 0, none⟩) k.length cap2] w fun e w' => e = .returned (.tuple #[.int .i64 r, .int .i64 0]) ∧ UC U (c || d) (n + 2 * l.length) w' ∧ Mod U w w' := by
  have R2 : Row w (some ⟨bb, 0, none⟩) k.length (ix k) := row_lit hrow2
  have K2 : ∀ i, i < k.length → I64 (ix k i) := ix_I64 hk
  rw [h4] at R2 K2
  have := unitDot_ok U c n (some ⟨b, 0, none⟩) (some ⟨bb, 0, none⟩) l.length cap cap2 (ix l) (ix k) hn h3 (ix_I64 hl) K2 w h (row_lit hrow) (off_lit hb) R2 (off_lit hb2)
  rw [h1, h2] at this
  rw [h4]
  exact this

theorem blk_new2 (w : World) (A : Obj) (cs : Array Value) (t : TypeId) : Blk (w.heap.size + 1) cs t ((w.alloc A).alloc (.cells cs t)) := by
  have := heap_alloc_new (w.alloc A) (.cells cs t)
  simpa [Blk] using this

theorem i64_lits : (∀ x ∈ [4294967296, 4294967296, (4294967296 : Int)], I64 x) ∧ (∀ x ∈ [2147483648, (2147483648 : Int)], I64 x) ∧ (∀ x ∈ [4294967296, (8589934592 : Int)], I64 x) ∧ (∀ x ∈ [12884901888, (2147483648 : Int)], I64 x) ∧ (∀ x ∈ [9223372036854775807, 4294967296, (-4294967296 : Int)], I64 x) ∧ (∀ x ∈ [(1 : Int)], I64 x) := by
  refine ⟨?_, ?_, ?_, ?_, ?_, ?_⟩ <;> (intro x hx; simp at hx; unfold I64; omega)

end Go.Proofs.YtopaakjildmjcaaGreat
