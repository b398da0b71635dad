/- Package vec: reckon, Sum, Less, Dot, of a unit that New made, and of none. -/
import Derived.Test.YtopaakjildmjcaaVecB
namespace Go.Proofs.Ytopaakjildmjcaa
open Go.RowKit Go.Proofs.Wd
set_option linter.unusedVariables false
set_option linter.unusedSimpArgs false
set_option maxRecDepth 10000

/-- A list that a call tells: new memory, and no error. -/
def VP (U len : Nat) (Z : Nat → Int) (c : Bool) (n : Int) (w : World) (e : Ending) (w' : World) : Prop :=
  ∃ L, w.heap.size ≤ L ∧ e = .returned (.tuple #[.slice (some ⟨L, 0, none⟩) len len, .int .i64 0]) ∧ Blk L (ints len Z) 3 w' ∧ UC U c n w' ∧ Mod U w w'
theorem VP.from {U len : Nat} {Z : Nat → Int} {c : Bool} {n : Int} {w w1 : World} {e : Ending} {w' : World} (h : VP U len Z c n w1 e w') (m : Mod U w w1) : VP U len Z c n w e w' := by
  obtain ⟨L, h1, h2, h3, h4, h5⟩ := h
  exact ⟨L, Nat.le_trans m.2.2.2.2 h1, h2, h3, h4, m.trans h5⟩

theorem addTwo (U : Nat) (a b : Int) (c : Bool) (n : Int) (ao : Option Addr) (cap : Nat) (w : World) (ha : I64 a) (hb : I64 b) (hn : 0 ≤ n ∧ n < 2305843009213693952) (h : UC U c n w) (hr : Row w ao 2 (pairZ a b)) (ho : Off U 2 ao) :
    Calls Try.prog 53 #[.pointer (some ⟨U, 0, none⟩), .slice ao 2 cap] w fun e w' => e = .returned (.int .i64 (s2N a b)) ∧ UC U (c || s2C a b) (n + 2) w' ∧ Mod U w w' := by
  have := unitAdd U c n ao 2 cap (pairZ a b) hn (by omega) (pairZ_I64 ha hb) w h hr ho
  rw [s2N_th, s2C_th] at this
  exact this
theorem mulTwo (U : Nat) (a b : Int) (c : Bool) (n : Int) (ao : Option Addr) (cap : Nat) (w : World) (ha : I64 a) (hb : I64 b) (hn : 0 ≤ n ∧ n < 2305843009213693952) (h : UC U c n w) (hr : Row w ao 2 (pairZ a b)) (ho : Off U 2 ao) :
    Calls Try.prog 50 #[.pointer (some ⟨U, 0, none⟩), .slice ao 2 cap] w fun e w' => e = .returned (.int .i64 (m2N a b)) ∧ UC U (c || m2C a b) (n + 2) w' ∧ Mod U w w' := by
  have := unitMul U c n ao 2 cap (pairZ a b) hn (by omega) (pairZ_I64 ha hb) w h hr ho
  rw [m2N_th, m2C_th] at this
  exact this

end Go.Proofs.Ytopaakjildmjcaa
