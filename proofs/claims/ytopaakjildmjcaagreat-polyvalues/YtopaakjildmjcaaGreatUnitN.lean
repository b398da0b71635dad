/- What a unit that is none answers: 0, and ErrNil of Dot. -/
import Derived.Test.YtopaakjildmjcaaGreatUnitC
namespace Go.Proofs.YtopaakjildmjcaaGreat
open Go.RowKit Go.Proofs.Wd
set_option linter.unusedVariables false
set_option linter.unusedSimpArgs false
set_option maxRecDepth 10000

/-- A unit that is nil, or that nobody made. -/
def NB (U : Nat) (c : Bool) (w : World) : Prop := Blk U #[.bool c, .bool false, .int .i64 0] 44 w
def NU (p : Option Addr) (w : World) : Prop := p = none ∨ ∃ U c, p = some ⟨U, 0, none⟩ ∧ NB U c w
theorem NU.grown {p : Option Addr} {w w' : World} (h : NU p w) (g : Grown w w') : NU p w' := by
  rcases h with h | ⟨U, c, h, k⟩
  · exact Or.inl h
  · exact Or.inr ⟨U, c, h, Blk.grown k g⟩

set_option maxHeartbeats 400000 in
theorem noneIs (p : Option Addr) (w : World) (h : NU p w) : Calls Tryz.prog 70 #[.pointer p] w fun e w' => e = .returned (.bool true) ∧ w' = w := by
  rcases h with rfl | ⟨U, c, rfl, h⟩
  · go_enter Tryz.func70, Tryz.ntmps70
    go_wp2
    go_ret
    exact ⟨rfl, rfl⟩
  · have h1 : w.cell? ⟨U, 1, none⟩ = some (.bool false) := Blk.cell h 1
    clear h
    go_enter Tryz.func70, Tryz.ntmps70
    go_wp2
    go_ret
    exact ⟨rfl, rfl⟩

set_option maxHeartbeats 400000 in
theorem noneNote (p : Option Addr) (x : Int) (d : Bool) (w : World) (h : NU p w) : Calls Tryz.prog 71 #[.pointer p, .int .i64 x, .bool d] w fun e w' => e = .returned (.int .i64 0) ∧ w' = w := by
  have H := hide h
  clear h
  go_enter Tryz.func71, Tryz.ntmps71
  go_wp2_with fail
  refine (noneIs p w (unhide H)).mono ?_
  rintro e w1 ⟨rfl, rfl⟩
  go_wp2
  go_ret
  exact ⟨rfl, rfl⟩

set_option maxHeartbeats 400000 in
theorem noneThrough (p : Option Addr) (s : Int) (F : Nat) (ao : Option Addr) (len cap : Nat) (w : World) (h : NU p w) : Calls Tryz.prog 92 #[.pointer p, .int .i64 s, .func (.func F) #[] #[], .slice ao len cap] w fun e w' => e = .returned (.int .i64 0) ∧ w' = w := by
  have H := hide h
  clear h
  go_enter Tryz.func92, Tryz.ntmps92
  go_wp2_with fail
  refine (noneIs p w (unhide H)).mono ?_
  rintro e w1 ⟨rfl, rfl⟩
  go_wp2
  go_ret
  exact ⟨rfl, rfl⟩

set_option maxHeartbeats 400000 in
theorem noneDot (p : Option Addr) (ao bo : Option Addr) (l1 c1 l2 c2 : Nat) (w : World) (h : NU p w) : Calls Tryz.prog 42 #[.pointer p, .slice ao l1 c1, .slice bo l2 c2] w fun e w' => e = .returned (.tuple #[.int .i64 0, .int .i64 1]) ∧ w' = w := by
  have H := hide h
  clear h
  go_enter Tryz.func42, Tryz.ntmps42
  go_wp2_with fail
  refine (noneIs p w (unhide H)).mono ?_
  rintro e w1 ⟨rfl, rfl⟩
  go_wp2
  go_ret2
  exact ⟨rfl, rfl⟩

set_option maxHeartbeats 400000 in
theorem noneAdd (p : Option Addr) (ao : Option Addr) (len cap : Nat) (w : World) (h : NU p w) : Calls Tryz.prog 66 #[.pointer p, .slice ao len cap] w fun e w' => e = .returned (.int .i64 0) ∧ w' = w := by
  have H := hide h
  clear h
  go_enter Tryz.func66, Tryz.ntmps66
  go_wp2_with fail
  refine (noneThrough p 0 72 ao len cap w (unhide H)).mono ?_
  rintro e w1 ⟨rfl, rfl⟩
  go_wp2
  go_ret
  exact ⟨rfl, rfl⟩

set_option maxHeartbeats 400000 in
theorem noneMul (p : Option Addr) (ao : Option Addr) (len cap : Nat) (w : World) (h : NU p w) : Calls Tryz.prog 63 #[.pointer p, .slice ao len cap] w fun e w' => e = .returned (.int .i64 0) ∧ w' = w := by
  have H := hide h
  clear h
  go_enter Tryz.func63, Tryz.ntmps63
  go_wp2_with fail
  refine (noneThrough p 4294967296 73 ao len cap w (unhide H)).mono ?_
  rintro e w1 ⟨rfl, rfl⟩
  go_wp2
  go_ret
  exact ⟨rfl, rfl⟩

set_option maxHeartbeats 400000 in
theorem noneDiv (p : Option Addr) (a b : Int) (ha : I64 a) (hb : I64 b) (w : World) (h : NU p w) : Calls Tryz.prog 47 #[.pointer p, .int .i64 a, .int .i64 b] w fun e w' => e = .returned (.int .i64 0) ∧ Grown w w' := by
  have X : Hid (Calls Tryz.prog 81 #[.int .i64 a, .int .i64 b] w fun e w' => ∃ r d, e = .returned (.tuple #[.int .i64 r, .bool d]) ∧ Grown w w') := (fixDiv a b ha hb w).mono fun e w' k => ⟨_, _, k⟩
  have H := hide h
  clear h ha hb
  go_enter Tryz.func47, Tryz.ntmps47
  go_wp2_with fail
  refine (unhide X).mono ?_
  rintro e w1 ⟨r, d, rfl, h1⟩
  go_wp2_with fail
  refine (noneNote p _ _ w1 ((unhide H).grown h1)).mono ?_
  rintro e w2 ⟨rfl, rfl⟩
  go_wp2
  go_ret
  exact ⟨rfl, h1⟩

set_option maxHeartbeats 400000 in
theorem noneWhole (p : Option Addr) (a : Int) (ha : I64 a) (w : World) (h : NU p w) : Calls Tryz.prog 48 #[.pointer p, .int .i64 a] w fun e w' => e = .returned (.int .i64 0) ∧ Grown w w' := by
  have X : Hid (Calls Tryz.prog 82 #[.int .i64 a] w fun e w' => ∃ r d, e = .returned (.tuple #[.int .i64 r, .bool d]) ∧ Grown w w') := (fixWhole a ha w).mono fun e w' k => ⟨_, _, k⟩
  have H := hide h
  clear h ha
  go_enter Tryz.func48, Tryz.ntmps48
  go_wp2_with fail
  refine (unhide X).mono ?_
  rintro e w1 ⟨r, d, rfl, h1⟩
  go_wp2_with fail
  refine (noneNote p _ _ w1 ((unhide H).grown h1)).mono ?_
  rintro e w2 ⟨rfl, rfl⟩
  go_wp2
  go_ret
  exact ⟨rfl, h1⟩

set_option maxHeartbeats 400000 in
theorem noneSet (U : Nat) (c d : Bool) (w : World) (h : NB U c w) : Calls Tryz.prog 94 #[.pointer (some ⟨U, 0, none⟩), .bool d] w fun e w' => e = .returned (.tuple #[]) ∧ NB U (c || d) w' ∧ Mod U w w' := by
  have h0 : w.cell? ⟨U, 0, none⟩ = some (.bool c) := Blk.cell h 0
  have hf := Blk.free h 0
  have H := hide h
  clear h
  cases d
  · go_enter Tryz.func94, Tryz.ntmps94
    go_wp2
    exact bodyPost_end (v := .tuple #[]) (by simp [results, Tryz.results94, go_sem]) rfl ⟨rfl, by rw [Bool.or_false]; exact unhide H, Mod.refl _ _⟩
  · go_enter Tryz.func94, Tryz.ntmps94
    go_wp2
    exact bodyPost_end (v := .tuple #[]) (by simp [results, Tryz.results94, go_sem]) rfl ⟨rfl, by rw [Bool.or_true]; exact Blk.set (unhide H) 0 _, (Mod.refl _ _).setCell _ _⟩

set_option maxHeartbeats 400000 in
theorem nilSet (d : Bool) (w : World) : Calls Tryz.prog 94 #[.pointer none, .bool d] w fun e w' => e = .returned (.tuple #[]) ∧ w' = w := by
  go_enter Tryz.func94, Tryz.ntmps94
  go_wp2
  exact bodyPost_end (v := .tuple #[]) (by simp [results, Tryz.results94, go_sem]) rfl ⟨rfl, rfl⟩
set_option maxHeartbeats 400000 in
theorem nilCut (w : World) : Calls Tryz.prog 15 #[.pointer none] w fun e w' => e = .returned (.bool false) ∧ w' = w := by
  go_enter Tryz.func15, Tryz.ntmps15
  go_wp2
  go_ret
  exact ⟨rfl, rfl⟩

end Go.Proofs.YtopaakjildmjcaaGreat
