/- Package vec: refuse, two and its func, both, reckon. -/
import Derived.Test.YtmdclpjbpkfckaaVecRow
import Derived.Test.YtmdclpjbpkfckaaVecMath
import Derived.Test.YtmdclpjbpkfckaaUnitN
namespace Go.Proofs.Ytmdclpjbpkfckaa
open Go.RowKit Go.Proofs.Wd
set_option linter.unusedVariables false
set_option linter.unusedSimpArgs false

/-- A unit as a pointer; an operation of it as a method value. -/
def ptr (U : Nat) : Value := .pointer (some ⟨U, 0, none⟩)

set_option maxHeartbeats 1000000 in
theorem vecRefuse_ok (U : Nat) (c : Bool) (n : Int) (ao bo : Option Addr) (len c1 c2 : Nat) (hl : len ≤ 1000000) (hn : 0 ≤ n ∧ n < 2305843009213693952) (w : World) (h : UC U c n w) :
    Calls Try.prog 41 #[.pointer (some ⟨U, 0, none⟩), .slice ao len c1, .slice bo len c2] w fun e w' => e = .returned (.int .i64 0) ∧ UC U c n w' ∧ Mod U w w' := by
  have D := hide (unitDot_ok U c n none none 0 0 0 (fun _ => 0) (fun _ => 0) hn (by omega) (fun _ h => absurd h (Nat.not_lt_zero _)) (fun _ h => absurd h (Nat.not_lt_zero _)) w h (Or.inl rfl) (fun h => absurd h (Nat.lt_irrefl _)) (Or.inl rfl) (fun h => absurd h (Nat.lt_irrefl _)))
  clear h
  go_enter Try.func41, Try.ntmps41
  go_wp2_with fail
  refine (unhide D).mono ?_
  rintro e w1 ⟨rfl, h1, m1⟩
  have H1 : Hid (UC U c n w1 ∧ Mod U w w1) := by
    have h1' : UC U (c || false) (n + 2 * 0) w1 := h1
    rw [Bool.or_false, Int.mul_zero, Int.add_zero] at h1'
    exact ⟨h1', m1⟩
  clear h1 m1
  have e0 : dotN (fun _ => 0) (fun _ => 0) 0 = 0 := rfl
  rw [e0]
  go_wp2
  go_ret
  exact ⟨rfl, unhide H1⟩

set_option maxHeartbeats 1000000 in
theorem vecRefuse_size (U : Nat) (c : Bool) (n : Int) (ao bo : Option Addr) (l1 c1 l2 c2 : Nat) (hne : l1 ≠ l2) (hl : l1 ≤ 1000000) (hk : l2 ≤ 1000000) (hn : 0 ≤ n ∧ n < 2305843009213693952) (w : World) (h : UC U c n w) :
    Calls Try.prog 41 #[.pointer (some ⟨U, 0, none⟩), .slice ao l1 c1, .slice bo l2 c2] w fun e w' => e = .returned (.int .i64 3) ∧ UC U c n w' ∧ Mod U w w' := by
  have D := hide (unitDot_ok U c n none none 0 0 0 (fun _ => 0) (fun _ => 0) hn (by omega) (fun _ h => absurd h (Nat.not_lt_zero _)) (fun _ h => absurd h (Nat.not_lt_zero _)) w h (Or.inl rfl) (fun h => absurd h (Nat.lt_irrefl _)) (Or.inl rfl) (fun h => absurd h (Nat.lt_irrefl _)))
  have d : ((l1 : Int) == (l2 : Int)) = false := by simp; omega
  clear h
  go_enter Try.func41, Try.ntmps41
  go_wp2_with fail
  refine (unhide D).mono ?_
  rintro e w1 ⟨rfl, h1, m1⟩
  have H1 : Hid (UC U c n w1 ∧ Mod U w w1) := by
    have h1' : UC U (c || false) (n + 2 * 0) w1 := h1
    rw [Bool.or_false, Int.mul_zero, Int.add_zero] at h1'
    exact ⟨h1', m1⟩
  clear h1 m1
  have e0 : dotN (fun _ => 0) (fun _ => 0) 0 = 0 := rfl
  rw [e0]
  go_wp2
  go_ret
  exact ⟨rfl, unhide H1⟩

set_option maxHeartbeats 1000000 in
theorem vecRefuse_none (p : Option Addr) (ao bo : Option Addr) (l1 c1 l2 c2 : Nat) (w : World) (h : NU p w) :
    Calls Try.prog 41 #[.pointer p, .slice ao l1 c1, .slice bo l2 c2] w fun e w' => e = .returned (.int .i64 1) ∧ w' = w := by
  have D := hide (noneDot p none none 0 0 0 0 w h)
  clear h
  go_enter Try.func41, Try.ntmps41
  go_wp2_with fail
  refine (unhide D).mono ?_
  rintro e w1 ⟨rfl, rfl⟩
  go_wp2
  go_ret
  exact ⟨rfl, rfl⟩

set_option maxHeartbeats 1000000 in
theorem vecTwo (v : Value) (w : World) (hv : v.oneCell' = true) :
    Calls Try.prog 30 #[v] w fun e w' => e = .returned (.func (.func 45) #[] #[.pointer (some ⟨w.heap.size, 0, none⟩)]) ∧ w' = w.alloc (.cells #[v] 51) := by
  go_enter Try.func30, Try.ntmps30
  go_wp2
  go_ret
  exact ⟨rfl, rfl⟩


set_option maxHeartbeats 1000000 in
/-- The func that two hands on: the pair as a list of two, to an operation of the unit on a list. -/
theorem vecPair (U P : Nat) (F : Nat) (eF : ∀ args w, (callFunc F args).run Try.prog w = .ok (.enter F args) w) (f : Int → Int → Int) (g : Int → Int → Bool) (c : Bool) (n a b : Int) (ha : I64 a) (hb : I64 b) (hn : 0 ≤ n ∧ n < 2305843009213693952)
    (C : Hid (∀ ao cap w, UC U c n w → Row w ao 2 (pairZ a b) → Off U 2 ao → Calls Try.prog F #[.pointer (some ⟨U, 0, none⟩), .slice ao 2 cap] w fun e w' => e = .returned (.int .i64 (f a b)) ∧ UC U (c || g a b) (n + 2) w' ∧ Mod U w w'))
    (w : World) (h : UC U c n w) (hp : Blk P #[.func (.func F) #[.pointer (some ⟨U, 0, none⟩)] #[]] 51 w) :
    Calls Try.prog 45 #[.int .i64 a, .int .i64 b, .pointer (some ⟨P, 0, none⟩)] w fun e w' => e = .returned (.int .i64 (f a b)) ∧ UC U (c || g a b) (n + 2) w' ∧ Mod U w w' := by
  have h0 : w.cell? ⟨P, 0, none⟩ = some (.func (.func F) #[.pointer (some ⟨U, 0, none⟩)] #[]) := Blk.cell hp 0
  have hlt := Blk.lt h
  have G : Hid (Grown w (w.alloc (.cells #[.int .i64 a, .int .i64 b] 3))) := (Grown.refl _).alloc _ _
  have R : Hid (Row (w.alloc (.cells #[.int .i64 a, .int .i64 b] 3)) (some ⟨w.heap.size, 0, none⟩) 2 (pairZ a b)) := by
    refine Or.inr ⟨_, 0, rfl, fun i hi => ?_⟩
    rw [Nat.zero_add, Blk.cell (Blk.new w _ _)]
    match i, hi with
    | 0, _ => rfl
    | 1, _ => rfl
  have O : Hid (Off U 2 (some ⟨w.heap.size, 0, none⟩)) := off_blk (by omega)
  have H : Hid (UC U c n (w.alloc (.cells #[.int .i64 a, .int .i64 b] 3))) := Blk.grown h (unhide G)
  clear h hp hlt ha hb hn
  go_enter Try.func45, Try.ntmps45
  go_wp2_with fail
  refine (unhide C _ _ _ (unhide H) (unhide R) (unhide O)).mono ?_
  rintro e w1 ⟨rfl, h1, m1⟩
  have H1 : Hid (UC U (c || g a b) (n + 2) w1 ∧ Mod U w w1) := ⟨h1, (Mod.of (unhide G)).trans m1⟩
  clear h1 m1
  go_wp2
  go_ret
  exact ⟨rfl, unhide H1⟩

end Go.Proofs.Ytmdclpjbpkfckaa
