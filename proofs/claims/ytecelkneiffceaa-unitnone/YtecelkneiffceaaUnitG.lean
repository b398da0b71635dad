/- What an act does of a unit that is none, and the walk of UnitNone. -/
import Derived.Test.YtecelkneiffceaaUnitE
namespace Go.Proofs.Ytecelkneiffceaa
open Go.RowKit Go.Proofs.Wd
set_option linter.unusedVariables false
set_option linter.unusedSimpArgs false
attribute [local go_sem ↓] Go.wp_at_zero Go.wp_at_succ

/-- What comes of an act: ErrNil of a Dot. -/
def noneE (kind : Int) : Int := if kind = 7 then 1 else 0

set_option maxHeartbeats 4000000 in
theorem noneAct (x : ActV) (p : Option Addr) (hi : x.nums) (k8 : x.kind ≠ 8) (k9 : x.kind ≠ 9) (w : World) (h : NU p w) :
    Calls Try.prog 9 #[.pointer p, .agg x.cells] w fun e w' => e = .returned (.tuple #[.int .i64 0, .int .i64 (noneE x.kind)]) ∧ Grown w w' := by
  obtain ⟨kind, a, b, lo, ln, lc, ko, kn, kc, is, lz, kz⟩ := x
  have H := hide h
  have HI := hide hi
  simp only at k8 k9
  clear h hi
  show Calls Try.prog 9 #[.pointer p, .agg #[.int .i64 kind, .int .i64 a, .int .i64 b, .slice lo ln lc, .slice ko kn kc, .bool is]] w fun e w' => e = .returned (.tuple #[.int .i64 0, .int .i64 (noneE kind)]) ∧ Grown w w'
  by_cases k0 : kind = 0
  · subst k0
    clear k8 k9
    rw [show noneE 0 = 0 by decide]
    go_enter Try.func9, Try.ntmps9
    go_wp2_with fail
    refine (noneAdd p lo ln lc _ ((unhide H).grown ((Grown.refl _).alloc _ _))).mono ?_
    rintro e w1 ⟨rfl, h1⟩
    have H1 : Hid (Grown w w1) := by rw [h1]; exact (Grown.refl _).alloc _ _
    clear h1
    go_wp2
    go_ret2
    exact ⟨rfl, unhide H1⟩
  by_cases k1 : kind = 1
  · subst k1
    clear k8 k9
    rw [show noneE 1 = 0 by decide]
    go_enter Try.func9, Try.ntmps9
    go_wp2_with fail
    refine (noneMul p lo ln lc _ ((unhide H).grown ((Grown.refl _).alloc _ _))).mono ?_
    rintro e w1 ⟨rfl, h1⟩
    have H1 : Hid (Grown w w1) := by rw [h1]; exact (Grown.refl _).alloc _ _
    clear h1
    go_wp2
    go_ret2
    exact ⟨rfl, unhide H1⟩
  by_cases k2 : kind = 2
  · subst k2
    clear k8 k9
    rw [show noneE 2 = 0 by decide]
    go_enter Try.func9, Try.ntmps9
    go_wp2_with fail
    refine (noneSub p a b (unhide HI).1 (unhide HI).2.1 _ ((unhide H).grown ((Grown.refl _).alloc _ _))).mono ?_
    rintro e w1 ⟨rfl, h1⟩
    have H1 : Hid (Grown w w1) := gtrans ((Grown.refl _).alloc _ _) h1
    clear h1
    go_wp2
    go_ret2
    exact ⟨rfl, unhide H1⟩
  by_cases k3 : kind = 3
  · subst k3
    clear k8 k9
    rw [show noneE 3 = 0 by decide]
    go_enter Try.func9, Try.ntmps9
    go_wp2_with fail
    refine (noneDiv p a b (unhide HI).1 (unhide HI).2.1 _ ((unhide H).grown ((Grown.refl _).alloc _ _))).mono ?_
    rintro e w1 ⟨rfl, h1⟩
    have H1 : Hid (Grown w w1) := gtrans ((Grown.refl _).alloc _ _) h1
    clear h1
    go_wp2
    go_ret2
    exact ⟨rfl, unhide H1⟩
  by_cases k4 : kind = 4
  · subst k4
    clear k8 k9
    rw [show noneE 4 = 0 by decide]
    go_enter Try.func9, Try.ntmps9
    go_wp2_with fail
    refine (noneHalf p a b (unhide HI).1 (unhide HI).2.1 _ ((unhide H).grown ((Grown.refl _).alloc _ _))).mono ?_
    rintro e w1 ⟨rfl, h1⟩
    have H1 : Hid (Grown w w1) := gtrans ((Grown.refl _).alloc _ _) h1
    clear h1
    go_wp2
    go_ret2
    exact ⟨rfl, unhide H1⟩
  by_cases k5 : kind = 5
  · subst k5
    clear k8 k9
    rw [show noneE 5 = 0 by decide]
    go_enter Try.func9, Try.ntmps9
    go_wp2_with fail
    refine (noneSqrt p a (unhide HI).1 _ ((unhide H).grown ((Grown.refl _).alloc _ _))).mono ?_
    rintro e w1 ⟨rfl, h1⟩
    have H1 : Hid (Grown w w1) := gtrans ((Grown.refl _).alloc _ _) h1
    clear h1
    go_wp2
    go_ret2
    exact ⟨rfl, unhide H1⟩
  by_cases k6 : kind = 6
  · subst k6
    clear k8 k9
    rw [show noneE 6 = 0 by decide]
    go_enter Try.func9, Try.ntmps9
    go_wp2_with fail
    refine (noneWhole p a (unhide HI).1 _ ((unhide H).grown ((Grown.refl _).alloc _ _))).mono ?_
    rintro e w1 ⟨rfl, h1⟩
    have H1 : Hid (Grown w w1) := gtrans ((Grown.refl _).alloc _ _) h1
    clear h1
    go_wp2
    go_ret2
    exact ⟨rfl, unhide H1⟩
  by_cases k7 : kind = 7
  · subst k7
    clear k8 k9
    rw [show noneE 7 = 1 by decide]
    go_enter Try.func9, Try.ntmps9
    go_wp2_with fail
    refine (noneDot p lo ko ln lc kn kc _ ((unhide H).grown ((Grown.refl _).alloc _ _))).mono ?_
    rintro e w1 ⟨rfl, h1⟩
    have H1 : Hid (Grown w w1) := by rw [h1]; exact (Grown.refl _).alloc _ _
    clear h1
    go_wp2
    go_ret2
    exact ⟨rfl, unhide H1⟩
  · have e7 : noneE kind = 0 := by unfold noneE; rw [if_neg k7]
    rw [e7]
    clear e7
    go_enter Try.func9, Try.ntmps9
    go_wp2
    go_ret2
    exact ⟨rfl, (Grown.refl _).alloc _ _⟩

set_option maxHeartbeats 4000000 in
theorem unmadeAct (x : ActV) (U : Nat) (c : Bool) (hk : x.kind = 8 ∨ x.kind = 9) (w : World) (h : NB U c w) :
    Calls Try.prog 9 #[.pointer (some ⟨U, 0, none⟩), .agg x.cells] w fun e w' => e = .returned (.tuple #[.int .i64 0, .int .i64 0]) ∧ NU (some ⟨U, 0, none⟩) w' ∧ Mod U w w' := by
  obtain ⟨kind, a, b, lo, ln, lc, ko, kn, kc, is, lz, kz⟩ := x
  have H := hide h
  simp only at hk
  clear h
  show Calls Try.prog 9 #[.pointer (some ⟨U, 0, none⟩), .agg #[.int .i64 kind, .int .i64 a, .int .i64 b, .slice lo ln lc, .slice ko kn kc, .bool is]] w _
  rcases hk with rfl | rfl
  · go_enter Try.func9, Try.ntmps9
    go_wp2
    go_region_held3 (fun w' => w'.cell? ⟨w.heap.size, 5, none⟩ = some (.bool is)) (simp [go_sem, *])
      ((go_at_call 11; refine (noneSet U c is _ (Blk.grown (unhide H) (by exact Grown.drew ((Grown.refl _).alloc _ _)))).mono ?_; rintro e w1 ⟨rfl, h1, m1⟩; have q1 : w1.cell? ⟨w.heap.size, 5, none⟩ = some (.bool is) := Mod.cell m1 (by simp [go_sem]) (Nat.ne_of_gt (Blk.lt (unhide H))); have H1 : Hid (NU (some ⟨U, 0, none⟩) w1 ∧ Mod U w w1) := ⟨Or.inr ⟨U, _, rfl, h1⟩, (Mod.of (Grown.drew ((Grown.refl _).alloc _ _))).trans m1⟩; clear h1 m1))
    go_wp2
    go_ret2
    exact ⟨rfl, unhide H1⟩
  · go_enter Try.func9, Try.ntmps9
    go_wp2_with fail
    refine (noneClear U c _ (Blk.grown (unhide H) ((Grown.refl _).alloc _ _))).mono ?_
    rintro e w1 ⟨rfl, h1, m1⟩
    have H1 : Hid (NU (some ⟨U, 0, none⟩) w1 ∧ Mod U w w1) := ⟨Or.inr ⟨U, _, rfl, h1⟩, (Mod.of ((Grown.refl _).alloc _ _)).trans m1⟩
    clear h1 m1
    go_wp2
    go_ret2
    exact ⟨rfl, unhide H1⟩

end Go.Proofs.Ytecelkneiffceaa
