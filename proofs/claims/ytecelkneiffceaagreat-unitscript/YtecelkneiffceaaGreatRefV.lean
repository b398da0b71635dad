/- What an act does of the document's unit. -/
import Derived.Test.YtecelkneiffceaaGreatRefU
namespace Go.Proofs.YtecelkneiffceaaGreat
open Go.RowKit Go.Proofs.Wd
set_option linter.unusedVariables false
set_option linter.unusedSimpArgs false
set_option maxRecDepth 10000
attribute [local go_sem ↓] Go.wp_at_zero Go.wp_at_succ

theorem wider {n : Int} (h : 0 ≤ n ∧ n < 2305843009213693952) : 0 ≤ n ∧ n < 4611686018427387904 := ⟨h.1, by omega⟩

set_option maxHeartbeats 4000000 in
theorem lawTold (x : ActV) (U : Nat) (c : Bool) (n : Int) (hn : 0 ≤ n ∧ n < 2305843009213693952) (hs : x.short) (hi : x.nums) (w : World) (hr : x.rows w) (ho : x.off U) (h : RC U c n w) :
    Calls Tryz.prog 10 #[.pointer (some ⟨U, 0, none⟩), .agg x.cells] w fun e w' => e = .returned (.tuple #[.int .i64 (actR x c).1, .int .i64 (actR x c).2.1]) ∧ RC U (actR x c).2.2.1 (n + (actR x c).2.2.2) w' ∧ Mod U w w' := by
  obtain ⟨kind, a, b, lo, ln, lc, ko, kn, kc, is, lz, kz⟩ := x
  have H := hide h
  have HI := hide hi
  have HR := hide hr
  have HO := hide ho
  have HN := hide hn
  obtain ⟨s1, s2⟩ := hs
  simp only at s1 s2
  clear h hi hr ho hn
  show Calls Tryz.prog 10 #[.pointer (some ⟨U, 0, none⟩), .agg #[.int .i64 kind, .int .i64 a, .int .i64 b, .slice lo ln lc, .slice ko kn kc, .bool is]] w _
  by_cases k0 : kind = 0
  · subst k0
    have E := hide (actR_0 (a := a) (b := b) (lo := lo) (ln := ln) (lc := lc) (ko := ko) (kn := kn) (kc := kc) (is := is) (lz := lz) (kz := kz) (c := c))
    rw [unhide E]
    clear E
    go_enter Tryz.func10, Tryz.ntmps10
    go_wp2_with fail
    refine (refUAdd U c n lo ln lc lz (unhide HN) (by omega) (unhide HI).2.2.1 _ (Blk.grown (unhide H) ((Grown.refl _).alloc _ _)) ((unhide HR).1.grown ((Grown.refl _).alloc _ _)) (unhide HO).1).mono ?_
    rintro e w1 ⟨rfl, h1, m1⟩
    have H1 := hide (And.intro h1 ((Mod.of ((Grown.refl _).alloc _ _)).trans m1))
    clear h1 m1
    go_wp2
    go_ret2
    exact ⟨rfl, unhide H1⟩
  by_cases k1 : kind = 1
  · subst k1
    have E := hide (actR_1 (a := a) (b := b) (lo := lo) (ln := ln) (lc := lc) (ko := ko) (kn := kn) (kc := kc) (is := is) (lz := lz) (kz := kz) (c := c))
    rw [unhide E]
    clear E
    go_enter Tryz.func10, Tryz.ntmps10
    go_wp2_with fail
    refine (refUMul U c n lo ln lc lz (unhide HN) (by omega) (unhide HI).2.2.1 _ (Blk.grown (unhide H) ((Grown.refl _).alloc _ _)) ((unhide HR).1.grown ((Grown.refl _).alloc _ _)) (unhide HO).1).mono ?_
    rintro e w1 ⟨rfl, h1, m1⟩
    have H1 := hide (And.intro h1 ((Mod.of ((Grown.refl _).alloc _ _)).trans m1))
    clear h1 m1
    go_wp2
    go_ret2
    exact ⟨rfl, unhide H1⟩
  by_cases k2 : kind = 2
  · subst k2
    have E := hide (actR_2 (a := a) (b := b) (lo := lo) (ln := ln) (lc := lc) (ko := ko) (kn := kn) (kc := kc) (is := is) (lz := lz) (kz := kz) (c := c))
    rw [unhide E]
    clear E
    go_enter Tryz.func10, Tryz.ntmps10
    go_wp2_with fail
    refine (refUSub U c n a b (unhide HI).1 (unhide HI).2.1 (wider (unhide HN)) _ (Blk.grown (unhide H) ((Grown.refl _).alloc _ _))).mono ?_
    rintro e w1 ⟨rfl, h1, m1⟩
    have H1 := hide (And.intro h1 ((Mod.of ((Grown.refl _).alloc _ _)).trans m1))
    clear h1 m1
    go_wp2
    go_ret2
    exact ⟨rfl, unhide H1⟩
  by_cases k3 : kind = 3
  · subst k3
    have E := hide (actR_3 (a := a) (b := b) (lo := lo) (ln := ln) (lc := lc) (ko := ko) (kn := kn) (kc := kc) (is := is) (lz := lz) (kz := kz) (c := c))
    rw [unhide E]
    clear E
    go_enter Tryz.func10, Tryz.ntmps10
    go_wp2_with fail
    refine (refUDiv U c n a b (unhide HI).1 (unhide HI).2.1 (wider (unhide HN)) _ (Blk.grown (unhide H) ((Grown.refl _).alloc _ _))).mono ?_
    rintro e w1 ⟨rfl, h1, m1⟩
    have H1 := hide (And.intro h1 ((Mod.of ((Grown.refl _).alloc _ _)).trans m1))
    clear h1 m1
    go_wp2
    go_ret2
    exact ⟨rfl, unhide H1⟩
  by_cases k4 : kind = 4
  · subst k4
    have E := hide (actR_4 (a := a) (b := b) (lo := lo) (ln := ln) (lc := lc) (ko := ko) (kn := kn) (kc := kc) (is := is) (lz := lz) (kz := kz) (c := c))
    rw [unhide E]
    clear E
    go_enter Tryz.func10, Tryz.ntmps10
    go_wp2_with fail
    refine (refUHalf U c n a b (unhide HI).1 (unhide HI).2.1 (wider (unhide HN)) _ (Blk.grown (unhide H) ((Grown.refl _).alloc _ _))).mono ?_
    rintro e w1 ⟨rfl, h1, m1⟩
    have H1 := hide (And.intro h1 ((Mod.of ((Grown.refl _).alloc _ _)).trans m1))
    clear h1 m1
    go_wp2
    go_ret2
    exact ⟨rfl, unhide H1⟩
  by_cases k5 : kind = 5
  · subst k5
    have E := hide (actR_5 (a := a) (b := b) (lo := lo) (ln := ln) (lc := lc) (ko := ko) (kn := kn) (kc := kc) (is := is) (lz := lz) (kz := kz) (c := c))
    rw [unhide E]
    clear E
    go_enter Tryz.func10, Tryz.ntmps10
    go_wp2_with fail
    refine (refUSqrt U c n a (unhide HI).1 (wider (unhide HN)) _ (Blk.grown (unhide H) ((Grown.refl _).alloc _ _))).mono ?_
    rintro e w1 ⟨rfl, h1, m1⟩
    have H1 := hide (And.intro h1 ((Mod.of ((Grown.refl _).alloc _ _)).trans m1))
    clear h1 m1
    go_wp2
    go_ret2
    exact ⟨rfl, unhide H1⟩
  by_cases k6 : kind = 6
  · subst k6
    have E := hide (actR_6 (a := a) (b := b) (lo := lo) (ln := ln) (lc := lc) (ko := ko) (kn := kn) (kc := kc) (is := is) (lz := lz) (kz := kz) (c := c))
    rw [unhide E]
    clear E
    go_enter Tryz.func10, Tryz.ntmps10
    go_wp2_with fail
    refine (refUWhole U c n a (unhide HI).1 (wider (unhide HN)) _ (Blk.grown (unhide H) ((Grown.refl _).alloc _ _))).mono ?_
    rintro e w1 ⟨rfl, h1, m1⟩
    have H1 := hide (And.intro h1 ((Mod.of ((Grown.refl _).alloc _ _)).trans m1))
    clear h1 m1
    go_wp2
    go_ret2
    exact ⟨rfl, unhide H1⟩
  by_cases k7 : kind = 7
  · subst k7
    by_cases e : ln = kn
    · have E := hide (actR_7 (a := a) (b := b) (lo := lo) (ln := ln) (lc := lc) (ko := ko) (kn := kn) (kc := kc) (is := is) (lz := lz) (kz := kz) (c := c) e)
      rw [unhide E]
      clear E
      subst e
      go_enter Tryz.func10, Tryz.ntmps10
      go_wp2_with fail
      refine (refUDot_ok U c n lo ko ln lc kc lz kz (unhide HN) (by omega) (unhide HI).2.2.1 (unhide HI).2.2.2 _ (Blk.grown (unhide H) ((Grown.refl _).alloc _ _)) ((unhide HR).1.grown ((Grown.refl _).alloc _ _)) (unhide HO).1 ((unhide HR).2.grown ((Grown.refl _).alloc _ _)) (unhide HO).2).mono ?_
      rintro e w1 ⟨rfl, h1, m1⟩
      have H1 := hide (And.intro h1 ((Mod.of ((Grown.refl _).alloc _ _)).trans m1))
      clear h1 m1
      go_wp2
      go_ret2
      exact ⟨rfl, unhide H1⟩
    · have E := hide (actR_7n (a := a) (b := b) (lo := lo) (ln := ln) (lc := lc) (ko := ko) (kn := kn) (kc := kc) (is := is) (lz := lz) (kz := kz) (c := c) e)
      rw [unhide E]
      clear E
      go_enter Tryz.func10, Tryz.ntmps10
      go_wp2_with fail
      refine (refUDot_size U lo ko ln lc kn kc e (by omega) (by omega) _).mono ?_
      rintro e w1 ⟨rfl, e1⟩
      have H1 : Hid (RC U c (n + 0) w1 ∧ Mod U w w1) := by rw [e1, Int.add_zero]; exact ⟨(Blk.grown (unhide H) ((Grown.refl _).alloc _ _)), Mod.of ((Grown.refl _).alloc _ _)⟩
      clear e1
      go_wp2
      go_ret2
      exact ⟨rfl, unhide H1⟩
  by_cases k8 : kind = 8
  · subst k8
    have E := hide (actR_8 (a := a) (b := b) (lo := lo) (ln := ln) (lc := lc) (ko := ko) (kn := kn) (kc := kc) (is := is) (lz := lz) (kz := kz) (c := c))
    rw [unhide E]
    clear E
    go_enter Tryz.func10, Tryz.ntmps10
    go_wp2_with fail
    refine (refUSet U c is n _ (Blk.grown (unhide H) ((Grown.refl _).alloc _ _))).mono ?_
    rintro e w1 ⟨rfl, h1, m1⟩
    have H1 : Hid (RC U (c || is) (n + 0) w1 ∧ Mod U w w1) := ⟨by rw [Int.add_zero]; exact h1, (Mod.of ((Grown.refl _).alloc _ _)).trans m1⟩
    clear h1 m1
    go_wp2
    go_ret2
    exact ⟨rfl, unhide H1⟩
  by_cases k9 : kind = 9
  · subst k9
    have E := hide (actR_9 (a := a) (b := b) (lo := lo) (ln := ln) (lc := lc) (ko := ko) (kn := kn) (kc := kc) (is := is) (lz := lz) (kz := kz) (c := c))
    rw [unhide E]
    clear E
    go_enter Tryz.func10, Tryz.ntmps10
    go_wp2_with fail
    refine (refUClear U c n _ (Blk.grown (unhide H) ((Grown.refl _).alloc _ _))).mono ?_
    rintro e w1 ⟨rfl, h1, m1⟩
    have H1 : Hid (RC U false (n + 0) w1 ∧ Mod U w w1) := ⟨by rw [Int.add_zero]; exact h1, (Mod.of ((Grown.refl _).alloc _ _)).trans m1⟩
    clear h1 m1
    go_wp2
    go_ret2
    exact ⟨rfl, unhide H1⟩
  · have E := hide (actR_x (a := a) (b := b) (lo := lo) (ln := ln) (lc := lc) (ko := ko) (kn := kn) (kc := kc) (is := is) (lz := lz) (kz := kz) (c := c) k0 k1 k2 k3 k4 k5 k6 k7 k8 k9)
    rw [unhide E]
    clear E
    go_enter Tryz.func10, Tryz.ntmps10
    go_wp2
    go_ret2
    exact ⟨rfl, by rw [Int.add_zero]; exact (Blk.grown (unhide H) ((Grown.refl _).alloc _ _)), Mod.of ((Grown.refl _).alloc _ _)⟩

end Go.Proofs.YtecelkneiffceaaGreat
