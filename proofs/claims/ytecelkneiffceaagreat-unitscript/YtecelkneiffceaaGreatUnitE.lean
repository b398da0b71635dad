/- Acts: the law's helper 'long', and 'act': a call of a unit. -/
import Derived.Test.YtecelkneiffceaaGreatUnitD
namespace Go.Proofs.YtecelkneiffceaaGreat
open Go.RowKit Go.Proofs.Wd
set_option linter.unusedVariables false
set_option linter.unusedSimpArgs false
set_option maxRecDepth 10000
attribute [local go_sem ↓] Go.wp_at_zero Go.wp_at_succ

/-- An act as it lies in memory, with the numbers of its two lists. -/
structure ActV where
  kind : Int
  a : Int
  b : Int
  lo : Option Addr
  ln : Nat
  lc : Nat
  ko : Option Addr
  kn : Nat
  kc : Nat
  is : Bool
  lz : Nat → Int
  kz : Nat → Int
def ActV.cells (x : ActV) : Array Value := #[.int .i64 x.kind, .int .i64 x.a, .int .i64 x.b, .slice x.lo x.ln x.lc, .slice x.ko x.kn x.kc, .bool x.is]
def ActV.nums (x : ActV) : Prop := I64 x.a ∧ I64 x.b ∧ (∀ i, i < x.ln → I64 (x.lz i)) ∧ (∀ i, i < x.kn → I64 (x.kz i))
def ActV.rows (x : ActV) (w : World) : Prop := Row w x.lo x.ln x.lz ∧ Row w x.ko x.kn x.kz
def ActV.off (x : ActV) (U : Nat) : Prop := Off U x.ln x.lo ∧ Off U x.kn x.ko
def ActV.short (x : ActV) : Prop := x.ln ≤ 20 ∧ x.kn ≤ 20

/-- A list of acts behind an address. -/
def Acts (w : World) (ao : Option Addr) (len : Nat) (X : Nat → ActV) : Prop :=
  len = 0 ∨ ∃ b o, ao = some ⟨b, o, none⟩ ∧ ∀ i, i < len → ∀ j, j < 6 → w.cell? ⟨b, o + i * 6 + j, none⟩ = (X i).cells[j]?
theorem Acts.at {w : World} {ao : Option Addr} {len : Nat} {X : Nat → ActV} (h : Acts w ao len X) {k : Nat} (hk : k < len) : ∃ b o, ao = some ⟨b, o, none⟩ ∧
    w.cell? ⟨b, o + k * 6, none⟩ = some (.int .i64 (X k).kind) ∧ w.cell? ⟨b, o + k * 6 + 1, none⟩ = some (.int .i64 (X k).a) ∧ w.cell? ⟨b, o + k * 6 + 2, none⟩ = some (.int .i64 (X k).b) ∧
    w.cell? ⟨b, o + k * 6 + 3, none⟩ = some (.slice (X k).lo (X k).ln (X k).lc) ∧ w.cell? ⟨b, o + k * 6 + 4, none⟩ = some (.slice (X k).ko (X k).kn (X k).kc) ∧ w.cell? ⟨b, o + k * 6 + 5, none⟩ = some (.bool (X k).is) := by
  rcases h with h | ⟨b, o, rfl, hc⟩
  · omega
  · exact ⟨b, o, rfl, hc k hk 0 (by omega), hc k hk 1 (by omega), hc k hk 2 (by omega), hc k hk 3 (by omega), hc k hk 4 (by omega), hc k hk 5 (by omega)⟩

def LongP (len : Nat) (X : Nat → ActV) (w : World) (e : Ending) (w' : World) : Prop := ∃ r, e = .returned (.bool r) ∧ w' = w ∧ (r = false → len ≤ 60 ∧ ∀ i, i < len → (X i).short)

set_option maxHeartbeats 1000000 in
theorem lawLong (ao : Option Addr) (len cap : Nat) (X : Nat → ActV) (hl : len ≤ 9223372036854775807) (hX : Hid (∀ i, i < len → (X i).ln ≤ 9223372036854775807 ∧ (X i).kn ≤ 9223372036854775807)) (w : World) (h : Acts w ao len X) :
    Calls Tryz.prog 6 #[.slice ao len cap] w fun e w' => LongP len X w e w' := by
  have H := hide h
  clear h
  go_enter Tryz.func6, Tryz.ntmps6
  go_wp2
  go_loop [3] (fun i => ∃ k : Nat, k ≤ len ∧ k ≤ 61 ∧ i = .int .i64 k ∧ Hid (∀ i, i < k → (X i).short)) (fun i => 61 - (intOf i).toNat)
  case atStart => exact ⟨0, Nat.zero_le _, by omega, rfl, fun i hi => absurd hi (Nat.not_lt_zero _)⟩
  case round =>
    obtain ⟨k, hk, hk2, rfl, HS⟩ := hrel
    by_cases hlt : k < len
    · by_cases h61 : k < 61
      · obtain ⟨b, o, rfl, c0, c1, c2, c3, c4, c5⟩ := (unhide H).at hlt
        have b1 := (unhide hX k hlt).1
        have b2 := (unhide hX k hlt).2
        by_cases s1 : 20 < (X k).ln
        · go_wp2
          go_ret
          exact (show LongP _ _ _ _ _ from Exists.intro true ⟨rfl, rfl, fun h => by cases h⟩)
        · by_cases s2 : 20 < (X k).kn
          · go_wp2
            go_ret
            exact (show LongP _ _ _ _ _ from Exists.intro true ⟨rfl, rfl, fun h => by cases h⟩)
          · have R : Hid (∀ i, i < k + 1 → (X i).short) := by
              intro i hi
              by_cases e : i = k
              · subst e; exact ⟨by omega, by omega⟩
              · exact unhide HS i (by omega)
            go_wp2
            go_round
            case rel => exact ⟨k + 1, by omega, by omega, by go_num, R⟩
            case measure => simp [intOf]; omega
      · go_wp2
        go_ret
        exact (show LongP _ _ _ _ _ from Exists.intro _ ⟨rfl, rfl, fun h => ⟨by simp at h; omega, fun i hi => unhide HS i (by simp at h; omega)⟩⟩)
    · obtain rfl : k = len := by omega
      go_wp2
      go_ret
      exact (show LongP _ _ _ _ _ from Exists.intro _ ⟨rfl, rfl, fun h => ⟨by simp at h; omega, unhide HS⟩⟩)

/-- What comes of an act: the number, the error, whether the flag is set behind it, how many operations were done. -/
def actR (x : ActV) (c : Bool) : Int × Int × Bool × Int :=
  if x.kind = 0 then (thN addN 0 x.lz x.ln, 0, c || thC addN addC 0 x.lz x.ln, x.ln)
  else if x.kind = 1 then (thN mulN 4294967296 x.lz x.ln, 0, c || thC mulN mulC 4294967296 x.lz x.ln, x.ln)
  else if x.kind = 2 then (subN x.a x.b, 0, c || subC x.a x.b, 1)
  else if x.kind = 3 then (divN x.a x.b, 0, c || divC x.a x.b, 1)
  else if x.kind = 4 then (halfN x.a x.b, 0, c || halfC x.a x.b, 1)
  else if x.kind = 5 then (sqN x.a, 0, c || decide (x.a < 0), 1)
  else if x.kind = 6 then (whoN x.a, 0, c || whoC x.a, 1)
  else if x.kind = 7 then (if x.ln = x.kn then (dotN x.lz x.kz x.ln, 0, c || dotC x.lz x.kz x.ln, 2 * (x.ln : Int)) else (0, 3, c, 0))
  else if x.kind = 8 then (0, 0, c || x.is, 0)
  else if x.kind = 9 then (0, 0, false, 0)
  else (0, 0, c, 0)

theorem actR_0 {a b : Int} {lo : Option Addr} {ln lc : Nat} {ko : Option Addr} {kn kc : Nat} {is : Bool} {lz kz : Nat → Int} {c : Bool} : actR ⟨0, a, b, lo, ln, lc, ko, kn, kc, is, lz, kz⟩ c = (thN addN 0 lz ln, 0, c || thC addN addC 0 lz ln, (ln : Int)) := by simp [actR]
theorem actR_1 {a b : Int} {lo : Option Addr} {ln lc : Nat} {ko : Option Addr} {kn kc : Nat} {is : Bool} {lz kz : Nat → Int} {c : Bool} : actR ⟨1, a, b, lo, ln, lc, ko, kn, kc, is, lz, kz⟩ c = (thN mulN 4294967296 lz ln, 0, c || thC mulN mulC 4294967296 lz ln, (ln : Int)) := by simp [actR]
theorem actR_2 {a b : Int} {lo : Option Addr} {ln lc : Nat} {ko : Option Addr} {kn kc : Nat} {is : Bool} {lz kz : Nat → Int} {c : Bool} : actR ⟨2, a, b, lo, ln, lc, ko, kn, kc, is, lz, kz⟩ c = (subN a b, 0, c || subC a b, 1) := by simp [actR]
theorem actR_3 {a b : Int} {lo : Option Addr} {ln lc : Nat} {ko : Option Addr} {kn kc : Nat} {is : Bool} {lz kz : Nat → Int} {c : Bool} : actR ⟨3, a, b, lo, ln, lc, ko, kn, kc, is, lz, kz⟩ c = (divN a b, 0, c || divC a b, 1) := by simp [actR]
theorem actR_4 {a b : Int} {lo : Option Addr} {ln lc : Nat} {ko : Option Addr} {kn kc : Nat} {is : Bool} {lz kz : Nat → Int} {c : Bool} : actR ⟨4, a, b, lo, ln, lc, ko, kn, kc, is, lz, kz⟩ c = (halfN a b, 0, c || halfC a b, 1) := by simp [actR]
theorem actR_5 {a b : Int} {lo : Option Addr} {ln lc : Nat} {ko : Option Addr} {kn kc : Nat} {is : Bool} {lz kz : Nat → Int} {c : Bool} : actR ⟨5, a, b, lo, ln, lc, ko, kn, kc, is, lz, kz⟩ c = (sqN a, 0, c || decide (a < 0), 1) := by simp [actR]
theorem actR_6 {a b : Int} {lo : Option Addr} {ln lc : Nat} {ko : Option Addr} {kn kc : Nat} {is : Bool} {lz kz : Nat → Int} {c : Bool} : actR ⟨6, a, b, lo, ln, lc, ko, kn, kc, is, lz, kz⟩ c = (whoN a, 0, c || whoC a, 1) := by simp [actR]
theorem actR_8 {a b : Int} {lo : Option Addr} {ln lc : Nat} {ko : Option Addr} {kn kc : Nat} {is : Bool} {lz kz : Nat → Int} {c : Bool} : actR ⟨8, a, b, lo, ln, lc, ko, kn, kc, is, lz, kz⟩ c = (0, 0, c || is, 0) := by simp [actR]
theorem actR_9 {a b : Int} {lo : Option Addr} {ln lc : Nat} {ko : Option Addr} {kn kc : Nat} {is : Bool} {lz kz : Nat → Int} {c : Bool} : actR ⟨9, a, b, lo, ln, lc, ko, kn, kc, is, lz, kz⟩ c = (0, 0, false, 0) := by simp [actR]
theorem actR_7 {a b : Int} {lo : Option Addr} {ln lc : Nat} {ko : Option Addr} {kn kc : Nat} {is : Bool} {lz kz : Nat → Int} {c : Bool} (e : ln = kn) : actR ⟨7, a, b, lo, ln, lc, ko, kn, kc, is, lz, kz⟩ c = (dotN lz kz ln, 0, c || dotC lz kz ln, 2 * (ln : Int)) := by simp [actR, e]
theorem actR_7n {a b : Int} {lo : Option Addr} {ln lc : Nat} {ko : Option Addr} {kn kc : Nat} {is : Bool} {lz kz : Nat → Int} {c : Bool} (e : ln ≠ kn) : actR ⟨7, a, b, lo, ln, lc, ko, kn, kc, is, lz, kz⟩ c = (0, 3, c, 0) := by simp [actR, e]
theorem actR_x {a b : Int} {lo : Option Addr} {ln lc : Nat} {ko : Option Addr} {kn kc : Nat} {is : Bool} {lz kz : Nat → Int} {c : Bool} {kind : Int} (h0 : kind ≠ 0) (h1 : kind ≠ 1) (h2 : kind ≠ 2) (h3 : kind ≠ 3) (h4 : kind ≠ 4) (h5 : kind ≠ 5) (h6 : kind ≠ 6) (h7 : kind ≠ 7) (h8 : kind ≠ 8) (h9 : kind ≠ 9) : actR ⟨kind, a, b, lo, ln, lc, ko, kn, kc, is, lz, kz⟩ c = (0, 0, c, 0) := by simp [actR, h0, h1, h2, h3, h4, h5, h6, h7, h8, h9]

set_option maxHeartbeats 4000000 in
theorem lawAct (x : ActV) (U : Nat) (c : Bool) (n : Int) (hn : 0 ≤ n ∧ n < 2305843009213693952) (hs : x.short) (hi : x.nums) (w : World) (hr : x.rows w) (ho : x.off U) (h : UC U c n w) :
    Calls Tryz.prog 9 #[.pointer (some ⟨U, 0, none⟩), .agg x.cells] w fun e w' => e = .returned (.tuple #[.int .i64 (actR x c).1, .int .i64 (actR x c).2.1]) ∧ UC U (actR x c).2.2.1 (n + (actR x c).2.2.2) w' ∧ Mod U w w' := by
  obtain ⟨kind, a, b, lo, ln, lc, ko, kn, kc, is, lz, kz⟩ := x
  have H := hide h
  have HI := hide hi
  have HR := hide hr
  have HO := hide ho
  have HN := hide hn
  obtain ⟨s1, s2⟩ := hs
  simp only at s1 s2
  clear h hi hr ho hn
  show Calls Tryz.prog 9 #[.pointer (some ⟨U, 0, none⟩), .agg #[.int .i64 kind, .int .i64 a, .int .i64 b, .slice lo ln lc, .slice ko kn kc, .bool is]] w _
  by_cases k0 : kind = 0
  · subst k0
    have E := hide (actR_0 (a := a) (b := b) (lo := lo) (ln := ln) (lc := lc) (ko := ko) (kn := kn) (kc := kc) (is := is) (lz := lz) (kz := kz) (c := c))
    rw [unhide E]
    clear E
    go_enter Tryz.func9, Tryz.ntmps9
    go_wp2_with fail
    refine (unitAdd U c n lo ln lc lz (unhide HN) (by omega) (unhide HI).2.2.1 _ (Blk.grown (unhide H) ((Grown.refl _).alloc _ _)) ((unhide HR).1.grown ((Grown.refl _).alloc _ _)) (unhide HO).1).mono ?_
    rintro e w1 ⟨rfl, h1, m1⟩
    have H1 := hide (And.intro h1 ((Mod.of ((Grown.refl _).alloc _ _)).trans m1))
    clear h1 m1
    go_wp2
    go_ret2
    exact ⟨rfl, unhide H1⟩
  by_cases k1 : kind = 1
  · subst k1
    have E := hide (actR_1 (a := a) (b := b) (lo := lo) (ln := ln) (lc := lc) (ko := ko) (kn := kn) (kc := kc) (is := is) (lz := lz) (kz := kz) (c := c))
    rw [unhide E]
    clear E
    go_enter Tryz.func9, Tryz.ntmps9
    go_wp2_with fail
    refine (unitMul U c n lo ln lc lz (unhide HN) (by omega) (unhide HI).2.2.1 _ (Blk.grown (unhide H) ((Grown.refl _).alloc _ _)) ((unhide HR).1.grown ((Grown.refl _).alloc _ _)) (unhide HO).1).mono ?_
    rintro e w1 ⟨rfl, h1, m1⟩
    have H1 := hide (And.intro h1 ((Mod.of ((Grown.refl _).alloc _ _)).trans m1))
    clear h1 m1
    go_wp2
    go_ret2
    exact ⟨rfl, unhide H1⟩
  by_cases k2 : kind = 2
  · subst k2
    have E := hide (actR_2 (a := a) (b := b) (lo := lo) (ln := ln) (lc := lc) (ko := ko) (kn := kn) (kc := kc) (is := is) (lz := lz) (kz := kz) (c := c))
    rw [unhide E]
    clear E
    go_enter Tryz.func9, Tryz.ntmps9
    go_wp2_with fail
    refine (unitSub U c n a b (unhide HI).1 (unhide HI).2.1 (unhide HN) _ (Blk.grown (unhide H) ((Grown.refl _).alloc _ _))).mono ?_
    rintro e w1 ⟨rfl, h1, m1⟩
    have H1 := hide (And.intro h1 ((Mod.of ((Grown.refl _).alloc _ _)).trans m1))
    clear h1 m1
    go_wp2
    go_ret2
    exact ⟨rfl, unhide H1⟩
  by_cases k3 : kind = 3
  · subst k3
    have E := hide (actR_3 (a := a) (b := b) (lo := lo) (ln := ln) (lc := lc) (ko := ko) (kn := kn) (kc := kc) (is := is) (lz := lz) (kz := kz) (c := c))
    rw [unhide E]
    clear E
    go_enter Tryz.func9, Tryz.ntmps9
    go_wp2_with fail
    refine (unitDiv U c n a b (unhide HI).1 (unhide HI).2.1 (unhide HN) _ (Blk.grown (unhide H) ((Grown.refl _).alloc _ _))).mono ?_
    rintro e w1 ⟨rfl, h1, m1⟩
    have H1 := hide (And.intro h1 ((Mod.of ((Grown.refl _).alloc _ _)).trans m1))
    clear h1 m1
    go_wp2
    go_ret2
    exact ⟨rfl, unhide H1⟩
  by_cases k4 : kind = 4
  · subst k4
    have E := hide (actR_4 (a := a) (b := b) (lo := lo) (ln := ln) (lc := lc) (ko := ko) (kn := kn) (kc := kc) (is := is) (lz := lz) (kz := kz) (c := c))
    rw [unhide E]
    clear E
    go_enter Tryz.func9, Tryz.ntmps9
    go_wp2_with fail
    refine (unitHalf U c n a b (unhide HI).1 (unhide HI).2.1 (unhide HN) _ (Blk.grown (unhide H) ((Grown.refl _).alloc _ _))).mono ?_
    rintro e w1 ⟨rfl, h1, m1⟩
    have H1 := hide (And.intro h1 ((Mod.of ((Grown.refl _).alloc _ _)).trans m1))
    clear h1 m1
    go_wp2
    go_ret2
    exact ⟨rfl, unhide H1⟩
  by_cases k5 : kind = 5
  · subst k5
    have E := hide (actR_5 (a := a) (b := b) (lo := lo) (ln := ln) (lc := lc) (ko := ko) (kn := kn) (kc := kc) (is := is) (lz := lz) (kz := kz) (c := c))
    rw [unhide E]
    clear E
    go_enter Tryz.func9, Tryz.ntmps9
    go_wp2_with fail
    refine (unitSqrt U c n a (unhide HI).1 (unhide HN) _ (Blk.grown (unhide H) ((Grown.refl _).alloc _ _))).mono ?_
    rintro e w1 ⟨rfl, h1, m1⟩
    have H1 := hide (And.intro h1 ((Mod.of ((Grown.refl _).alloc _ _)).trans m1))
    clear h1 m1
    go_wp2
    go_ret2
    exact ⟨rfl, unhide H1⟩
  by_cases k6 : kind = 6
  · subst k6
    have E := hide (actR_6 (a := a) (b := b) (lo := lo) (ln := ln) (lc := lc) (ko := ko) (kn := kn) (kc := kc) (is := is) (lz := lz) (kz := kz) (c := c))
    rw [unhide E]
    clear E
    go_enter Tryz.func9, Tryz.ntmps9
    go_wp2_with fail
    refine (unitWhole U c n a (unhide HI).1 (unhide HN) _ (Blk.grown (unhide H) ((Grown.refl _).alloc _ _))).mono ?_
    rintro e w1 ⟨rfl, h1, m1⟩
    have H1 := hide (And.intro h1 ((Mod.of ((Grown.refl _).alloc _ _)).trans m1))
    clear h1 m1
    go_wp2
    go_ret2
    exact ⟨rfl, unhide H1⟩
  by_cases k7 : kind = 7
  · subst k7
    by_cases e : ln = kn
    · have E := hide (actR_7 (a := a) (b := b) (lo := lo) (ln := ln) (lc := lc) (ko := ko) (kn := kn) (kc := kc) (is := is) (lz := lz) (kz := kz) (c := c) e)
      rw [unhide E]
      clear E
      subst e
      go_enter Tryz.func9, Tryz.ntmps9
      go_wp2_with fail
      refine (unitDot_ok U c n lo ko ln lc kc lz kz (unhide HN) (by omega) (unhide HI).2.2.1 (unhide HI).2.2.2 _ (Blk.grown (unhide H) ((Grown.refl _).alloc _ _)) ((unhide HR).1.grown ((Grown.refl _).alloc _ _)) (unhide HO).1 ((unhide HR).2.grown ((Grown.refl _).alloc _ _)) (unhide HO).2).mono ?_
      rintro e w1 ⟨rfl, h1, m1⟩
      have H1 := hide (And.intro h1 ((Mod.of ((Grown.refl _).alloc _ _)).trans m1))
      clear h1 m1
      go_wp2
      go_ret2
      exact ⟨rfl, unhide H1⟩
    · have E := hide (actR_7n (a := a) (b := b) (lo := lo) (ln := ln) (lc := lc) (ko := ko) (kn := kn) (kc := kc) (is := is) (lz := lz) (kz := kz) (c := c) e)
      rw [unhide E]
      clear E
      go_enter Tryz.func9, Tryz.ntmps9
      go_wp2_with fail
      refine (unitDot_size U c n lo ko ln lc kn kc e (by omega) (by omega) _ (Blk.grown (unhide H) ((Grown.refl _).alloc _ _))).mono ?_
      rintro e w1 ⟨rfl, e1⟩
      have H1 : Hid (UC U c (n + 0) w1 ∧ Mod U w w1) := by rw [e1, Int.add_zero]; exact ⟨(Blk.grown (unhide H) ((Grown.refl _).alloc _ _)), Mod.of ((Grown.refl _).alloc _ _)⟩
      clear e1
      go_wp2
      go_ret2
      exact ⟨rfl, unhide H1⟩
  by_cases k8 : kind = 8
  · subst k8
    have E := hide (actR_8 (a := a) (b := b) (lo := lo) (ln := ln) (lc := lc) (ko := ko) (kn := kn) (kc := kc) (is := is) (lz := lz) (kz := kz) (c := c))
    rw [unhide E]
    clear E
    go_enter Tryz.func9, Tryz.ntmps9
    go_wp2
    go_region_held3 (fun w' => w'.cell? ⟨w.heap.size, 5, none⟩ = some (.bool is)) (simp [go_sem, *])
      ((go_at_call 22; refine (unitSet U c is n _ (Blk.grown (unhide H) (by exact Grown.drew ((Grown.refl _).alloc _ _)))).mono ?_; rintro e w1 ⟨rfl, h1, m1⟩; have q1 : w1.cell? ⟨w.heap.size, 5, none⟩ = some (.bool is) := Mod.cell m1 (by simp [go_sem]) (Nat.ne_of_gt (Blk.lt (unhide H))); have H1 : Hid (UC U (c || is) (n + 0) w1 ∧ Mod U w w1) := ⟨(by rw [Int.add_zero]; exact h1), (Mod.of (Grown.drew ((Grown.refl _).alloc _ _))).trans m1⟩; clear h1 m1))
    go_wp2
    go_ret2
    exact ⟨rfl, unhide H1⟩
  by_cases k9 : kind = 9
  · subst k9
    have E := hide (actR_9 (a := a) (b := b) (lo := lo) (ln := ln) (lc := lc) (ko := ko) (kn := kn) (kc := kc) (is := is) (lz := lz) (kz := kz) (c := c))
    rw [unhide E]
    clear E
    go_enter Tryz.func9, Tryz.ntmps9
    go_wp2_with fail
    refine (unitClear U c n _ (Blk.grown (unhide H) ((Grown.refl _).alloc _ _))).mono ?_
    rintro e w1 ⟨rfl, h1, m1⟩
    have H1 : Hid (UC U false (n + 0) w1 ∧ Mod U w w1) := ⟨by rw [Int.add_zero]; exact h1, (Mod.of ((Grown.refl _).alloc _ _)).trans m1⟩
    clear h1 m1
    go_wp2
    go_ret2
    exact ⟨rfl, unhide H1⟩
  · have E := hide (actR_x (a := a) (b := b) (lo := lo) (ln := ln) (lc := lc) (ko := ko) (kn := kn) (kc := kc) (is := is) (lz := lz) (kz := kz) (c := c) k0 k1 k2 k3 k4 k5 k6 k7 k8 k9)
    rw [unhide E]
    clear E
    go_enter Tryz.func9, Tryz.ntmps9
    go_wp2
    go_ret2
    exact ⟨rfl, by rw [Int.add_zero]; exact (Blk.grown (unhide H) ((Grown.refl _).alloc _ _)), Mod.of ((Grown.refl _).alloc _ _)⟩

end Go.Proofs.YtecelkneiffceaaGreat
