/- MdlA MdlB MdlC MdlD MdlE MdlI MdlJ MdlM MdlN MdlO MdlP RegM3 MdlS MdlW, one after another. -/
import Derived.Test.YtpanfppnkgokdaaMdlDoc
import Derived.Test.YtpanfppnkgokdaaMdlBase
import Derived.BigQuiet
import Derived.Shelf.Abstract
import Derived.Test.YtpanfppnkgokdaaMdlKit
/- Package model: within, numbers, fixed. -/
namespace Go.Proofs.Ytpanfppnkgokdaa
open Go.RowKit Go.Shelf Go.Proofs.Wd
set_option linter.unusedVariables false
set_option linter.unusedSimpArgs false
set_option maxRecDepth 10000

def inP (lo hi x : Int) : Prop := lo ≤ x ∧ x ≤ hi
def inB (lo hi x : Int) : Bool := decide (lo ≤ x) && decide (x ≤ hi)
theorem inB_yes {lo hi x : Int} (h : inP lo hi x) : inB lo hi x = true := by unfold inB inP at *; simp; exact h
theorem inB_no {lo hi x : Int} (h : ¬ inP lo hi x) : inB lo hi x = false := by unfold inB inP at *; simp; omega
set_option maxHeartbeats 1000000 in
theorem mWithin (x lo hi : Int) (w : World) : Calls Try.prog 32 #[.int .i64 x, .int .i64 lo, .int .i64 hi] w fun e w' => e = .returned (.bool (inB lo hi x)) ∧ w' = w := by
  unfold inB
  by_cases h : lo ≤ x
  · rw [decide_eq_true h]
    have d : decide (lo ≤ x) = true := decide_eq_true h
    clear h
    go_enter Try.func32, Try.ntmps32
    go_wp2
    go_ret
    exact ⟨by simp, rfl⟩
  · rw [decide_eq_false h]
    have d : decide (lo ≤ x) = false := decide_eq_false h
    clear h
    go_enter Try.func32, Try.ntmps32
    go_wp2
    go_ret
    exact ⟨rfl, rfl⟩
set_option maxHeartbeats 1000000 in
theorem mNot (x lo hi : Int) (P Q : Nat) (w : World) (c0 : w.cell? ⟨P, 0, none⟩ = some (.int .i64 lo)) (c1 : w.cell? ⟨Q, 0, none⟩ = some (.int .i64 hi)) :
    Calls Try.prog 52 #[.int .i64 x, .pointer (some ⟨P, 0, none⟩), .pointer (some ⟨Q, 0, none⟩)] w fun e w' => e = .returned (.bool (!inB lo hi x)) ∧ w' = w := by
  have C := hide (fun w => mWithin x lo hi w)
  go_enter Try.func52, Try.ntmps52
  go_wp2_with fail
  refine (unhide C _).mono ?_
  rintro e w1 ⟨rfl, e1⟩
  subst e1
  clear C
  go_wp2
  go_ret
  exact ⟨rfl, rfl⟩
/-- What IndexFunc tells of numbers that are not all within. -/
def IxP (len : Nat) (lo hi : Int) (Z : Nat → Int) (w : World) (e : Ending) (w' : World) : Prop := ∃ r : Int, e = .returned (.int .i64 r) ∧ ((r = -1 ∧ ∀ i, i < len → inP lo hi (Z i)) ∨ (0 ≤ r ∧ ∃ i, i < len ∧ ¬ inP lo hi (Z i))) ∧ w' = w
set_option maxHeartbeats 2000000 in
theorem mIndex (ao : Option Addr) (len cap : Nat) (Z : Nat → Int) (lo hi : Int) (P Q : Nat) (hl : len ≤ 1000000) (w : World) (hr : Row w ao len Z) (c0 : w.cell? ⟨P, 0, none⟩ = some (.int .i64 lo)) (c1 : w.cell? ⟨Q, 0, none⟩ = some (.int .i64 hi)) :
    Calls Try.prog 54 #[.slice ao len cap, .func (.func 52) #[] #[.pointer (some ⟨P, 0, none⟩), .pointer (some ⟨Q, 0, none⟩)]] w fun e w' => IxP len lo hi Z w e w' := by
  have HR := hide hr
  have HC := hide (And.intro c0 c1)
  clear hr c0 c1
  go_enter Try.func54, Try.ntmps54
  go_wp2_with fail
  go_loop [8, 5] (fun i _ => ∃ k : Nat, k ≤ len ∧ i = .int .i64 k ∧ Hid (∀ j, j < k → inP lo hi (Z j))) (fun i _ => len - (intOf i).toNat)
  case atStart => exact ⟨0, Nat.zero_le _, rfl, fun j hj => absurd hj (Nat.not_lt_zero _)⟩
  case round =>
    obtain ⟨k, hk, rfl, HI⟩ := hrel
    by_cases hlt : k < len
    · obtain ⟨b, o, rfl, hc⟩ := (unhide HR).at hlt
      have i0 : (0 : Int) ≤ (k : Int) := Int.natCast_nonneg _
      have i1 : (k : Int) < (len : Int) := Int.ofNat_lt.2 hlt
      obtain ⟨x, hx⟩ : ∃ x, Z k = x := ⟨_, rfl⟩
      rw [hx] at hc
      have HX := hide hx
      have C := hide (fun w c0 c1 => mNot x lo hi P Q w c0 c1)
      clear hx
      by_cases h : inP lo hi x
      · rw [inB_yes h] at C
        have H2 : Hid (∀ j, j < k + 1 → inP lo hi (Z j)) := fun j hj => by
          by_cases e : j = k
          · subst e; rw [unhide HX]; exact h
          · exact unhide HI j (by omega)
        clear h HI
        go_wp2_with fail
        refine (unhide C _ (unhide HC).1 (unhide HC).2).mono ?_
        rintro e w1 ⟨rfl, e1⟩
        subst e1
        clear C
        go_wp2
        go_round
        case rel => exact ⟨k + 1, hlt, by go_num, H2⟩
        case measure => simp [intOf]; omega
      · rw [inB_no h] at C
        have H2 : Hid (∃ i, i < len ∧ ¬ inP lo hi (Z i)) := ⟨k, hlt, by rw [unhide HX]; exact h⟩
        clear h HI
        go_wp2_with fail
        refine (unhide C _ (unhide HC).1 (unhide HC).2).mono ?_
        rintro e w1 ⟨rfl, e1⟩
        subst e1
        clear C
        go_wp2
        go_ret
        exact (show IxP _ _ _ _ _ _ _ from ⟨_, rfl, Or.inr ⟨i0, unhide H2⟩, rfl⟩)
    · obtain rfl : k = len := by omega
      go_wp2
      go_ret
      exact (show IxP _ _ _ _ _ _ _ from ⟨_, rfl, Or.inl ⟨rfl, unhide HI⟩, rfl⟩)
open Classical in
noncomputable def someB (len : Nat) (lo hi : Int) (Z : Nat → Int) : Bool := decide (∃ i, i < len ∧ ¬ inP lo hi (Z i))
theorem someB_no {len : Nat} {lo hi : Int} {Z : Nat → Int} (h : ∀ i, i < len → inP lo hi (Z i)) : someB len lo hi Z = false := by classical exact decide_eq_false (fun ⟨i, hi, h2⟩ => h2 (h i hi))
theorem someB_yes {len : Nat} {lo hi : Int} {Z : Nat → Int} (h : ∃ i, i < len ∧ ¬ inP lo hi (Z i)) : someB len lo hi Z = true := by classical exact decide_eq_true h
set_option maxHeartbeats 1000000 in
theorem mContains (ao : Option Addr) (len cap : Nat) (Z : Nat → Int) (lo hi : Int) (P Q : Nat) (hl : len ≤ 1000000) (w : World) (hr : Row w ao len Z) (c0 : w.cell? ⟨P, 0, none⟩ = some (.int .i64 lo)) (c1 : w.cell? ⟨Q, 0, none⟩ = some (.int .i64 hi)) :
    Calls Try.prog 51 #[.slice ao len cap, .func (.func 52) #[] #[.pointer (some ⟨P, 0, none⟩), .pointer (some ⟨Q, 0, none⟩)]] w fun e w' => e = .returned (.bool (someB len lo hi Z)) ∧ w' = w := by
  have C := hide (mIndex ao len cap Z lo hi P Q hl w hr c0 c1)
  clear hr c0 c1
  go_enter Try.func51, Try.ntmps51
  go_wp2_with fail
  refine (unhide C).mono ?_
  rintro e w1 ⟨r, rfl, hr, e1⟩
  subst e1
  clear C
  rcases hr with ⟨rfl, h⟩ | ⟨h0, h⟩
  · have H := hide (someB_no h)
    clear h
    go_wp2
    go_ret
    exact ⟨by rw [unhide H]; rfl, rfl⟩
  · have H := hide (someB_yes h)
    have d : decide (0 ≤ r) = true := decide_eq_true h0
    clear h
    go_wp2
    go_ret
    exact ⟨by rw [unhide H]; rfl, rfl⟩
/-- Whether there are n numbers, all within. -/
def numP (len : Nat) (n lo hi : Int) (Z : Nat → Int) : Prop := (len : Int) = n ∧ ∀ i, i < len → inP lo hi (Z i)
open Classical in
noncomputable def numB (len : Nat) (n lo hi : Int) (Z : Nat → Int) : Bool := decide (numP len n lo hi Z)
theorem numB_yes {len : Nat} {n lo hi : Int} {Z : Nat → Int} (h : numP len n lo hi Z) : numB len n lo hi Z = true := by classical exact decide_eq_true h
theorem numB_no {len : Nat} {n lo hi : Int} {Z : Nat → Int} (h : ¬ numP len n lo hi Z) : numB len n lo hi Z = false := by classical exact decide_eq_false h
theorem numB_some {len : Nat} {lo hi : Int} {Z : Nat → Int} : numB len (len : Int) lo hi Z = !someB len lo hi Z := by
  by_cases h : ∃ i, i < len ∧ ¬ inP lo hi (Z i)
  · rw [someB_yes h, numB_no]
    · rfl
    · rintro ⟨_, h2⟩
      obtain ⟨i, hi, h3⟩ := h
      exact h3 (h2 i hi)
  · have h2 : ∀ i, i < len → inP lo hi (Z i) := fun i hi => Classical.byContradiction fun h3 => h ⟨i, hi, h3⟩
    rw [someB_no h2, numB_yes ⟨rfl, h2⟩]
    rfl
set_option maxHeartbeats 1000000 in
theorem mNumbers (ao : Option Addr) (len cap : Nat) (Z : Nat → Int) (n lo hi : Int) (hl : len ≤ 1000000) (w : World) (hr : Row w ao len Z) :
    Calls Try.prog 34 #[.slice ao len cap, .int .i64 n, .int .i64 lo, .int .i64 hi] w fun e w' => e = .returned (.bool (numB len n lo hi Z)) ∧ Grown w w' := by
  have G1 : Hid (Grown w ((w.alloc (.cells #[.int .i64 lo] 3)).alloc (.cells #[.int .i64 hi] 3))) := ((Grown.refl _).alloc _ _).alloc _ _
  have c0 : ((w.alloc (.cells #[.int .i64 lo] 3)).alloc (.cells #[.int .i64 hi] 3)).cell? ⟨w.heap.size, 0, none⟩ = some (.int .i64 lo) := Blk.cell (Blk.grown (Blk.new w #[.int .i64 lo] 3) ((Grown.refl _).alloc _ _)) 0
  have c1 : ((w.alloc (.cells #[.int .i64 lo] 3)).alloc (.cells #[.int .i64 hi] 3)).cell? ⟨w.heap.size + 1, 0, none⟩ = some (.int .i64 hi) := by
    have h := Blk.cell (Blk.new (w.alloc (.cells #[.int .i64 lo] 3)) #[.int .i64 hi] 3) 0
    rwa [show (w.alloc (.cells #[.int .i64 lo] 3)).heap.size = w.heap.size + 1 by simp] at h
  have C := hide (mContains ao len cap Z lo hi w.heap.size (w.heap.size + 1) hl _ (hr.grown (unhide G1)) c0 c1)
  clear c0 c1 hr
  by_cases h : (len : Int) = n
  · subst h
    have d : ((len : Int) == (len : Int)) = true := by simp
    rw [numB_some]
    go_enter Try.func34, Try.ntmps34
    go_wp2_with fail
    refine (unhide C).mono ?_
    rintro e w1 ⟨rfl, e1⟩
    subst e1
    clear C
    go_wp2
    go_ret
    exact ⟨rfl, unhide G1⟩
  · have d : ((len : Int) == n) = false := by simpa using h
    rw [numB_no (fun h2 => h h2.1)]
    clear C h
    go_enter Try.func34, Try.ntmps34
    go_wp2
    go_ret
    exact ⟨rfl, unhide G1⟩
set_option maxHeartbeats 1000000 in
theorem mFixed (ao : Option Addr) (len cap : Nat) (Z : Nat → Int) (hl : len ≤ 1000000) (w : World) (hr : Row w ao len Z) :
    Calls Try.prog 47 #[.slice ao len cap] w fun e w' => e = .returned (.bool (numB len len (-9223372036854775807) 9223372036854775807 Z)) ∧ Grown w w' := by
  have C := hide (mNumbers ao len cap Z len (-9223372036854775807) 9223372036854775807 hl w hr)
  clear hr
  go_enter Try.func47, Try.ntmps47
  go_wp2_with fail
  refine (unhide C).mono ?_
  rintro e w1 ⟨rfl, g1⟩
  have G := hide g1
  clear C g1
  go_wp2
  go_ret
  exact ⟨rfl, unhide G⟩

end Go.Proofs.Ytpanfppnkgokdaa

/- Package model: upper, covariance. -/
namespace Go.Proofs.Ytpanfppnkgokdaa
open Go.RowKit Go.Shelf Go.Proofs.Wd
set_option linter.unusedVariables false
set_option linter.unusedSimpArgs false
set_option maxRecDepth 10000

theorem tdiv_nat (k n q : Nat) (h : k / n = q) : (k : Int).tdiv (n : Int) = (q : Int) := by
  rw [Int.tdiv_eq_ediv_of_nonneg (Int.natCast_nonneg _), ← h]
  exact (Int.natCast_ediv _ _).symm
theorem tmod_nat (k n r : Nat) (h : k % n = r) : (k : Int).tmod (n : Int) = (r : Int) := by
  rw [Int.tmod_eq_emod_of_nonneg (Int.natCast_nonneg _), ← h]
  exact (Int.natCast_emod _ _).symm
theorem wrapN (q : Nat) (h : q ≤ 1000000) : wrap64 (q : Int) = (q : Int) := by unfold wrap64; omega
theorem wrapNk (q : Nat) (h : q ≤ 1000000) : IntKind.i64.wrap (q : Int) = (q : Int) := by rw [IntKind.wrap_i64]; omega
/-- Only numbers whose column is greater than their row stand for something. -/
def upP (n len : Nat) (A : Nat → Int) : Prop := ∀ k, k < len → A k ≠ 0 → k / n < k % n
open Classical in
noncomputable def upB (n len : Nat) (A : Nat → Int) : Bool := decide (upP n len A)
theorem upB_yes {n len : Nat} {A : Nat → Int} (h : upP n len A) : upB n len A = true := by classical exact decide_eq_true h
theorem upB_no {n len : Nat} {A : Nat → Int} (h : ¬ upP n len A) : upB n len A = false := by classical exact decide_eq_false h
set_option maxHeartbeats 2000000 in
theorem mUpper (ao : Option Addr) (len cap : Nat) (A : Nat → Int) (n : Nat) (hn : 1 ≤ n) (hl : len ≤ 1000000) (w : World) (hr : Row w ao len A) :
    Calls Try.prog 35 #[.slice ao len cap, .int .i64 n] w fun e w' => e = .returned (.bool (upB n len A)) ∧ Grown w w' := by
  have HR := hide hr
  have n0 : ((n : Int) == 0) = false := by simp; omega
  have n1 : (n : Int) ≠ 0 := by omega
  have HN := hide hn
  clear hr hn
  go_enter Try.func35, Try.ntmps35
  go_wp2_with fail
  go_loopw [9, 5, 6] (fun i _ _ wr => ∃ k : Nat, k ≤ len ∧ i = .int .i64 k ∧ Hid ((∀ j, j < k → A j ≠ 0 → j / n < j % n) ∧ Grown w wr)) (fun i _ _ _ => len - (intOf i).toNat)
  case atStart => exact ⟨0, Nat.zero_le _, rfl, fun j hj => absurd hj (Nat.not_lt_zero _), Grown.refl _⟩
  case round =>
    obtain ⟨k, hk, rfl, HI⟩ := hrel
    by_cases hlt : k < len
    · obtain ⟨b, o, rfl, hc0⟩ := (unhide HR).at hlt
      have i0 : (0 : Int) ≤ (k : Int) := Int.natCast_nonneg _
      have i1 : (k : Int) < (len : Int) := Int.ofNat_lt.2 hlt
      obtain ⟨x, hx⟩ : ∃ x, A k = x := ⟨_, rfl⟩
      rw [hx] at hc0
      have hc := gat (unhide HI).2 hc0
      have HX := hide hx
      clear hx hc0
      by_cases h : x = 0
      · subst h
        have d : ((0 : Int) != 0) = false := by decide
        have H2 : Hid ((∀ j, j < k + 1 → A j ≠ 0 → j / n < j % n) ∧ ∀ m, Grown w (wr.drewN m)) := ⟨fun j hj => by
          by_cases e : j = k
          · subst e; intro h; exact absurd (unhide HX) h
          · exact (unhide HI).1 j (by omega), fun m => (unhide HI).2⟩
        clear HI
        go_wp2_with fail
        go_quiet (fail)
        go_wp2
        go_roundw
        case rel => exact ⟨k + 1, hlt, by go_num, (unhide H2).1, (unhide H2).2 _⟩
        case measure => simp [intOf]; omega
      · have d : (x != 0) = true := by simpa using h
        obtain ⟨q, hq⟩ : ∃ q, k / n = q := ⟨_, rfl⟩
        obtain ⟨r, hr⟩ : ∃ r, k % n = r := ⟨_, rfl⟩
        have tq := tdiv_nat k n q hq
        have tr := tmod_nat k n r hr
        have hq2 : q ≤ k := by rw [← hq]; exact Nat.div_le_self _ _
        have hr2 : r ≤ k := by rw [← hr]; exact Nat.mod_le _ _
        have wq := wrapNk q (by omega)
        have wr' := wrapNk r (by omega)
        by_cases h2 : r ≤ q
        · have d2 : decide ((r : Int) ≤ (q : Int)) = true := decide_eq_true (by omega)
          have H2 : Hid (upB n len A = false ∧ ∀ m, Grown w (wr.drewN m)) := ⟨upB_no (fun hp => by have := hp k hlt (by rw [unhide HX]; exact h); omega), fun m => (unhide HI).2⟩
          clear HI h hq hr hq2 hr2
          go_wp2_with fail
          go_quiet (fail)
          go_wp2
          go_ret
          exact ⟨(by rw [(unhide H2).1]; rfl), (unhide H2).2 _⟩
        · have d2 : decide ((r : Int) ≤ (q : Int)) = false := decide_eq_false (by omega)
          have H2 : Hid ((∀ j, j < k + 1 → A j ≠ 0 → j / n < j % n) ∧ ∀ m, Grown w (wr.drewN m)) := ⟨fun j hj => by
            by_cases e : j = k
            · subst e; intro h; omega
            · exact (unhide HI).1 j (by omega), fun m => (unhide HI).2⟩
          clear HI h hq hr hq2 hr2
          go_wp2_with fail
          go_quiet (fail)
          go_wp2
          go_roundw
          case rel => exact ⟨k + 1, hlt, by go_num, (unhide H2).1, (unhide H2).2 _⟩
          case measure => simp [intOf]; omega
    · obtain rfl : k = len := by omega
      have H2 : Hid (upB n k A = true ∧ Grown w wr) := ⟨upB_yes (unhide HI).1, (unhide HI).2⟩
      clear HI
      go_wp2
      go_ret
      exact ⟨(by rw [(unhide H2).1]; rfl), (unhide H2).2⟩

/-- The same with rows and columns exchanged, and nothing of the diagonal below 0. -/
def covAt (n : Nat) (P : Nat → Int) (k : Nat) : Prop := P k = P (k % n * n + k / n) ∧ (k / n = k % n → 0 ≤ P k)
def covP (n : Nat) (P : Nat → Int) : Prop := ∀ k, k < n * n → covAt n P k
open Classical in
noncomputable def covB (n : Nat) (P : Nat → Int) : Bool := decide (covP n P)
theorem covB_yes {n : Nat} {P : Nat → Int} (h : covP n P) : covB n P = true := by classical exact decide_eq_true h
theorem covB_no {n : Nat} {P : Nat → Int} (h : ¬ covP n P) : covB n P = false := by classical exact decide_eq_false h
theorem cov_place (n k : Nat) (hn : 1 ≤ n) (h : k < n * n) : k % n * n + k / n < n * n := by
  have h1 : k % n < n := Nat.mod_lt _ (by omega)
  have h2 : k / n < n := Nat.div_lt_of_lt_mul h
  calc k % n * n + k / n < k % n * n + n := by omega
    _ = (k % n + 1) * n := by rw [Nat.add_mul, Nat.one_mul]
    _ ≤ n * n := Nat.mul_le_mul_right _ h1
def covE (n : Nat) (P : Nat → Int) (k q r : Nat) (x y : Int) : Prop := k / n = q ∧ k % n = r ∧ P k = x ∧ P (k % n * n + k / n) = y ∧ k < n * n
theorem covE.mk {n : Nat} {P : Nat → Int} {k q r : Nat} {x y : Int} (h : covE n P k q r x y) (h1 : x = y) (h2 : q = r → 0 ≤ x) : covAt n P k := by
  obtain ⟨e1, e2, e3, e4, _⟩ := h
  refine ⟨by rw [e3, e4, h1], fun e => ?_⟩
  rw [e1, e2] at e
  rw [e3]
  exact h2 e
theorem covE.of {n : Nat} {P : Nat → Int} {k q r : Nat} {x y : Int} (h : covE n P k q r x y) (c : covP n P) : x = y ∧ (q = r → 0 ≤ x) := by
  obtain ⟨e1, e2, e3, e4, e5⟩ := h
  obtain ⟨c1, c2⟩ := c k e5
  rw [e3, e4] at c1
  rw [e1, e2, e3] at c2
  exact ⟨c1, c2⟩
theorem cov_step {n k : Nat} {P : Nat → Int} (h : ∀ j, j < k → covAt n P j) (c : covAt n P k) : ∀ j, j < k + 1 → covAt n P j := fun j hj => by
  rcases Nat.lt_or_ge j k with h1 | h1
  · exact h j h1
  · rw [show j = k from Nat.le_antisymm (Nat.le_of_lt_succ hj) h1]; exact c
theorem bool_eqN (q r : Nat) (h : ¬ q = r) : ((q : Int) == (r : Int)) = false := beq_eq_false_iff_ne.2 (fun e => h (Int.ofNat.inj e))
set_option maxHeartbeats 4000000 in
theorem mCovariance (ao : Option Addr) (len cap : Nat) (P : Nat → Int) (n : Nat) (hn : 1 ≤ n ∧ n ≤ 6) (hl : len = n * n) (w : World) (hr : Row w ao len P) :
    Calls Try.prog 48 #[.slice ao len cap, .int .i64 n] w fun e w' => e = .returned (.bool (covB n P)) ∧ Grown w w' := by
  have HR := hide hr
  have n0 : ((n : Int) == 0) = false := by simp; omega
  have n1 : (n : Int) ≠ 0 := by omega
  have n36 : n * n ≤ 36 := Nat.mul_le_mul hn.2 hn.2
  have l1 : len ≤ 1000000 := by omega
  have HN := hide (And.intro hn (And.intro hl n36))
  clear hr hn hl n36
  go_enter Try.func48, Try.ntmps48
  go_wp2_with fail
  go_loopw [11, 5, 6, 7, 8] (fun i _ _ _ _ wr => ∃ k : Nat, k ≤ len ∧ i = .int .i64 k ∧ Hid ((∀ j, j < k → covAt n P j) ∧ Grown w wr)) (fun i _ _ _ _ _ => len - (intOf i).toNat)
  case atStart => exact ⟨0, Nat.zero_le _, rfl, fun j hj => absurd hj (Nat.not_lt_zero _), Grown.refl _⟩
  case round =>
    obtain ⟨k, hk, rfl, HI⟩ := hrel
    by_cases hlt : k < len
    · have RW := hide ((unhide HR).grown (unhide HI).2)
      obtain ⟨b, o, rfl, hc⟩ := (unhide RW).at hlt
      have i0 : (0 : Int) ≤ (k : Int) := Int.natCast_nonneg _
      have i1 : (k : Int) < (len : Int) := Int.ofNat_lt.2 hlt
      obtain ⟨q, hq⟩ : ∃ q, k / n = q := ⟨_, rfl⟩
      obtain ⟨r, hr⟩ : ∃ r, k % n = r := ⟨_, rfl⟩
      obtain ⟨p, hp⟩ : ∃ p, r * n + q = p := ⟨_, rfl⟩
      have hpl : p < len := by
        have h1 := cov_place n k (unhide HN).1.1 (by have := (unhide HN).2.1; omega)
        rw [hq, hr, hp] at h1
        have := (unhide HN).2.1
        omega
      obtain ⟨b2, o2, e2, hd⟩ := (unhide RW).at hpl
      cases e2
      obtain ⟨x, hx⟩ : ∃ x, P k = x := ⟨_, rfl⟩
      obtain ⟨y, hy⟩ : ∃ y, P p = y := ⟨_, rfl⟩
      rw [hx] at hc
      rw [hy] at hd
      have hq2 : q ≤ k := by rw [← hq]; exact Nat.div_le_self _ _
      have hr2 : r ≤ k := by rw [← hr]; exact Nat.mod_le _ _
      have bq : q ≤ 1000000 := Nat.le_trans hq2 (Nat.le_trans hk l1)
      have br : r ≤ 1000000 := Nat.le_trans hr2 (Nat.le_trans hk l1)
      have bp : p ≤ 1000000 := Nat.le_trans (Nat.le_of_lt hpl) l1
      obtain ⟨rn, hrn⟩ : ∃ rn, r * n = rn := ⟨_, rfl⟩
      rw [hrn] at hp
      have brn : rn ≤ 1000000 := Nat.le_trans (by rw [← hp]; exact Nat.le_add_right _ _) bp
      have wa : wrap64 ((r : Int) * (n : Int)) = (rn : Int) := wrapP r n rn hrn brn
      have wb : wrap64 ((rn : Int) + (q : Int)) = (p : Int) := wrapA rn q p hp bp
      have tq := tdiv_nat k n q hq
      have tr := tmod_nat k n r hr
      have wq := wrapNk q bq
      have wr' := wrapNk r br
      have wq6 := wrapN q bq
      have wr6 := wrapN r br
      have hn2 := (unhide HN).2.1
      have p0 : (0 : Int) ≤ (p : Int) := Int.natCast_nonneg _
      have p1 : (p : Int) < (len : Int) := Int.ofNat_lt.2 hpl
      have HE : Hid (covE n P k q r x y) := ⟨hq, hr, hx, by rw [hr, hq, hrn, hp]; exact hy, by rw [← hn2]; exact hlt⟩
      clear hn2 hq hr hp hpl hrn hx hy hq2 hr2 RW bq br bp brn
      have Z0 : Hid (∀ m, Grown w (wr.drewN m)) := fun m => (unhide HI).2
      by_cases h1 : x = y
      · subst h1
        have d : (x != x) = false := by simp
        by_cases h2 : q = r
        · subst h2
          have d2 : ((q : Int) == (q : Int)) = true := by simp
          by_cases h3 : x < 0
          · have d3 : decide (x < 0) = true := decide_eq_true h3
            have H2 : Hid (covB n P = false) := covB_no (fun h => absurd (((unhide HE).of h).2 rfl) (Int.not_le.2 h3))
            clear HI h3
            go_wp2_with fail
            go_quiet (fail)
            go_wp2
            go_ret
            exact ⟨(by rw [unhide H2]; rfl), unhide Z0 _⟩
          · have d3 : decide (x < 0) = false := decide_eq_false h3
            have H2 : Hid (∀ j, j < k + 1 → covAt n P j) := cov_step (unhide HI).1 ((unhide HE).mk rfl (fun _ => Int.not_lt.1 h3))
            clear HI h3
            go_wp2_with fail
            go_quiet (fail)
            go_wp2
            go_roundw
            case rel => exact ⟨k + 1, hlt, by go_num, unhide H2, unhide Z0 _⟩
            case measure => simp [intOf]; omega
        · have d2 : ((q : Int) == (r : Int)) = false := bool_eqN q r h2
          have H2 : Hid (∀ j, j < k + 1 → covAt n P j) := cov_step (unhide HI).1 ((unhide HE).mk rfl (fun e => absurd e h2))
          clear HI
          go_wp2_with fail
          go_quiet (fail)
          go_wp2
          go_roundw
          case rel => exact ⟨k + 1, hlt, by go_num, unhide H2, unhide Z0 _⟩
          case measure => simp [intOf]; omega
      · have d : (x != y) = true := by simpa using h1
        have H2 : Hid (covB n P = false) := covB_no (fun h => h1 ((unhide HE).of h).1)
        clear HI h1
        go_wp2_with fail
        go_quiet (fail)
        go_wp2
        go_ret
        exact ⟨(by rw [unhide H2]; rfl), unhide Z0 _⟩
    · obtain rfl : k = len := by omega
      have H2 : Hid (covB n P = true ∧ Grown w wr) := ⟨covB_yes (fun j hj => (unhide HI).1 j (by have := (unhide HN).2.1; omega)), (unhide HI).2⟩
      clear HI
      go_wp2
      go_ret
      exact ⟨(by rw [(unhide H2).1]; rfl), (unhide H2).2⟩

end Go.Proofs.Ytpanfppnkgokdaa

/- Package model: ordered. -/
namespace Go.Proofs.Ytpanfppnkgokdaa
open Go.RowKit Go.Shelf Go.Proofs.Wd
set_option linter.unusedVariables false
set_option linter.unusedSimpArgs false
set_option maxRecDepth 10000

/-- Rows that may be, up to the n-th. -/
def ordP (N rmin : Int) (X : Nat → RV) (n : Nat) : Prop := ∀ i, i < n → okRow N rmin (lastS X i) (X i)
open Classical in
noncomputable def ordB (N rmin : Int) (X : Nat → RV) (n : Nat) : Bool := decide (ordP N rmin X n)
theorem ordB_yes {N rmin : Int} {X : Nat → RV} {n : Nat} (h : ordP N rmin X n) : ordB N rmin X n = true := by classical exact decide_eq_true h
theorem ordB_no {N rmin : Int} {X : Nat → RV} {n : Nat} (h : ¬ ordP N rmin X n) : ordB N rmin X n = false := by classical exact decide_eq_false h
theorem ordP.last {N rmin : Int} {X : Nat → RV} {n : Nat} (h : ordP N rmin X n) : 1 ≤ lastS X n := by
  cases n with
  | zero => exact Int.le_refl _
  | succ n => exact (h n (Nat.lt_succ_self _)).1.1
theorem ordP.step {N rmin : Int} {X : Nat → RV} {n : Nat} (h : ordP N rmin X n) (k : okRow N rmin (lastS X n) (X n)) : ordP N rmin X (n + 1) := fun j hj => by
  rcases Nat.lt_or_ge j n with h1 | h1
  · exact h j h1
  · rw [show j = n from Nat.le_antisymm (Nat.le_of_lt_succ hj) h1]; exact k
/-- A row's parts. -/
def rowE (X : Nat → RV) (k : Nat) (s r : Int) (ha : Option Addr) (hl hc : Nat) (Z : Nat → Int) : Prop := X k = ⟨s, ⟨ha, hl, hc, Z⟩, r⟩
theorem rowE.mk {N rmin l : Int} {X : Nat → RV} {k : Nat} {s r : Int} {ha : Option Addr} {hl hc : Nat} {Z : Nat → Int} (e : rowE X k s r ha hl hc Z) (h0 : 1 ≤ l) (h1 : inP l 16 s) (h2 : numP hl N (-68719476736) 68719476736 Z) (h3 : ¬ r < rmin) : okRow N rmin l (X k) := by
  unfold rowE at e
  rw [e]
  exact ⟨⟨Int.le_trans h0 h1.1, h1.2, h1.1⟩, h2.1, Int.not_lt.1 h3, h2.2⟩
theorem rowE.of {N rmin l : Int} {X : Nat → RV} {k : Nat} {s r : Int} {ha : Option Addr} {hl hc : Nat} {Z : Nat → Int} (e : rowE X k s r ha hl hc Z) (h : okRow N rmin l (X k)) : inP l 16 s ∧ numP hl N (-68719476736) 68719476736 Z ∧ ¬ r < rmin := by
  unfold rowE at e
  rw [e] at h
  exact ⟨⟨h.1.2.2, h.1.2.1⟩, ⟨h.2.1, h.2.2.2⟩, Int.not_lt.2 h.2.2.1⟩
theorem row_last {X : Nat → RV} {k : Nat} {s r : Int} {ha : Option Addr} {hl hc : Nat} {Z : Nat → Int} (e : rowE X k s r ha hl hc Z) : lastS X (k + 1) = s := by
  show (X k).s = s
  unfold rowE at e
  rw [e]

set_option maxRecDepth 20000 in
set_option maxHeartbeats 8000000 in
theorem mOrdered (N : Int) (aa qa ro : Option Addr) (al ac ql qc rl rc : Nat) (tick gate rmin : Int) (X : Nat → RV) (hl : rl ≤ 1000000) (w : World) (hr : RVs w ro rl X) (hh : ∀ i, i < rl → Row w (X i).h.ao (X i).h.len (X i).h.Z ∧ (X i).h.len ≤ 1000000) :
    Calls Try.prog 40 #[.agg #[.int .i64 N, .slice aa al ac, .slice qa ql qc, .int .i64 tick, .int .i64 gate, .int .i64 rmin, .slice ro rl rc]] w fun e w' => e = .returned (.bool (ordB N rmin X rl)) ∧ Grown w w' := by
  have G1 : Hid (Grown w (w.alloc (.cells #[.int .i64 N, .slice aa al ac, .slice qa ql qc, .int .i64 tick, .int .i64 gate, .int .i64 rmin, .slice ro rl rc] 25)) ∧ Blk w.heap.size #[.int .i64 N, .slice aa al ac, .slice qa ql qc, .int .i64 tick, .int .i64 gate, .int .i64 rmin, .slice ro rl rc] 25 (w.alloc (.cells #[.int .i64 N, .slice aa al ac, .slice qa ql qc, .int .i64 tick, .int .i64 gate, .int .i64 rmin, .slice ro rl rc] 25))) := ⟨(Grown.refl _).alloc _ _, Blk.new _ _ _⟩
  have RR := hide (And.intro hr hh)
  have y6 : (w.alloc (.cells #[.int .i64 N, .slice aa al ac, .slice qa ql qc, .int .i64 tick, .int .i64 gate, .int .i64 rmin, .slice ro rl rc] 25)).cell? ⟨w.heap.size, 6, none⟩ = some (.slice ro rl rc) := Blk.cell (unhide G1).2 6
  clear hr hh
  go_enter Try.func40, Try.ntmps40
  go_wp2_with fail
  generalize (w.alloc (.cells #[.int .i64 N, .slice aa al ac, .slice qa ql qc, .int .i64 tick, .int .i64 gate, .int .i64 rmin, .slice ro rl rc] 25)) = w1 at *
  go_loopw [9, 3, 5] (fun i l _ wr => ∃ (k : Nat) (last : Int), k ≤ rl ∧ i = .int .i64 k ∧ l = .int .i64 last ∧ Hid (last = lastS X k ∧ ordP N rmin X k ∧ Grown w wr ∧ Blk w.heap.size #[.int .i64 N, .slice aa al ac, .slice qa ql qc, .int .i64 tick, .int .i64 gate, .int .i64 rmin, .slice ro rl rc] 25 wr)) (fun i _ _ _ => rl - (intOf i).toNat)
  case atStart => exact ⟨0, 1, Nat.zero_le _, rfl, rfl, rfl, fun j hj => absurd hj (Nat.not_lt_zero _), unhide G1⟩
  case round =>
    obtain ⟨k, last, hk, rfl, rfl, HI⟩ := hrel
    clear y6
    by_cases hlt : k < rl
    · obtain ⟨b, o, rfl, c0, c1, c2⟩ := ((unhide RR).1.grown (unhide HI).2.2.1).at hlt
      have i0 : (0 : Int) ≤ (k : Int) := Int.natCast_nonneg _
      have i1 : (k : Int) < (rl : Int) := Int.ofNat_lt.2 hlt
      have HH := hide (And.intro ((unhide RR).2 k hlt).2 (((unhide RR).2 k hlt).1.grown (unhide HI).2.2.1))
      obtain ⟨s, ⟨ha, hl, hc, Z⟩, r, hX⟩ : ∃ s h r, X k = ⟨s, h, r⟩ := ⟨_, _, _, rfl⟩
      have EX : Hid (rowE X k s r ha hl hc Z) := hX
      rw [hX] at c0 c1 c2 HH
      dsimp only at c0 c1 c2 HH
      clear hX
      have S2 : Hid (Grown wr (wr.alloc (.cells #[.int .i64 s, .slice ha hl hc, .int .i64 r] 41)) ∧ Blk wr.heap.size #[.int .i64 s, .slice ha hl hc, .int .i64 r] 41 (wr.alloc (.cells #[.int .i64 s, .slice ha hl hc, .int .i64 r] 41)) ∧ Blk w.heap.size #[.int .i64 N, .slice aa al ac, .slice qa ql qc, .int .i64 tick, .int .i64 gate, .int .i64 rmin, .slice (some ⟨b, o, none⟩) rl rc] 25 (wr.alloc (.cells #[.int .i64 s, .slice ha hl hc, .int .i64 r] 41))) := ⟨(Grown.refl _).alloc _ _, Blk.new _ _ _, Blk.grown (unhide HI).2.2.2 ((Grown.refl _).alloc _ _)⟩
      have CW := hide (fun w => mWithin s last 16 w)
      have CN : Hid (∀ W, Grown wr W → Calls Try.prog 34 #[.slice ha hl hc, .int .i64 N, .int .i64 (-68719476736), .int .i64 68719476736] W fun e w' => e = .returned (.bool (numB hl N (-68719476736) 68719476736 Z)) ∧ Grown W w') := fun W g => mNumbers ha hl hc Z N (-68719476736) 68719476736 (unhide HH).1 W ((unhide HH).2.grown g)
      clear HH
      by_cases h1 : inP last 16 s
      · rw [inB_yes h1] at CW
        by_cases h2 : numP hl N (-68719476736) 68719476736 Z
        · rw [numB_yes h2] at CN
          by_cases h3 : r < rmin
          · have d3 : decide (r < rmin) = true := decide_eq_true h3
            have HB : Hid (ordB N rmin X rl = false) := ordB_no (fun h => ((unhide EX).of (h k hlt)).2.2 h3)
            clear h1 h2 h3
            go_wp2_with fail
            generalize hw2 : (wr.alloc (.cells #[.int .i64 s, .slice ha hl hc, .int .i64 r] 41)) = w2 at *
            clear hw2 c0 c1 c2
            refine (unhide CW _).mono ?_
            rintro e w3 ⟨rfl, e3⟩
            subst e3
            clear CW
            have r0 : w3.cell? ⟨wr.heap.size, 0, none⟩ = some (.int .i64 s) := Blk.cell (unhide S2).2.1 0
            have r1 : w3.cell? ⟨wr.heap.size, 1, none⟩ = some (.slice ha hl hc) := Blk.cell (unhide S2).2.1 1
            have r2 : w3.cell? ⟨wr.heap.size, 2, none⟩ = some (.int .i64 r) := Blk.cell (unhide S2).2.1 2
            have m0 : w3.cell? ⟨w.heap.size, 0, none⟩ = some (.int .i64 N) := Blk.cell (unhide S2).2.2 0
            have m5 : w3.cell? ⟨w.heap.size, 5, none⟩ = some (.int .i64 rmin) := Blk.cell (unhide S2).2.2 5
            go_wp2_with fail
            refine (unhide CN _ (unhide S2).1).mono ?_
            rintro e w4 ⟨rfl, g4⟩
            have S4 := hide (And.intro (gtrans (unhide S2).1 g4) (And.intro (Blk.grown (unhide S2).2.1 g4) (Blk.grown (unhide S2).2.2 g4)))
            clear g4 CN r0 r1 r2 m0 m5 S2
            have r0 : w4.cell? ⟨wr.heap.size, 0, none⟩ = some (.int .i64 s) := Blk.cell (unhide S4).2.1 0
            have r2 : w4.cell? ⟨wr.heap.size, 2, none⟩ = some (.int .i64 r) := Blk.cell (unhide S4).2.1 2
            have m5 : w4.cell? ⟨w.heap.size, 5, none⟩ = some (.int .i64 rmin) := Blk.cell (unhide S4).2.2 5
            go_wp2
            go_ret
            exact ⟨(by rw [unhide HB]; rfl), gtrans (unhide HI).2.2.1 (unhide S4).1⟩
          · have d3 : decide (r < rmin) = false := decide_eq_false h3
            have HB : Hid (s = lastS X (k + 1) ∧ ordP N rmin X (k + 1)) := ⟨(row_last (unhide EX)).symm, (unhide HI).2.1.step ((unhide EX).mk (unhide HI).2.1.last (by rw [← (unhide HI).1]; exact h1) h2 h3)⟩
            clear h1 h2 h3
            go_wp2_with fail
            generalize hw2 : (wr.alloc (.cells #[.int .i64 s, .slice ha hl hc, .int .i64 r] 41)) = w2 at *
            clear hw2 c0 c1 c2
            refine (unhide CW _).mono ?_
            rintro e w3 ⟨rfl, e3⟩
            subst e3
            clear CW
            have r0 : w3.cell? ⟨wr.heap.size, 0, none⟩ = some (.int .i64 s) := Blk.cell (unhide S2).2.1 0
            have r1 : w3.cell? ⟨wr.heap.size, 1, none⟩ = some (.slice ha hl hc) := Blk.cell (unhide S2).2.1 1
            have r2 : w3.cell? ⟨wr.heap.size, 2, none⟩ = some (.int .i64 r) := Blk.cell (unhide S2).2.1 2
            have m0 : w3.cell? ⟨w.heap.size, 0, none⟩ = some (.int .i64 N) := Blk.cell (unhide S2).2.2 0
            have m5 : w3.cell? ⟨w.heap.size, 5, none⟩ = some (.int .i64 rmin) := Blk.cell (unhide S2).2.2 5
            go_wp2_with fail
            refine (unhide CN _ (unhide S2).1).mono ?_
            rintro e w4 ⟨rfl, g4⟩
            have S4 := hide (And.intro (gtrans (unhide S2).1 g4) (And.intro (Blk.grown (unhide S2).2.1 g4) (Blk.grown (unhide S2).2.2 g4)))
            clear g4 CN r0 r1 r2 m0 m5 S2
            have r0 : w4.cell? ⟨wr.heap.size, 0, none⟩ = some (.int .i64 s) := Blk.cell (unhide S4).2.1 0
            have r2 : w4.cell? ⟨wr.heap.size, 2, none⟩ = some (.int .i64 r) := Blk.cell (unhide S4).2.1 2
            have m5 : w4.cell? ⟨w.heap.size, 5, none⟩ = some (.int .i64 rmin) := Blk.cell (unhide S4).2.2 5
            go_wp2
            go_roundw
            case rel => exact ⟨k + 1, s, hlt, by go_num, rfl, (unhide HB).1, (unhide HB).2, gtrans (unhide HI).2.2.1 (unhide S4).1, (unhide S4).2.2⟩
            case measure => simp [intOf]; omega
        · rw [numB_no h2] at CN
          have HB : Hid (ordB N rmin X rl = false) := ordB_no (fun h => h2 ((unhide EX).of (h k hlt)).2.1)
          clear h1 h2
          go_wp2_with fail
          generalize hw2 : (wr.alloc (.cells #[.int .i64 s, .slice ha hl hc, .int .i64 r] 41)) = w2 at *
          clear hw2 c0 c1 c2
          refine (unhide CW _).mono ?_
          rintro e w3 ⟨rfl, e3⟩
          subst e3
          clear CW
          have r0 : w3.cell? ⟨wr.heap.size, 0, none⟩ = some (.int .i64 s) := Blk.cell (unhide S2).2.1 0
          have r1 : w3.cell? ⟨wr.heap.size, 1, none⟩ = some (.slice ha hl hc) := Blk.cell (unhide S2).2.1 1
          have r2 : w3.cell? ⟨wr.heap.size, 2, none⟩ = some (.int .i64 r) := Blk.cell (unhide S2).2.1 2
          have m0 : w3.cell? ⟨w.heap.size, 0, none⟩ = some (.int .i64 N) := Blk.cell (unhide S2).2.2 0
          have m5 : w3.cell? ⟨w.heap.size, 5, none⟩ = some (.int .i64 rmin) := Blk.cell (unhide S2).2.2 5
          go_wp2_with fail
          refine (unhide CN _ (unhide S2).1).mono ?_
          rintro e w4 ⟨rfl, g4⟩
          have S4 := hide (And.intro (gtrans (unhide S2).1 g4) (And.intro (Blk.grown (unhide S2).2.1 g4) (Blk.grown (unhide S2).2.2 g4)))
          clear g4 CN r0 r1 r2 m0 m5 S2
          have r0 : w4.cell? ⟨wr.heap.size, 0, none⟩ = some (.int .i64 s) := Blk.cell (unhide S4).2.1 0
          have r2 : w4.cell? ⟨wr.heap.size, 2, none⟩ = some (.int .i64 r) := Blk.cell (unhide S4).2.1 2
          have m5 : w4.cell? ⟨w.heap.size, 5, none⟩ = some (.int .i64 rmin) := Blk.cell (unhide S4).2.2 5
          go_wp2
          go_ret
          exact ⟨(by rw [unhide HB]; rfl), gtrans (unhide HI).2.2.1 (unhide S4).1⟩
      · rw [inB_no h1] at CW
        have HB : Hid (ordB N rmin X rl = false) := ordB_no (fun h => h1 (by rw [(unhide HI).1]; exact ((unhide EX).of (h k hlt)).1))
        clear h1
        go_wp2_with fail
        generalize hw2 : (wr.alloc (.cells #[.int .i64 s, .slice ha hl hc, .int .i64 r] 41)) = w2 at *
        clear hw2 c0 c1 c2
        refine (unhide CW _).mono ?_
        rintro e w3 ⟨rfl, e3⟩
        subst e3
        clear CW
        have r0 : w3.cell? ⟨wr.heap.size, 0, none⟩ = some (.int .i64 s) := Blk.cell (unhide S2).2.1 0
        have r1 : w3.cell? ⟨wr.heap.size, 1, none⟩ = some (.slice ha hl hc) := Blk.cell (unhide S2).2.1 1
        have r2 : w3.cell? ⟨wr.heap.size, 2, none⟩ = some (.int .i64 r) := Blk.cell (unhide S2).2.1 2
        have m0 : w3.cell? ⟨w.heap.size, 0, none⟩ = some (.int .i64 N) := Blk.cell (unhide S2).2.2 0
        have m5 : w3.cell? ⟨w.heap.size, 5, none⟩ = some (.int .i64 rmin) := Blk.cell (unhide S2).2.2 5
        go_wp2
        go_ret
        exact ⟨(by rw [unhide HB]; rfl), gtrans (unhide HI).2.2.1 (unhide S2).1⟩
    · obtain rfl : k = rl := by omega
      have H2 : Hid (ordB N rmin X k = true ∧ Grown w wr) := ⟨ordB_yes (unhide HI).2.1, (unhide HI).2.2.1⟩
      clear HI
      go_wp2
      go_ret
      exact ⟨(by rw [(unhide H2).1]; rfl), (unhide H2).2⟩

end Go.Proofs.Ytpanfppnkgokdaa

/- Package model: all, and what Check asks. -/
namespace Go.Proofs.Ytpanfppnkgokdaa
open Go.RowKit Go.Shelf Go.Proofs.Wd
set_option linter.unusedVariables false
set_option linter.unusedSimpArgs false
set_option maxRecDepth 10000

def allB (n : Nat) (b : Nat → Bool) : Bool := decide (∀ i, i < n → b i = true)
theorem allB_yes {n : Nat} {b : Nat → Bool} (h : ∀ i, i < n → b i = true) : allB n b = true := decide_eq_true h
theorem allB_no {n : Nat} {b : Nat → Bool} {k : Nat} (hk : k < n) (h : b k = false) : allB n b = false := decide_eq_false (fun h2 => by rw [h2 k hk] at h; cases h)
set_option maxHeartbeats 4000000 in
theorem mAll (B n cap P : Nat) (F : Nat → Nat) (b : Nat → Bool) (I : World → Prop) (hn : n ≤ 1000000) (w : World) (h0 : Hid (I w))
    (HC : Hid (∀ W, I W → ∀ i, i < n → W.cell? ⟨B, i, none⟩ = some (.func (.func (F i)) #[] #[.pointer (some ⟨P, 0, none⟩)])))
    (HF : Hid (∀ i, i < n → ∀ args w, (callFunc (F i) args).run Try.prog w = .ok (.enter (F i) args) w))
    (C : Hid (∀ i, i < n → (∀ j, j < i → b j = true) → ∀ W, I W → Calls Try.prog (F i) #[.pointer (some ⟨P, 0, none⟩)] W fun e w' => e = .returned (.bool (b i)) ∧ I w')) :
    Calls Try.prog 30 #[.slice (some ⟨B, 0, none⟩) n cap] w fun e w' => e = .returned (.bool (allB n b)) ∧ I w' := by
  go_enter Try.func30, Try.ntmps30
  go_wp2_with fail
  go_loopw [7, 4] (fun i _ wr => ∃ k : Nat, k ≤ n ∧ i = .int .i64 k ∧ Hid ((∀ j, j < k → b j = true) ∧ I wr)) (fun i _ _ => n - (intOf i).toNat)
  case atStart => exact ⟨0, Nat.zero_le _, rfl, fun j hj => absurd hj (Nat.not_lt_zero _), unhide h0⟩
  case round =>
    obtain ⟨k, hk, rfl, HI⟩ := hrel
    by_cases hlt : k < n
    · have i0 : (0 : Int) ≤ (k : Int) := Int.natCast_nonneg _
      have i1 : (k : Int) < (n : Int) := Int.ofNat_lt.2 hlt
      have c0 := unhide HC wr (unhide HI).2 k hlt
      have CC := hide (unhide C k hlt (unhide HI).1 wr (unhide HI).2)
      have eF := unhide HF k hlt
      obtain ⟨f, hf⟩ : ∃ f, F k = f := ⟨_, rfl⟩
      rw [hf] at c0 CC eF
      obtain ⟨x, hx⟩ : ∃ x, b k = x := ⟨_, rfl⟩
      rw [hx] at CC
      have HX := hide hx
      clear hf hx
      cases x with
      | true =>
        have H2 : Hid (∀ j, j < k + 1 → b j = true) := fun j hj => by
          rcases Nat.lt_or_ge j k with h1 | h1
          · exact (unhide HI).1 j h1
          · rw [show j = k from Nat.le_antisymm (Nat.le_of_lt_succ hj) h1]; exact unhide HX
        clear HI HX
        go_wp2_with fail
        refine (unhide CC).mono ?_
        rintro e w2 ⟨rfl, h2⟩
        have H3 := hide h2
        clear CC h2 c0 eF
        go_wp2
        go_roundw
        case rel => exact ⟨k + 1, hlt, by go_num, unhide H2, unhide H3⟩
        case measure => simp [intOf]; omega
      | false =>
        have H2 : Hid (allB n b = false) := allB_no hlt (unhide HX)
        clear HI HX
        go_wp2_with fail
        refine (unhide CC).mono ?_
        rintro e w2 ⟨rfl, h2⟩
        have H3 := hide h2
        clear CC h2 c0 eF
        go_wp2
        go_ret
        exact ⟨(by rw [unhide H2]; rfl), unhide H3⟩
    · obtain rfl : k = n := by omega
      have H2 : Hid (allB k b = true ∧ I wr) := ⟨allB_yes (unhide HI).1, (unhide HI).2⟩
      clear HI
      go_wp2
      go_ret
      exact ⟨(by rw [(unhide H2).1]; rfl), (unhide H2).2⟩

set_option maxRecDepth 20000 in
set_option maxHeartbeats 4000000 in
theorem mCk1 (N : Int) (aa qa ro : Option Addr) (al ac ql qc rl rc : Nat) (tick gate rmin : Int) (P : Nat) (w : World) (bl : Blk P #[.int .i64 N, .slice aa al ac, .slice qa ql qc, .int .i64 tick, .int .i64 gate, .int .i64 rmin, .slice ro rl rc] 25 w) :
    Calls Try.prog 31 #[.pointer (some ⟨P, 0, none⟩)] w fun e w' => e = .returned (.bool (inB 1 6 N)) ∧ w' = w := by
  have y0 : w.cell? ⟨P, 0, none⟩ = some (.int .i64 N) := Blk.cell bl 0
  have C := hide (fun w => mWithin N 1 6 w)
  go_enter Try.func31, Try.ntmps31
  go_wp2_with fail
  refine (unhide C _).mono ?_
  rintro e w1 ⟨rfl, e1⟩
  subst e1
  clear C
  go_wp2
  go_ret
  exact ⟨rfl, rfl⟩
set_option maxRecDepth 20000 in
set_option maxHeartbeats 4000000 in
theorem mCk4 (N : Int) (aa qa ro : Option Addr) (al ac ql qc rl rc : Nat) (tick gate rmin : Int) (P : Nat) (w : World) (bl : Blk P #[.int .i64 N, .slice aa al ac, .slice qa ql qc, .int .i64 tick, .int .i64 gate, .int .i64 rmin, .slice ro rl rc] 25 w) :
    Calls Try.prog 37 #[.pointer (some ⟨P, 0, none⟩)] w fun e w' => e = .returned (.bool (inB 1 4294967296 tick)) ∧ w' = w := by
  have y3 : w.cell? ⟨P, 3, none⟩ = some (.int .i64 tick) := Blk.cell bl 3
  have C := hide (fun w => mWithin tick 1 4294967296 w)
  go_enter Try.func37, Try.ntmps37
  go_wp2_with fail
  refine (unhide C _).mono ?_
  rintro e w1 ⟨rfl, e1⟩
  subst e1
  clear C
  go_wp2
  go_ret
  exact ⟨rfl, rfl⟩
set_option maxRecDepth 20000 in
set_option maxHeartbeats 4000000 in
theorem mCk5 (N : Int) (aa qa ro : Option Addr) (al ac ql qc rl rc : Nat) (tick gate rmin : Int) (P : Nat) (w : World) (bl : Blk P #[.int .i64 N, .slice aa al ac, .slice qa ql qc, .int .i64 tick, .int .i64 gate, .int .i64 rmin, .slice ro rl rc] 25 w) :
    Calls Try.prog 38 #[.pointer (some ⟨P, 0, none⟩)] w fun e w' => e = .returned (.bool (decide (1 ≤ gate) && decide (1 ≤ rmin))) ∧ w' = w := by
  have y4 : w.cell? ⟨P, 4, none⟩ = some (.int .i64 gate) := Blk.cell bl 4
  have y5 : w.cell? ⟨P, 5, none⟩ = some (.int .i64 rmin) := Blk.cell bl 5
  by_cases h : 1 ≤ gate
  · rw [decide_eq_true h]
    have d : decide (1 ≤ gate) = true := decide_eq_true h
    clear h
    go_enter Try.func38, Try.ntmps38
    go_wp2
    go_ret
    exact ⟨by simp, rfl⟩
  · rw [decide_eq_false h]
    have d : decide (1 ≤ gate) = false := decide_eq_false h
    clear h
    go_enter Try.func38, Try.ntmps38
    go_wp2
    go_ret
    exact ⟨rfl, rfl⟩
set_option maxRecDepth 20000 in
set_option maxHeartbeats 4000000 in
theorem mCk3 (N : Int) (aa qa ro : Option Addr) (al ac ql qc rl rc : Nat) (tick gate rmin : Int) (P : Nat) (w : World) (bl : Blk P #[.int .i64 N, .slice aa al ac, .slice qa ql qc, .int .i64 tick, .int .i64 gate, .int .i64 rmin, .slice ro rl rc] 25 w) (Q : Nat → Int) (hq : ql ≤ 1000000) (hr : Row w qa ql Q) :
    Calls Try.prog 36 #[.pointer (some ⟨P, 0, none⟩)] w fun e w' => e = .returned (.bool (numB ql N 0 68719476736 Q)) ∧ Grown w w' := by
  have y0 : w.cell? ⟨P, 0, none⟩ = some (.int .i64 N) := Blk.cell bl 0
  have y2 : w.cell? ⟨P, 2, none⟩ = some (.slice qa ql qc) := Blk.cell bl 2
  have C := hide (mNumbers qa ql qc Q N 0 68719476736 hq w hr)
  clear hr bl
  go_enter Try.func36, Try.ntmps36
  go_wp2_with fail
  refine (unhide C).mono ?_
  rintro e w1 ⟨rfl, g1⟩
  have G := hide g1
  clear C g1 y0 y2
  go_wp2
  go_ret
  exact ⟨rfl, unhide G⟩
set_option maxRecDepth 20000 in
set_option maxHeartbeats 4000000 in
theorem mCk2 (n : Nat) (aa qa ro : Option Addr) (al ac ql qc rl rc : Nat) (tick gate rmin : Int) (P : Nat) (w : World) (bl : Blk P #[.int .i64 (n : Int), .slice aa al ac, .slice qa ql qc, .int .i64 tick, .int .i64 gate, .int .i64 rmin, .slice ro rl rc] 25 w) (A : Nat → Int) (hn : 1 ≤ n ∧ n ≤ 6) (ha : al ≤ 1000000) (hr : Row w aa al A) :
    Calls Try.prog 33 #[.pointer (some ⟨P, 0, none⟩)] w fun e w' => e = .returned (.bool (numB al ((n * n : Nat) : Int) (-68719476736) 68719476736 A && upB n al A)) ∧ Grown w w' := by
  have y0 : w.cell? ⟨P, 0, none⟩ = some (.int .i64 (n : Int)) := Blk.cell bl 0
  have y1 : w.cell? ⟨P, 1, none⟩ = some (.slice aa al ac) := Blk.cell bl 1
  obtain ⟨nn, hnn⟩ : ∃ nn, n * n = nn := ⟨_, rfl⟩
  have n36 : nn ≤ 1000000 := by have : n * n ≤ 36 := Nat.mul_le_mul hn.2 hn.2; omega
  rw [hnn]
  have wn : wrap64 ((n : Int) * (n : Int)) = (nn : Int) := wrapP n n nn hnn n36
  have C := hide (mNumbers aa al ac A (nn : Int) (-68719476736) 68719476736 ha w hr)
  have CU : Hid (∀ W, Grown w W → Calls Try.prog 35 #[.slice aa al ac, .int .i64 n] W fun e w' => e = .returned (.bool (upB n al A)) ∧ Grown W w') := fun W g => mUpper aa al ac A n hn.1 ha W (hr.grown g)
  have BL := hide bl
  clear hr hnn n36 hn bl
  by_cases h : numP al (nn : Int) (-68719476736) 68719476736 A
  · rw [numB_yes h] at C ⊢
    clear h
    go_enter Try.func33, Try.ntmps33
    go_wp2_with fail
    refine (unhide C).mono ?_
    rintro e w1 ⟨rfl, g1⟩
    have G := hide g1
    have bl := Blk.grown (unhide BL) g1
    clear C g1 y0 y1
    have z0 : w1.cell? ⟨P, 0, none⟩ = some (.int .i64 (n : Int)) := Blk.cell bl 0
    have z1 : w1.cell? ⟨P, 1, none⟩ = some (.slice aa al ac) := Blk.cell bl 1
    go_wp2_with fail
    refine (unhide CU _ (unhide G)).mono ?_
    rintro e w2 ⟨rfl, g2⟩
    have G2 := hide (gtrans (unhide G) g2)
    clear CU g2 z0 z1 bl
    go_wp2
    go_ret
    exact ⟨by simp, unhide G2⟩
  · rw [numB_no h] at C ⊢
    clear h
    go_enter Try.func33, Try.ntmps33
    go_wp2_with fail
    refine (unhide C).mono ?_
    rintro e w1 ⟨rfl, g1⟩
    have G := hide g1
    clear C g1 y0 y1
    go_wp2
    go_ret
    exact ⟨rfl, unhide G⟩
set_option maxRecDepth 20000 in
set_option maxHeartbeats 4000000 in
theorem mCk6 (N : Int) (aa qa ro : Option Addr) (al ac ql qc rl rc : Nat) (tick gate rmin : Int) (P : Nat) (w : World) (bl : Blk P #[.int .i64 N, .slice aa al ac, .slice qa ql qc, .int .i64 tick, .int .i64 gate, .int .i64 rmin, .slice ro rl rc] 25 w) (X : Nat → RV) (hl : rl ≤ 1000000) (hr : RVs w ro rl X) (hh : ∀ i, i < rl → Row w (X i).h.ao (X i).h.len (X i).h.Z ∧ (X i).h.len ≤ 1000000) :
    Calls Try.prog 39 #[.pointer (some ⟨P, 0, none⟩)] w fun e w' => e = .returned (.bool (decide (rl ≤ 24) && ordB N rmin X rl)) ∧ Grown w w' := by
  have y0 : w.cell? ⟨P, 0, none⟩ = some (.int .i64 N) := Blk.cell bl 0
  have y1 : w.cell? ⟨P, 1, none⟩ = some (.slice aa al ac) := Blk.cell bl 1
  have y2 : w.cell? ⟨P, 2, none⟩ = some (.slice qa ql qc) := Blk.cell bl 2
  have y3 : w.cell? ⟨P, 3, none⟩ = some (.int .i64 tick) := Blk.cell bl 3
  have y4 : w.cell? ⟨P, 4, none⟩ = some (.int .i64 gate) := Blk.cell bl 4
  have y5 : w.cell? ⟨P, 5, none⟩ = some (.int .i64 rmin) := Blk.cell bl 5
  have y6 : w.cell? ⟨P, 6, none⟩ = some (.slice ro rl rc) := Blk.cell bl 6
  have C := hide (mOrdered N aa qa ro al ac ql qc rl rc tick gate rmin X hl w hr hh)
  clear hr hh
  by_cases h : rl ≤ 24
  · rw [decide_eq_true h]
    have d : decide ((rl : Int) ≤ 24) = true := decide_eq_true (by omega)
    go_enter Try.func39, Try.ntmps39
    go_wp2_with fail
    refine (unhide C).mono ?_
    rintro e w1 ⟨rfl, g1⟩
    have G := hide g1
    clear C g1 y0 y1 y2 y3 y4 y5 y6 bl
    go_wp2
    go_ret
    exact ⟨by simp, unhide G⟩
  · rw [decide_eq_false h]
    have d : decide ((rl : Int) ≤ 24) = false := decide_eq_false (by omega)
    clear C
    go_enter Try.func39, Try.ntmps39
    go_wp2
    go_ret
    exact ⟨rfl, Grown.refl _⟩

end Go.Proofs.Ytpanfppnkgokdaa

/- Package model: Check. -/
namespace Go.Proofs.Ytpanfppnkgokdaa
open Go.RowKit Go.Shelf Go.Proofs Go.Proofs.Wd
set_option linter.unusedVariables false
set_option linter.unusedSimpArgs false
set_option maxRecDepth 10000

theorem div_at (i k n : Nat) (hk : k < n) : (i * n + k) / n = i := by
  rw [Nat.mul_comm, Nat.mul_add_div (by omega), Nat.div_eq_of_lt hk]
  rfl
theorem mod_at (i k n : Nat) (hk : k < n) : (i * n + k) % n = k := by
  rw [Nat.mul_comm, Nat.mul_add_mod, Nat.mod_eq_of_lt hk]
theorem at_div (p n : Nat) : p / n * n + p % n = p := by
  rw [Nat.mul_comm]
  exact Nat.div_add_mod p n
theorem at_lt (i k n : Nat) (hi : i < n) (hk : k < n) : i * n + k < n * n := by
  calc i * n + k < i * n + n := by omega
    _ = (i + 1) * n := by rw [Nat.add_mul, Nat.one_mul]
    _ ≤ n * n := Nat.mul_le_mul_right _ hi
theorem moves_iff (n al ql : Nat) (A Q : Nat → Int) : okMoves n al ql A Q ↔ (numP al ((n * n : Nat) : Int) (-68719476736) 68719476736 A ∧ upP n al A) ∧ numP ql (n : Int) 0 68719476736 Q := by
  constructor
  · rintro ⟨h1, h2, h3⟩
    refine ⟨⟨⟨by rw [h1], fun p hp => ?_⟩, fun p hp h0 => ?_⟩, by rw [h2], fun p hp => (h3 p (by omega)).1⟩
    · rw [h1] at hp
      have a := Nat.div_lt_of_lt_mul hp
      have b := Nat.mod_lt p (Nat.lt_of_le_of_lt (Nat.zero_le _) a)
      have c := ((h3 _ a).2 _ b).1
      rw [at_div] at c
      exact c
    · rw [h1] at hp
      have a := Nat.div_lt_of_lt_mul hp
      have b := Nat.mod_lt p (Nat.lt_of_le_of_lt (Nat.zero_le _) a)
      have c := ((h3 _ a).2 _ b).2
      rw [at_div] at c
      exact Nat.lt_of_not_le (fun h => h0 (c h))
  · rintro ⟨⟨⟨h1, h2⟩, h3⟩, h4, h5⟩
    have h1 : al = n * n := Int.ofNat.inj h1
    have h4 : ql = n := Int.ofNat.inj h4
    refine ⟨h1, h4, fun i hi => ⟨h5 i (by omega), fun k hk => ⟨h2 _ (by rw [h1]; exact at_lt i k n hi hk), fun hki => ?_⟩⟩⟩
    have c := h3 (i * n + k) (by rw [h1]; exact at_lt i k n hi hk)
    rw [div_at i k n hk, mod_at i k n hk] at c
    exact Classical.byContradiction fun h0 => absurd (c h0) (Nat.not_lt.2 hki)
/-- What Check asks. -/
noncomputable def ckB (N : Int) (al ql rl : Nat) (A Q : Nat → Int) (tick gate rmin : Int) (X : Nat → RV) : Nat → Bool
  | 0 => inB 1 6 N
  | 1 => numB al ((N.toNat * N.toNat : Nat) : Int) (-68719476736) 68719476736 A && upB N.toNat al A
  | 2 => numB ql N 0 68719476736 Q
  | 3 => inB 1 4294967296 tick
  | 4 => decide (1 ≤ gate) && decide (1 ≤ rmin)
  | _ => decide (rl ≤ 24) && ordB N rmin X rl
theorem inB_iff {lo hi x : Int} : inB lo hi x = true ↔ inP lo hi x := ⟨fun h => by unfold inB at h; simp at h; exact h, inB_yes⟩
theorem numB_iff {len : Nat} {n lo hi : Int} {Z : Nat → Int} : numB len n lo hi Z = true ↔ numP len n lo hi Z := ⟨fun h => by classical exact of_decide_eq_true h, numB_yes⟩
theorem upB_iff {n len : Nat} {A : Nat → Int} : upB n len A = true ↔ upP n len A := ⟨fun h => by classical exact of_decide_eq_true h, upB_yes⟩
theorem ordB_iff {N rmin : Int} {X : Nat → RV} {n : Nat} : ordB N rmin X n = true ↔ ordP N rmin X n := ⟨fun h => by classical exact of_decide_eq_true h, ordB_yes⟩
theorem allB_iff {n : Nat} {b : Nat → Bool} : allB n b = true ↔ ∀ i, i < n → b i = true := ⟨fun h => of_decide_eq_true h, allB_yes⟩
theorem ck_iff (N : Int) (al ql rl : Nat) (A Q : Nat → Int) (tick gate rmin : Int) (X : Nat → RV) : allB 6 (ckB N al ql rl A Q tick gate rmin X) = true ↔ okC N al ql rl A Q tick gate rmin X := by
  rw [allB_iff]
  unfold okC
  rw [moves_iff]
  constructor
  · intro h
    have a0 := inB_iff.1 (h 0 (by omega))
    have a1 := Bool.and_eq_true_iff.1 (h 1 (by omega))
    have a2 := numB_iff.1 (h 2 (by omega))
    have a3 := inB_iff.1 (h 3 (by omega))
    have a4 := Bool.and_eq_true_iff.1 (h 4 (by omega))
    have a5 := Bool.and_eq_true_iff.1 (h 5 (by omega))
    have e : ((N.toNat : Nat) : Int) = N := Int.toNat_of_nonneg (Int.le_trans (by decide) a0.1)
    exact ⟨a0, ⟨⟨numB_iff.1 a1.1, upB_iff.1 a1.2⟩, by rw [e]; exact a2⟩, a3, of_decide_eq_true a4.1, of_decide_eq_true a4.2, of_decide_eq_true a5.1, ordB_iff.1 a5.2⟩
  · rintro ⟨a0, ⟨⟨a1, a2⟩, a3⟩, a4, a5, a6, a7, a8⟩ i hi
    have e : ((N.toNat : Nat) : Int) = N := Int.toNat_of_nonneg (Int.le_trans (by decide) a0.1)
    rw [e] at a3
    have : i = 0 ∨ i = 1 ∨ i = 2 ∨ i = 3 ∨ i = 4 ∨ i = 5 := by omega
    rcases this with rfl | rfl | rfl | rfl | rfl | rfl
    · exact inB_yes a0
    · exact Bool.and_eq_true_iff.2 ⟨numB_yes a1, upB_yes a2⟩
    · exact numB_yes a3
    · exact inB_yes a4
    · exact Bool.and_eq_true_iff.2 ⟨decide_eq_true a5, decide_eq_true a6⟩
    · exact Bool.and_eq_true_iff.2 ⟨decide_eq_true a7, ordB_yes a8⟩
theorem chk_all {N : Int} {al ql rl : Nat} {A Q : Nat → Int} {tick gate rmin : Int} {X : Nat → RV} : chkC N al ql rl A Q tick gate rmin X = if allB 6 (ckB N al ql rl A Q tick gate rmin X) then 0 else 2 := by
  by_cases h : okC N al ql rl A Q tick gate rmin X
  · rw [chkC_yes h, if_pos ((ck_iff ..).2 h)]
  · rw [chkC_no h, if_neg (fun h2 => h ((ck_iff ..).1 h2))]
def ckF (i : Nat) : Nat := [31, 33, 36, 37, 38, 39].getD i 0

theorem ck_enters : ∀ i, i < 6 → ∀ args w, (callFunc (ckF i) args).run Try.prog w = .ok (.enter (ckF i) args) w := fun i hi => by
  have : i = 0 ∨ i = 1 ∨ i = 2 ∨ i = 3 ∨ i = 4 ∨ i = 5 := by omega
  rcases this with rfl | rfl | rfl | rfl | rfl | rfl
  · exact enters_of Try.func31 (by kernel_rfl) rfl
  · exact enters_of Try.func33 (by kernel_rfl) rfl
  · exact enters_of Try.func36 (by kernel_rfl) rfl
  · exact enters_of Try.func37 (by kernel_rfl) rfl
  · exact enters_of Try.func38 (by kernel_rfl) rfl
  · exact enters_of Try.func39 (by kernel_rfl) rfl

set_option maxRecDepth 20000 in
set_option maxHeartbeats 4000000 in
theorem mCheck (N : Int) (aa qa ro : Option Addr) (al ac ql qc rl rc : Nat) (tick gate rmin : Int) (A Q : Nat → Int) (X : Nat → RV) (la : al ≤ 1000000) (lq : ql ≤ 1000000) (hl : rl ≤ 1000000) (w : World) (ha : Row w aa al A) (hq : Row w qa ql Q) (hr : RVs w ro rl X) (hh : ∀ i, i < rl → Row w (X i).h.ao (X i).h.len (X i).h.Z ∧ (X i).h.len ≤ 1000000) :
    Calls Try.prog 15 #[.agg #[.int .i64 N, .slice aa al ac, .slice qa ql qc, .int .i64 tick, .int .i64 gate, .int .i64 rmin, .slice ro rl rc]] w fun e w' => e = .returned (.int .i64 (chkC N al ql rl A Q tick gate rmin X)) ∧ Grown w w' := by
  have G2 : Hid (Grown w ((w.alloc (.cells #[.int .i64 N, .slice aa al ac, .slice qa ql qc, .int .i64 tick, .int .i64 gate, .int .i64 rmin, .slice ro rl rc] 25)).alloc (.cells #[.func (.func 31) #[] #[.pointer (some ⟨w.heap.size, 0, none⟩)], .func (.func 33) #[] #[.pointer (some ⟨w.heap.size, 0, none⟩)], .func (.func 36) #[] #[.pointer (some ⟨w.heap.size, 0, none⟩)], .func (.func 37) #[] #[.pointer (some ⟨w.heap.size, 0, none⟩)], .func (.func 38) #[] #[.pointer (some ⟨w.heap.size, 0, none⟩)], .func (.func 39) #[] #[.pointer (some ⟨w.heap.size, 0, none⟩)]] 30)) ∧ Blk w.heap.size #[.int .i64 N, .slice aa al ac, .slice qa ql qc, .int .i64 tick, .int .i64 gate, .int .i64 rmin, .slice ro rl rc] 25 ((w.alloc (.cells #[.int .i64 N, .slice aa al ac, .slice qa ql qc, .int .i64 tick, .int .i64 gate, .int .i64 rmin, .slice ro rl rc] 25)).alloc (.cells #[.func (.func 31) #[] #[.pointer (some ⟨w.heap.size, 0, none⟩)], .func (.func 33) #[] #[.pointer (some ⟨w.heap.size, 0, none⟩)], .func (.func 36) #[] #[.pointer (some ⟨w.heap.size, 0, none⟩)], .func (.func 37) #[] #[.pointer (some ⟨w.heap.size, 0, none⟩)], .func (.func 38) #[] #[.pointer (some ⟨w.heap.size, 0, none⟩)], .func (.func 39) #[] #[.pointer (some ⟨w.heap.size, 0, none⟩)]] 30)) ∧ Blk (w.heap.size + 1) #[.func (.func 31) #[] #[.pointer (some ⟨w.heap.size, 0, none⟩)], .func (.func 33) #[] #[.pointer (some ⟨w.heap.size, 0, none⟩)], .func (.func 36) #[] #[.pointer (some ⟨w.heap.size, 0, none⟩)], .func (.func 37) #[] #[.pointer (some ⟨w.heap.size, 0, none⟩)], .func (.func 38) #[] #[.pointer (some ⟨w.heap.size, 0, none⟩)], .func (.func 39) #[] #[.pointer (some ⟨w.heap.size, 0, none⟩)]] 30 ((w.alloc (.cells #[.int .i64 N, .slice aa al ac, .slice qa ql qc, .int .i64 tick, .int .i64 gate, .int .i64 rmin, .slice ro rl rc] 25)).alloc (.cells #[.func (.func 31) #[] #[.pointer (some ⟨w.heap.size, 0, none⟩)], .func (.func 33) #[] #[.pointer (some ⟨w.heap.size, 0, none⟩)], .func (.func 36) #[] #[.pointer (some ⟨w.heap.size, 0, none⟩)], .func (.func 37) #[] #[.pointer (some ⟨w.heap.size, 0, none⟩)], .func (.func 38) #[] #[.pointer (some ⟨w.heap.size, 0, none⟩)], .func (.func 39) #[] #[.pointer (some ⟨w.heap.size, 0, none⟩)]] 30))) := by
    refine ⟨((Grown.refl _).alloc _ _).alloc _ _, Blk.grown (Blk.new _ _ _) ((Grown.refl _).alloc _ _), ?_⟩
    have h := Blk.new (w.alloc (.cells #[.int .i64 N, .slice aa al ac, .slice qa ql qc, .int .i64 tick, .int .i64 gate, .int .i64 rmin, .slice ro rl rc] 25)) #[.func (.func 31) #[] #[.pointer (some ⟨w.heap.size, 0, none⟩)], .func (.func 33) #[] #[.pointer (some ⟨w.heap.size, 0, none⟩)], .func (.func 36) #[] #[.pointer (some ⟨w.heap.size, 0, none⟩)], .func (.func 37) #[] #[.pointer (some ⟨w.heap.size, 0, none⟩)], .func (.func 38) #[] #[.pointer (some ⟨w.heap.size, 0, none⟩)], .func (.func 39) #[] #[.pointer (some ⟨w.heap.size, 0, none⟩)]] 30
    rwa [show (w.alloc (.cells #[.int .i64 N, .slice aa al ac, .slice qa ql qc, .int .i64 tick, .int .i64 gate, .int .i64 rmin, .slice ro rl rc] 25)).heap.size = w.heap.size + 1 by simp] at h
  have CA : Hid (Calls Try.prog 30 #[.slice (some ⟨w.heap.size + 1, 0, none⟩) 6 6] ((w.alloc (.cells #[.int .i64 N, .slice aa al ac, .slice qa ql qc, .int .i64 tick, .int .i64 gate, .int .i64 rmin, .slice ro rl rc] 25)).alloc (.cells #[.func (.func 31) #[] #[.pointer (some ⟨w.heap.size, 0, none⟩)], .func (.func 33) #[] #[.pointer (some ⟨w.heap.size, 0, none⟩)], .func (.func 36) #[] #[.pointer (some ⟨w.heap.size, 0, none⟩)], .func (.func 37) #[] #[.pointer (some ⟨w.heap.size, 0, none⟩)], .func (.func 38) #[] #[.pointer (some ⟨w.heap.size, 0, none⟩)], .func (.func 39) #[] #[.pointer (some ⟨w.heap.size, 0, none⟩)]] 30)) fun e w' => e = .returned (.bool (allB 6 (ckB N al ql rl A Q tick gate rmin X))) ∧ Grown ((w.alloc (.cells #[.int .i64 N, .slice aa al ac, .slice qa ql qc, .int .i64 tick, .int .i64 gate, .int .i64 rmin, .slice ro rl rc] 25)).alloc (.cells #[.func (.func 31) #[] #[.pointer (some ⟨w.heap.size, 0, none⟩)], .func (.func 33) #[] #[.pointer (some ⟨w.heap.size, 0, none⟩)], .func (.func 36) #[] #[.pointer (some ⟨w.heap.size, 0, none⟩)], .func (.func 37) #[] #[.pointer (some ⟨w.heap.size, 0, none⟩)], .func (.func 38) #[] #[.pointer (some ⟨w.heap.size, 0, none⟩)], .func (.func 39) #[] #[.pointer (some ⟨w.heap.size, 0, none⟩)]] 30)) w') := by
    refine mAll (w.heap.size + 1) 6 6 w.heap.size ckF (ckB N al ql rl A Q tick gate rmin X) (Grown _) (by omega) _ (Grown.refl _) ?_ ck_enters ?_
    · intro W g i hi
      have bl := Blk.grown (unhide G2).2.2 g
      rw [Blk.cell bl]
      have : i = 0 ∨ i = 1 ∨ i = 2 ∨ i = 3 ∨ i = 4 ∨ i = 5 := by omega
      rcases this with rfl | rfl | rfl | rfl | rfl | rfl <;> rfl
    · intro i hi hb W g
      have bl := Blk.grown (unhide G2).2.1 g
      have gw := gtrans (unhide G2).1 g
      by_cases hi0 : i = 0
      · subst hi0
        exact (mCk1 N aa qa ro al ac ql qc rl rc tick gate rmin w.heap.size W bl).mono (fun e w' h => ⟨h.1, by rw [h.2]; exact g⟩)
      · have a0 := inB_iff.1 (hb 0 (by omega))
        have : i = 1 ∨ i = 2 ∨ i = 3 ∨ i = 4 ∨ i = 5 := by omega
        rcases this with rfl | rfl | rfl | rfl | rfl
        · obtain ⟨n, rfl⟩ : ∃ n : Nat, N = n := ⟨N.toNat, (Int.toNat_of_nonneg (Int.le_trans (by decide) a0.1)).symm⟩
          exact (mCk2 n aa qa ro al ac ql qc rl rc tick gate rmin w.heap.size W bl A ⟨by have := a0.1; omega, by have := a0.2; omega⟩ la (ha.grown gw)).mono (fun e w' h => ⟨h.1, gtrans g h.2⟩)
        · exact (mCk3 N aa qa ro al ac ql qc rl rc tick gate rmin w.heap.size W bl Q lq (hq.grown gw)).mono (fun e w' h => ⟨h.1, gtrans g h.2⟩)
        · exact (mCk4 N aa qa ro al ac ql qc rl rc tick gate rmin w.heap.size W bl).mono (fun e w' h => ⟨h.1, by rw [h.2]; exact g⟩)
        · exact (mCk5 N aa qa ro al ac ql qc rl rc tick gate rmin w.heap.size W bl).mono (fun e w' h => ⟨h.1, by rw [h.2]; exact g⟩)
        · exact (mCk6 N aa qa ro al ac ql qc rl rc tick gate rmin w.heap.size W bl X hl (hr.grown gw) (fun i hi => ⟨(hh i hi).1.grown gw, (hh i hi).2⟩)).mono (fun e w' h => ⟨h.1, gtrans g h.2⟩)
  rw [chk_all]
  obtain ⟨x, hx⟩ : ∃ x, allB 6 (ckB N al ql rl A Q tick gate rmin X) = x := ⟨_, rfl⟩
  rw [hx] at CA ⊢
  clear hx ha hq hr hh
  cases x with
  | true =>
    go_enter Try.func15, Try.ntmps15
    go_wp2_with fail
    refine (unhide CA).mono ?_
    rintro e w3 ⟨rfl, g3⟩
    have G3 := hide (gtrans (unhide G2).1 g3)
    clear CA g3 G2
    go_wp2
    go_ret
    exact ⟨rfl, unhide G3⟩
  | false =>
    go_enter Try.func15, Try.ntmps15
    go_wp2_with fail
    refine (unhide CA).mono ?_
    rintro e w3 ⟨rfl, g3⟩
    have G3 := hide (gtrans (unhide G2).1 g3)
    clear CA g3 G2
    go_wp2
    go_ret
    exact ⟨rfl, unhide G3⟩

theorem mCheckD (m : DV) (w : World) (h : m.good w) : Calls Try.prog 15 #[.agg m.cells] w fun e w' => e = .returned (.int .i64 (chkD m)) ∧ Grown w w' := by
  obtain ⟨hA, hQ, hr, hX, hf, hi, l1, l2, l3, l4⟩ := h
  rw [chkD_C]
  exact mCheck m.N m.A.ao m.Q.ao m.ro m.A.len m.A.cap m.Q.len m.Q.cap m.rl m.rc m.tick m.gate m.rmin m.A.Z m.Q.Z m.X (by omega) (by omega) (by omega) w hA.1 hQ.1 hr (fun i hi => ⟨(hX i hi).1.1, by have := l4 i hi; omega⟩)

end Go.Proofs.Ytpanfppnkgokdaa

/- Package model: Fits. -/
namespace Go.Proofs.Ytpanfppnkgokdaa
open Go.RowKit Go.Shelf Go.Proofs Go.Proofs.Wd
set_option linter.unusedVariables false
set_option linter.unusedSimpArgs false
set_option maxRecDepth 10000

theorem run_store_funcF (P : Program) (w : World) (a : Addr) (f : Fn) (x y : Array Value) (m : Mode) : (store a (.func f x y) m).run P w = stored P w a (.func f x y) m := run_store P w a _ m rfl
set_option maxRecDepth 20000 in
set_option maxHeartbeats 4000000 in
theorem mFit1 (N : Int) (aa qa ro : Option Addr) (al ac ql qc rl rc : Nat) (tick gate rmin : Int) (A Q : Nat → Int) (X : Nat → RV) (P : Nat) (la : al ≤ 1000000) (lq : ql ≤ 1000000) (hl : rl ≤ 1000000) (w : World) (bl : Blk P #[.int .i64 N, .slice aa al ac, .slice qa ql qc, .int .i64 tick, .int .i64 gate, .int .i64 rmin, .slice ro rl rc] 25 w) (ha : Row w aa al A) (hq : Row w qa ql Q) (hr : RVs w ro rl X) (hh : ∀ i, i < rl → Row w (X i).h.ao (X i).h.len (X i).h.Z ∧ (X i).h.len ≤ 1000000) :
    Calls Try.prog 43 #[.pointer (some ⟨P, 0, none⟩)] w fun e w' => e = .returned (.bool (allB 6 (ckB N al ql rl A Q tick gate rmin X))) ∧ Grown w w' := by
  have y0 : w.cell? ⟨P, 0, none⟩ = some (.int .i64 N) := Blk.cell bl 0
  have y1 : w.cell? ⟨P, 1, none⟩ = some (.slice aa al ac) := Blk.cell bl 1
  have y2 : w.cell? ⟨P, 2, none⟩ = some (.slice qa ql qc) := Blk.cell bl 2
  have y3 : w.cell? ⟨P, 3, none⟩ = some (.int .i64 tick) := Blk.cell bl 3
  have y4 : w.cell? ⟨P, 4, none⟩ = some (.int .i64 gate) := Blk.cell bl 4
  have y5 : w.cell? ⟨P, 5, none⟩ = some (.int .i64 rmin) := Blk.cell bl 5
  have y6 : w.cell? ⟨P, 6, none⟩ = some (.slice ro rl rc) := Blk.cell bl 6
  have C := hide (mCheck N aa qa ro al ac ql qc rl rc tick gate rmin A Q X la lq hl w ha hq hr hh)
  rw [chk_all] at C
  obtain ⟨x, hx⟩ : ∃ x, allB 6 (ckB N al ql rl A Q tick gate rmin X) = x := ⟨_, rfl⟩
  rw [hx] at C ⊢
  clear hx ha hq hr hh bl
  cases x with
  | true =>
    go_enter Try.func43, Try.ntmps43
    go_wp2_with fail
    refine (unhide C).mono ?_
    rintro e w3 ⟨rfl, g3⟩
    have G3 := hide g3
    clear C g3 y0 y1 y2 y3 y4 y5 y6
    go_wp2
    go_ret
    exact ⟨rfl, unhide G3⟩
  | false =>
    go_enter Try.func43, Try.ntmps43
    go_wp2_with fail
    refine (unhide C).mono ?_
    rintro e w3 ⟨rfl, g3⟩
    have G3 := hide g3
    clear C g3 y0 y1 y2 y3 y4 y5 y6
    go_wp2
    go_ret
    exact ⟨rfl, unhide G3⟩
set_option maxRecDepth 20000 in
set_option maxHeartbeats 4000000 in
theorem mFit2 (n : Nat) (aa qa ro : Option Addr) (al ac ql qc rl rc : Nat) (tick gate rmin : Int) (bt pass fail : Int) (flag : Bool) (xa pa : Option Addr) (xl xc pl pc : Nat) (hn : 1 ≤ n ∧ n ≤ 6) (P R : Nat) (w : World) (bl : Blk P #[.int .i64 (n : Int), .slice aa al ac, .slice qa ql qc, .int .i64 tick, .int .i64 gate, .int .i64 rmin, .slice ro rl rc] 25 w) (bb : Blk R #[.int .i64 bt, .slice xa xl xc, .slice pa pl pc, .bool flag, .int .i64 pass, .int .i64 fail] 27 w) :
    Calls Try.prog 44 #[.pointer (some ⟨R, 0, none⟩), .pointer (some ⟨P, 0, none⟩)] w fun e w' => e = .returned (.bool (decide (xl = n) && decide (pl = n * n))) ∧ w' = w := by
  have y0 : w.cell? ⟨P, 0, none⟩ = some (.int .i64 (n : Int)) := Blk.cell bl 0
  have b1 : w.cell? ⟨R, 1, none⟩ = some (.slice xa xl xc) := Blk.cell bb 1
  have b2 : w.cell? ⟨R, 2, none⟩ = some (.slice pa pl pc) := Blk.cell bb 2
  obtain ⟨nn, hnn⟩ : ∃ nn, n * n = nn := ⟨_, rfl⟩
  have n36 : nn ≤ 1000000 := by have : n * n ≤ 36 := Nat.mul_le_mul hn.2 hn.2; omega
  rw [hnn]
  have wn : wrap64 ((n : Int) * (n : Int)) = (nn : Int) := wrapP n n nn hnn n36
  clear hnn n36 hn bl bb
  by_cases h : xl = n
  · subst h
    rw [decide_eq_true rfl]
    have d : ((xl : Int) == (xl : Int)) = true := by simp
    by_cases h2 : pl = nn
    · subst h2
      rw [decide_eq_true rfl]
      have d2 : ((pl : Int) == (pl : Int)) = true := by simp
      go_enter Try.func44, Try.ntmps44
      go_wp2
      go_ret
      exact ⟨rfl, rfl⟩
    · rw [decide_eq_false h2]
      have d2 : ((pl : Int) == (nn : Int)) = false := bool_eqN _ _ h2
      go_enter Try.func44, Try.ntmps44
      go_wp2
      go_ret
      exact ⟨by simp [h2], rfl⟩
  · rw [decide_eq_false h]
    have d : ((xl : Int) == (n : Int)) = false := bool_eqN _ _ h
    go_enter Try.func44, Try.ntmps44
    go_wp2
    go_ret
    exact ⟨rfl, rfl⟩
set_option maxRecDepth 20000 in
set_option maxHeartbeats 4000000 in
theorem mFit3 (bt pass fail : Int) (flag : Bool) (xa pa : Option Addr) (xl xc pl pc : Nat) (R : Nat) (w : World) (bb : Blk R #[.int .i64 bt, .slice xa xl xc, .slice pa pl pc, .bool flag, .int .i64 pass, .int .i64 fail] 27 w) :
    Calls Try.prog 45 #[.pointer (some ⟨R, 0, none⟩)] w fun e w' => e = .returned (.bool (inB 0 1099511627776 bt && inB 0 1099511627776 pass && inB 0 1099511627776 fail)) ∧ w' = w := by
  have b0 : w.cell? ⟨R, 0, none⟩ = some (.int .i64 bt) := Blk.cell bb 0
  have b4 : w.cell? ⟨R, 4, none⟩ = some (.int .i64 pass) := Blk.cell bb 4
  have b5 : w.cell? ⟨R, 5, none⟩ = some (.int .i64 fail) := Blk.cell bb 5
  have C0 := hide (fun w => mWithin bt 0 1099511627776 w)
  have C1 := hide (fun w => mWithin pass 0 1099511627776 w)
  have C2 := hide (fun w => mWithin fail 0 1099511627776 w)
  obtain ⟨x, hx⟩ : ∃ x, inB 0 1099511627776 bt = x := ⟨_, rfl⟩
  obtain ⟨y, hy⟩ : ∃ y, inB 0 1099511627776 pass = y := ⟨_, rfl⟩
  obtain ⟨z, hz⟩ : ∃ z, inB 0 1099511627776 fail = z := ⟨_, rfl⟩
  rw [hx] at C0 ⊢
  rw [hy] at C1 ⊢
  rw [hz] at C2 ⊢
  clear hx hy hz bb
  cases x with
  | true =>
    cases y with
    | true =>
      go_enter Try.func45, Try.ntmps45
      go_wp2_with fail
      refine (unhide C0 _).mono ?_
      rintro e w1 ⟨rfl, e1⟩
      subst e1
      clear C0
      go_wp2_with fail
      refine (unhide C1 _).mono ?_
      rintro e w2 ⟨rfl, e2⟩
      subst e2
      clear C1
      go_wp2_with fail
      refine (unhide C2 _).mono ?_
      rintro e w3 ⟨rfl, e3⟩
      subst e3
      clear C2
      go_wp2
      go_ret
      exact ⟨by simp, rfl⟩
    | false =>
      go_enter Try.func45, Try.ntmps45
      go_wp2_with fail
      refine (unhide C0 _).mono ?_
      rintro e w1 ⟨rfl, e1⟩
      subst e1
      clear C0
      go_wp2_with fail
      refine (unhide C1 _).mono ?_
      rintro e w2 ⟨rfl, e2⟩
      subst e2
      clear C1
      go_wp2
      go_ret
      exact ⟨rfl, rfl⟩
  | false =>
    go_enter Try.func45, Try.ntmps45
    go_wp2_with fail
    refine (unhide C0 _).mono ?_
    rintro e w1 ⟨rfl, e1⟩
    subst e1
    clear C0
    go_wp2
    go_ret
    exact ⟨rfl, rfl⟩
set_option maxRecDepth 20000 in
set_option maxHeartbeats 4000000 in
theorem mFit4 (n : Nat) (aa qa ro : Option Addr) (al ac ql qc rl rc : Nat) (tick gate rmin : Int) (bt pass fail : Int) (flag : Bool) (xa pa : Option Addr) (xl xc pl pc : Nat) (hn : 1 ≤ n ∧ n ≤ 6) (X Pz : Nat → Int) (P R : Nat) (hx : xl ≤ 1000000) (hp : pl = n * n) (w : World) (bl : Blk P #[.int .i64 (n : Int), .slice aa al ac, .slice qa ql qc, .int .i64 tick, .int .i64 gate, .int .i64 rmin, .slice ro rl rc] 25 w) (bb : Blk R #[.int .i64 bt, .slice xa xl xc, .slice pa pl pc, .bool flag, .int .i64 pass, .int .i64 fail] 27 w) (rx : Row w xa xl X) (rp : Row w pa pl Pz) :
    Calls Try.prog 46 #[.pointer (some ⟨R, 0, none⟩), .pointer (some ⟨P, 0, none⟩)] w fun e w' => e = .returned (.bool (numB xl (xl : Int) (-9223372036854775807) 9223372036854775807 X && numB pl (pl : Int) (-9223372036854775807) 9223372036854775807 Pz && covB n Pz)) ∧ Grown w w' := by
  have b1 : w.cell? ⟨R, 1, none⟩ = some (.slice xa xl xc) := Blk.cell bb 1
  have n36 : n * n ≤ 36 := Nat.mul_le_mul hn.2 hn.2
  have B0 := hide (And.intro bl bb)
  have C0 := hide (mFixed xa xl xc X hx w rx)
  have C1 : Hid (∀ W, Grown w W → Calls Try.prog 47 #[.slice pa pl pc] W fun e w' => e = .returned (.bool (numB pl (pl : Int) (-9223372036854775807) 9223372036854775807 Pz)) ∧ Grown W w') := fun W g => mFixed pa pl pc Pz (by omega) W (rp.grown g)
  have C2 : Hid (∀ W, Grown w W → Calls Try.prog 48 #[.slice pa pl pc, .int .i64 n] W fun e w' => e = .returned (.bool (covB n Pz)) ∧ Grown W w') := fun W g => mCovariance pa pl pc Pz n hn hp W (rp.grown g)
  obtain ⟨x, hx⟩ : ∃ x, numB xl (xl : Int) (-9223372036854775807) 9223372036854775807 X = x := ⟨_, rfl⟩
  obtain ⟨y, hy⟩ : ∃ y, numB pl (pl : Int) (-9223372036854775807) 9223372036854775807 Pz = y := ⟨_, rfl⟩
  obtain ⟨z, hz⟩ : ∃ z, covB n Pz = z := ⟨_, rfl⟩
  rw [hx] at C0 ⊢
  rw [hy] at C1 ⊢
  rw [hz] at C2 ⊢
  clear hx hy hz bb bl rx rp n36 hp
  cases x with
  | true =>
    cases y with
    | true =>
      go_enter Try.func46, Try.ntmps46
      go_wp2_with fail
      refine (unhide C0).mono ?_
      rintro e w1 ⟨rfl, g1⟩
      have G1 := hide g1
      have B1 := hide (And.intro (Blk.grown (unhide B0).1 g1) (Blk.grown (unhide B0).2 g1))
      clear C0 g1 b1 B0
      have c2 : w1.cell? ⟨R, 2, none⟩ = some (.slice pa pl pc) := Blk.cell (unhide B1).2 2
      go_wp2_with fail
      refine (unhide C1 _ (unhide G1)).mono ?_
      rintro e w2 ⟨rfl, g2⟩
      have G2 := hide (gtrans (unhide G1) g2)
      have B2 := hide (And.intro (Blk.grown (unhide B1).1 g2) (Blk.grown (unhide B1).2 g2))
      clear C1 g2 c2 B1 G1
      have d2 : w2.cell? ⟨R, 2, none⟩ = some (.slice pa pl pc) := Blk.cell (unhide B2).2 2
      have m0 : w2.cell? ⟨P, 0, none⟩ = some (.int .i64 (n : Int)) := Blk.cell (unhide B2).1 0
      go_wp2_with fail
      refine (unhide C2 _ (unhide G2)).mono ?_
      rintro e w3 ⟨rfl, g3⟩
      have G3 := hide (gtrans (unhide G2) g3)
      clear C2 g3 d2 m0 B2 G2
      go_wp2
      go_ret
      exact ⟨by simp, unhide G3⟩
    | false =>
      go_enter Try.func46, Try.ntmps46
      go_wp2_with fail
      refine (unhide C0).mono ?_
      rintro e w1 ⟨rfl, g1⟩
      have G1 := hide g1
      have B1 := hide (And.intro (Blk.grown (unhide B0).1 g1) (Blk.grown (unhide B0).2 g1))
      clear C0 g1 b1 B0
      have c2 : w1.cell? ⟨R, 2, none⟩ = some (.slice pa pl pc) := Blk.cell (unhide B1).2 2
      go_wp2_with fail
      refine (unhide C1 _ (unhide G1)).mono ?_
      rintro e w2 ⟨rfl, g2⟩
      have G2 := hide (gtrans (unhide G1) g2)
      have B2 := hide (And.intro (Blk.grown (unhide B1).1 g2) (Blk.grown (unhide B1).2 g2))
      clear C1 g2 c2 B1 G1
      have d2 : w2.cell? ⟨R, 2, none⟩ = some (.slice pa pl pc) := Blk.cell (unhide B2).2 2
      have m0 : w2.cell? ⟨P, 0, none⟩ = some (.int .i64 (n : Int)) := Blk.cell (unhide B2).1 0
      go_wp2
      go_ret
      exact ⟨rfl, unhide G2⟩
  | false =>
    go_enter Try.func46, Try.ntmps46
    go_wp2_with fail
    refine (unhide C0).mono ?_
    rintro e w1 ⟨rfl, g1⟩
    have G1 := hide g1
    have B1 := hide (And.intro (Blk.grown (unhide B0).1 g1) (Blk.grown (unhide B0).2 g1))
    clear C0 g1 b1 B0
    have c2 : w1.cell? ⟨R, 2, none⟩ = some (.slice pa pl pc) := Blk.cell (unhide B1).2 2
    go_wp2
    go_ret
    exact ⟨rfl, unhide G1⟩
/-- What Fits asks. -/
noncomputable def ftB (N : Int) (al ql rl : Nat) (A Q : Nat → Int) (tick gate rmin : Int) (X : Nat → RV) (bt pass fail : Int) (xl pl : Nat) (Xz Pz : Nat → Int) : Nat → Bool
  | 0 => allB 6 (ckB N al ql rl A Q tick gate rmin X)
  | 1 => decide (xl = N.toNat) && decide (pl = N.toNat * N.toNat)
  | 2 => inB 0 1099511627776 bt && inB 0 1099511627776 pass && inB 0 1099511627776 fail
  | _ => numB xl (xl : Int) (-9223372036854775807) 9223372036854775807 Xz && numB pl (pl : Int) (-9223372036854775807) 9223372036854775807 Pz && covB N.toNat Pz
/-- Which of the four says no first. -/
def firstB (b : Nat → Bool) : Int := if b 0 then (if b 1 then (if b 2 then (if b 3 then 0 else 5) else 4) else 3) else 2
theorem firstB_at {b : Nat → Bool} {k : Nat} (hk : k < 4) (h : ∀ j, j < k → b j = true) (h2 : b k = false) : firstB b = ((k + 2 : Nat) : Int) := by
  unfold firstB
  have : k = 0 ∨ k = 1 ∨ k = 2 ∨ k = 3 := by omega
  rcases this with rfl | rfl | rfl | rfl
  · rw [h2]; rfl
  · rw [h 0 (by omega), h2]; rfl
  · rw [h 0 (by omega), h 1 (by omega), h2]; rfl
  · rw [h 0 (by omega), h 1 (by omega), h 2 (by omega), h2]; rfl
theorem firstB_no {b : Nat → Bool} (h : ∀ j, j < 4 → b j = true) : firstB b = 0 := by
  unfold firstB
  rw [h 0 (by omega), h 1 (by omega), h 2 (by omega), h 3 (by omega)]; rfl
def ftF (i : Nat) : Nat := [43, 44, 45, 46].getD i 0
def ftC (P R : Nat) (i : Nat) : Array Value := [#[.pointer (some ⟨P, 0, none⟩)], #[.pointer (some ⟨R, 0, none⟩), .pointer (some ⟨P, 0, none⟩)], #[.pointer (some ⟨R, 0, none⟩)], #[.pointer (some ⟨R, 0, none⟩), .pointer (some ⟨P, 0, none⟩)]].getD i #[]
theorem ft_enters : ∀ i, i < 4 → ∀ args w, (callFunc (ftF i) args).run Try.prog w = .ok (.enter (ftF i) args) w := fun i hi => by
  have : i = 0 ∨ i = 1 ∨ i = 2 ∨ i = 3 := by omega
  rcases this with rfl | rfl | rfl | rfl
  · exact enters_of Try.func43 (by kernel_rfl) rfl
  · exact enters_of Try.func44 (by kernel_rfl) rfl
  · exact enters_of Try.func45 (by kernel_rfl) rfl
  · exact enters_of Try.func46 (by kernel_rfl) rfl
section
attribute [local go_sem] run_store_funcF
set_option maxRecDepth 20000 in
set_option maxHeartbeats 8000000 in
theorem mFits (N : Int) (aa qa ro : Option Addr) (al ac ql qc rl rc : Nat) (tick gate rmin : Int) (A Q : Nat → Int) (X : Nat → RV) (bt pass fail : Int) (flag : Bool) (xa pa : Option Addr) (xl xc pl pc : Nat) (Xz Pz : Nat → Int) (la : al ≤ 1000000) (lq : ql ≤ 1000000) (hl : rl ≤ 1000000) (lx : xl ≤ 1000000) (lp : pl ≤ 1000000) (w : World) (ha : Row w aa al A) (hq : Row w qa ql Q) (hr : RVs w ro rl X) (hh : ∀ i, i < rl → Row w (X i).h.ao (X i).h.len (X i).h.Z ∧ (X i).h.len ≤ 1000000) (hx : Row w xa xl Xz) (hp : Row w pa pl Pz) :
    Calls Try.prog 17 #[.agg #[.int .i64 N, .slice aa al ac, .slice qa ql qc, .int .i64 tick, .int .i64 gate, .int .i64 rmin, .slice ro rl rc], .agg #[.int .i64 bt, .slice xa xl xc, .slice pa pl pc, .bool flag, .int .i64 pass, .int .i64 fail]] w fun e w' => e = .returned (.int .i64 (firstB (ftB N al ql rl A Q tick gate rmin X bt pass fail xl pl Xz Pz))) ∧ Grown w w' := by
  have G3 : Hid (Grown w (((w.alloc (.cells #[.int .i64 N, .slice aa al ac, .slice qa ql qc, .int .i64 tick, .int .i64 gate, .int .i64 rmin, .slice ro rl rc] 25)).alloc (.cells #[.int .i64 bt, .slice xa xl xc, .slice pa pl pc, .bool flag, .int .i64 pass, .int .i64 fail] 27)).alloc (.cells #[.func (.func 43) #[] #[.pointer (some ⟨w.heap.size, 0, none⟩)], .int .i64 2, .func (.func 44) #[] #[.pointer (some ⟨w.heap.size + 1, 0, none⟩), .pointer (some ⟨w.heap.size, 0, none⟩)], .int .i64 3, .func (.func 45) #[] #[.pointer (some ⟨w.heap.size + 1, 0, none⟩)], .int .i64 4, .func (.func 46) #[] #[.pointer (some ⟨w.heap.size + 1, 0, none⟩), .pointer (some ⟨w.heap.size, 0, none⟩)], .int .i64 5] 59)) ∧ Blk w.heap.size #[.int .i64 N, .slice aa al ac, .slice qa ql qc, .int .i64 tick, .int .i64 gate, .int .i64 rmin, .slice ro rl rc] 25 (((w.alloc (.cells #[.int .i64 N, .slice aa al ac, .slice qa ql qc, .int .i64 tick, .int .i64 gate, .int .i64 rmin, .slice ro rl rc] 25)).alloc (.cells #[.int .i64 bt, .slice xa xl xc, .slice pa pl pc, .bool flag, .int .i64 pass, .int .i64 fail] 27)).alloc (.cells #[.func (.func 43) #[] #[.pointer (some ⟨w.heap.size, 0, none⟩)], .int .i64 2, .func (.func 44) #[] #[.pointer (some ⟨w.heap.size + 1, 0, none⟩), .pointer (some ⟨w.heap.size, 0, none⟩)], .int .i64 3, .func (.func 45) #[] #[.pointer (some ⟨w.heap.size + 1, 0, none⟩)], .int .i64 4, .func (.func 46) #[] #[.pointer (some ⟨w.heap.size + 1, 0, none⟩), .pointer (some ⟨w.heap.size, 0, none⟩)], .int .i64 5] 59)) ∧ Blk (w.heap.size + 1) #[.int .i64 bt, .slice xa xl xc, .slice pa pl pc, .bool flag, .int .i64 pass, .int .i64 fail] 27 (((w.alloc (.cells #[.int .i64 N, .slice aa al ac, .slice qa ql qc, .int .i64 tick, .int .i64 gate, .int .i64 rmin, .slice ro rl rc] 25)).alloc (.cells #[.int .i64 bt, .slice xa xl xc, .slice pa pl pc, .bool flag, .int .i64 pass, .int .i64 fail] 27)).alloc (.cells #[.func (.func 43) #[] #[.pointer (some ⟨w.heap.size, 0, none⟩)], .int .i64 2, .func (.func 44) #[] #[.pointer (some ⟨w.heap.size + 1, 0, none⟩), .pointer (some ⟨w.heap.size, 0, none⟩)], .int .i64 3, .func (.func 45) #[] #[.pointer (some ⟨w.heap.size + 1, 0, none⟩)], .int .i64 4, .func (.func 46) #[] #[.pointer (some ⟨w.heap.size + 1, 0, none⟩), .pointer (some ⟨w.heap.size, 0, none⟩)], .int .i64 5] 59)) ∧ Blk (w.heap.size + 2) #[.func (.func 43) #[] #[.pointer (some ⟨w.heap.size, 0, none⟩)], .int .i64 2, .func (.func 44) #[] #[.pointer (some ⟨w.heap.size + 1, 0, none⟩), .pointer (some ⟨w.heap.size, 0, none⟩)], .int .i64 3, .func (.func 45) #[] #[.pointer (some ⟨w.heap.size + 1, 0, none⟩)], .int .i64 4, .func (.func 46) #[] #[.pointer (some ⟨w.heap.size + 1, 0, none⟩), .pointer (some ⟨w.heap.size, 0, none⟩)], .int .i64 5] 59 (((w.alloc (.cells #[.int .i64 N, .slice aa al ac, .slice qa ql qc, .int .i64 tick, .int .i64 gate, .int .i64 rmin, .slice ro rl rc] 25)).alloc (.cells #[.int .i64 bt, .slice xa xl xc, .slice pa pl pc, .bool flag, .int .i64 pass, .int .i64 fail] 27)).alloc (.cells #[.func (.func 43) #[] #[.pointer (some ⟨w.heap.size, 0, none⟩)], .int .i64 2, .func (.func 44) #[] #[.pointer (some ⟨w.heap.size + 1, 0, none⟩), .pointer (some ⟨w.heap.size, 0, none⟩)], .int .i64 3, .func (.func 45) #[] #[.pointer (some ⟨w.heap.size + 1, 0, none⟩)], .int .i64 4, .func (.func 46) #[] #[.pointer (some ⟨w.heap.size + 1, 0, none⟩), .pointer (some ⟨w.heap.size, 0, none⟩)], .int .i64 5] 59))) := by
    have h := Blk.new (w.alloc (.cells #[.int .i64 N, .slice aa al ac, .slice qa ql qc, .int .i64 tick, .int .i64 gate, .int .i64 rmin, .slice ro rl rc] 25)) #[.int .i64 bt, .slice xa xl xc, .slice pa pl pc, .bool flag, .int .i64 pass, .int .i64 fail] 27
    rw [show (w.alloc (.cells #[.int .i64 N, .slice aa al ac, .slice qa ql qc, .int .i64 tick, .int .i64 gate, .int .i64 rmin, .slice ro rl rc] 25)).heap.size = w.heap.size + 1 by simp] at h
    have h2 := Blk.new ((w.alloc (.cells #[.int .i64 N, .slice aa al ac, .slice qa ql qc, .int .i64 tick, .int .i64 gate, .int .i64 rmin, .slice ro rl rc] 25)).alloc (.cells #[.int .i64 bt, .slice xa xl xc, .slice pa pl pc, .bool flag, .int .i64 pass, .int .i64 fail] 27)) #[.func (.func 43) #[] #[.pointer (some ⟨w.heap.size, 0, none⟩)], .int .i64 2, .func (.func 44) #[] #[.pointer (some ⟨w.heap.size + 1, 0, none⟩), .pointer (some ⟨w.heap.size, 0, none⟩)], .int .i64 3, .func (.func 45) #[] #[.pointer (some ⟨w.heap.size + 1, 0, none⟩)], .int .i64 4, .func (.func 46) #[] #[.pointer (some ⟨w.heap.size + 1, 0, none⟩), .pointer (some ⟨w.heap.size, 0, none⟩)], .int .i64 5] 59
    rw [show ((w.alloc (.cells #[.int .i64 N, .slice aa al ac, .slice qa ql qc, .int .i64 tick, .int .i64 gate, .int .i64 rmin, .slice ro rl rc] 25)).alloc (.cells #[.int .i64 bt, .slice xa xl xc, .slice pa pl pc, .bool flag, .int .i64 pass, .int .i64 fail] 27)).heap.size = w.heap.size + 2 by simp] at h2
    exact ⟨(((Grown.refl _).alloc _ _).alloc _ _).alloc _ _, Blk.grown (Blk.new _ _ _) (((Grown.refl _).alloc _ _).alloc _ _), Blk.grown h ((Grown.refl _).alloc _ _), h2⟩
  generalize hb : ftB N al ql rl A Q tick gate rmin X bt pass fail xl pl Xz Pz = b at *
  have CC : Hid (∀ i, i < 4 → (∀ j, j < i → b j = true) → ∀ W, Grown (((w.alloc (.cells #[.int .i64 N, .slice aa al ac, .slice qa ql qc, .int .i64 tick, .int .i64 gate, .int .i64 rmin, .slice ro rl rc] 25)).alloc (.cells #[.int .i64 bt, .slice xa xl xc, .slice pa pl pc, .bool flag, .int .i64 pass, .int .i64 fail] 27)).alloc (.cells #[.func (.func 43) #[] #[.pointer (some ⟨w.heap.size, 0, none⟩)], .int .i64 2, .func (.func 44) #[] #[.pointer (some ⟨w.heap.size + 1, 0, none⟩), .pointer (some ⟨w.heap.size, 0, none⟩)], .int .i64 3, .func (.func 45) #[] #[.pointer (some ⟨w.heap.size + 1, 0, none⟩)], .int .i64 4, .func (.func 46) #[] #[.pointer (some ⟨w.heap.size + 1, 0, none⟩), .pointer (some ⟨w.heap.size, 0, none⟩)], .int .i64 5] 59)) W → Calls Try.prog (ftF i) (ftC w.heap.size (w.heap.size + 1) i) W fun e w' => e = .returned (.bool (b i)) ∧ Grown W w') := by
    intro i hi hbb W g
    have bl := Blk.grown (unhide G3).2.1 g
    have bb := Blk.grown (unhide G3).2.2.1 g
    have gw := gtrans (unhide G3).1 g
    by_cases hi0 : i = 0
    · subst hi0 hb
      exact mFit1 N aa qa ro al ac ql qc rl rc tick gate rmin A Q X w.heap.size la lq hl W bl (ha.grown gw) (hq.grown gw) (hr.grown gw) (fun i hi => ⟨(hh i hi).1.grown gw, (hh i hi).2⟩)
    · have a0 := hbb 0 (by omega)
      subst hb
      have a1 := ((ck_iff N al ql rl A Q tick gate rmin X).1 a0).1
      obtain ⟨n, rfl⟩ : ∃ n : Nat, N = n := ⟨N.toNat, (Int.toNat_of_nonneg (Int.le_trans (by decide) a1.1)).symm⟩
      have hn : 1 ≤ n ∧ n ≤ 6 := ⟨by have := a1.1; omega, by have := a1.2; omega⟩
      have : i = 1 ∨ i = 2 ∨ i = 3 := by omega
      rcases this with rfl | rfl | rfl
      · exact (mFit2 n aa qa ro al ac ql qc rl rc tick gate rmin bt pass fail flag xa pa xl xc pl pc hn w.heap.size (w.heap.size + 1) W bl bb).mono (fun e w' h => ⟨h.1, by rw [h.2]; exact Grown.refl _⟩)
      · exact (mFit3 bt pass fail flag xa pa xl xc pl pc (w.heap.size + 1) W bb).mono (fun e w' h => ⟨h.1, by rw [h.2]; exact Grown.refl _⟩)
      · have a2 := Bool.and_eq_true_iff.1 (hbb 1 (by omega))
        exact mFit4 n aa qa ro al ac ql qc rl rc tick gate rmin bt pass fail flag xa pa xl xc pl pc hn Xz Pz w.heap.size (w.heap.size + 1) lx (of_decide_eq_true a2.2) W bl bb (hx.grown gw) (hp.grown gw)
  clear hb ha hq hr hh hx hp
  go_enter Try.func17, Try.ntmps17
  go_wp2_with fail
  generalize (((w.alloc (.cells #[.int .i64 N, .slice aa al ac, .slice qa ql qc, .int .i64 tick, .int .i64 gate, .int .i64 rmin, .slice ro rl rc] 25)).alloc (.cells #[.int .i64 bt, .slice xa xl xc, .slice pa pl pc, .bool flag, .int .i64 pass, .int .i64 fail] 27)).alloc (.cells #[.func (.func 43) #[] #[.pointer (some ⟨w.heap.size, 0, none⟩)], .int .i64 2, .func (.func 44) #[] #[.pointer (some ⟨w.heap.size + 1, 0, none⟩), .pointer (some ⟨w.heap.size, 0, none⟩)], .int .i64 3, .func (.func 45) #[] #[.pointer (some ⟨w.heap.size + 1, 0, none⟩)], .int .i64 4, .func (.func 46) #[] #[.pointer (some ⟨w.heap.size + 1, 0, none⟩), .pointer (some ⟨w.heap.size, 0, none⟩)], .int .i64 5] 59)) = w3 at *
  go_loopw [17, 6] (fun i _ wr => ∃ k : Nat, k ≤ 4 ∧ i = .int .i64 k ∧ Hid ((∀ j, j < k → b j = true) ∧ Grown w3 wr)) (fun i _ _ => 4 - (intOf i).toNat)
  case atStart => exact ⟨0, Nat.zero_le _, rfl, fun j hj => absurd hj (Nat.not_lt_zero _), Grown.refl _⟩
  case round =>
    obtain ⟨k, hk, rfl, HI⟩ := hrel
    by_cases hlt : k < 4
    · have i0 : (0 : Int) ≤ (k : Int) := Int.natCast_nonneg _
      have i1 : (k : Int) < 4 := by omega
      have c0 : wr.cell? ⟨w.heap.size + 2, k * 2, none⟩ = some (.func (.func (ftF k)) #[] (ftC w.heap.size (w.heap.size + 1) k)) := by
        rw [Blk.cell (Blk.grown (unhide G3).2.2.2 (unhide HI).2)]
        have : k = 0 ∨ k = 1 ∨ k = 2 ∨ k = 3 := by omega
        rcases this with rfl | rfl | rfl | rfl <;> rfl
      have c1 : wr.cell? ⟨w.heap.size + 2, k * 2 + 1, none⟩ = some (.int .i64 ((k + 2 : Nat) : Int)) := by
        rw [Blk.cell (Blk.grown (unhide G3).2.2.2 (unhide HI).2)]
        have : k = 0 ∨ k = 1 ∨ k = 2 ∨ k = 3 := by omega
        rcases this with rfl | rfl | rfl | rfl <;> rfl
      have CK := hide (unhide CC k hlt (unhide HI).1)
      have eF := ft_enters k hlt
      obtain ⟨f, hf⟩ : ∃ f, ftF k = f := ⟨_, rfl⟩
      obtain ⟨cp, hcp⟩ : ∃ cp, ftC w.heap.size (w.heap.size + 1) k = cp := ⟨_, rfl⟩
      obtain ⟨er, her⟩ : ∃ er : Int, ((k + 2 : Nat) : Int) = er := ⟨_, rfl⟩
      rw [hf] at c0 CK eF
      rw [hcp] at c0 CK
      rw [her] at c1
      obtain ⟨x, hx⟩ : ∃ x, b k = x := ⟨_, rfl⟩
      rw [hx] at CK
      have HX := hide hx
      have HE := hide her
      clear hf hx hcp her
      have S2 : Hid (Grown w3 (wr.alloc (.cells #[.func (.func f) #[] cp, .int .i64 er] 59)) ∧ Blk wr.heap.size #[.func (.func f) #[] cp, .int .i64 er] 59 (wr.alloc (.cells #[.func (.func f) #[] cp, .int .i64 er] 59))) := ⟨gtrans (unhide HI).2 ((Grown.refl _).alloc _ _), Blk.new _ _ _⟩
      cases x with
      | true =>
        have H2 : Hid (∀ j, j < k + 1 → b j = true) := fun j hj => by
          rcases Nat.lt_or_ge j k with h1 | h1
          · exact (unhide HI).1 j h1
          · rw [show j = k from Nat.le_antisymm (Nat.le_of_lt_succ hj) h1]; exact unhide HX
        clear HI HX HE
        go_wp2_with fail
        generalize hw2 : (wr.alloc (.cells #[.func (.func f) #[] cp, .int .i64 er] 59)) = w2 at *
        refine (unhide CK _ (unhide S2).1).mono ?_
        rintro e w4 ⟨rfl, g4⟩
        have S4 := hide (And.intro (gtrans (unhide S2).1 g4) (Blk.grown (unhide S2).2 g4))
        have r1 : w4.cell? ⟨wr.heap.size, 1, none⟩ = some (.int .i64 er) := Blk.cell (unhide S4).2 1
        clear CK g4 S2 hw2 c0 c1 eF
        go_wp2
        go_roundw
        case rel => exact ⟨k + 1, hlt, by go_num, unhide H2, (unhide S4).1⟩
        case measure => simp [intOf]; omega
      | false =>
        have H2 : Hid (firstB b = er) := (firstB_at hlt (unhide HI).1 (unhide HX)).trans (unhide HE)
        clear HI HX HE
        go_wp2_with fail
        generalize hw2 : (wr.alloc (.cells #[.func (.func f) #[] cp, .int .i64 er] 59)) = w2 at *
        refine (unhide CK _ (unhide S2).1).mono ?_
        rintro e w4 ⟨rfl, g4⟩
        have S4 := hide (And.intro (gtrans (unhide S2).1 g4) (Blk.grown (unhide S2).2 g4))
        have r1 : w4.cell? ⟨wr.heap.size, 1, none⟩ = some (.int .i64 er) := Blk.cell (unhide S4).2 1
        clear CK g4 S2 hw2 c0 c1 eF
        go_wp2
        go_ret
        exact ⟨(by rw [unhide H2]; rfl), gtrans (unhide G3).1 (unhide S4).1⟩
    · obtain rfl : k = 4 := by omega
      have H2 : Hid (firstB b = 0 ∧ Grown w3 wr) := ⟨firstB_no (unhide HI).1, (unhide HI).2⟩
      clear HI
      go_wp2
      go_ret
      exact ⟨(by rw [(unhide H2).1]; rfl), gtrans (unhide G3).1 (unhide H2).2⟩
end

end Go.Proofs.Ytpanfppnkgokdaa

/- Package model: Fits, as the document has it. -/
namespace Go.Proofs.Ytpanfppnkgokdaa
open Go.RowKit Go.Shelf Go.Proofs.Wd
set_option linter.unusedVariables false
set_option linter.unusedSimpArgs false
set_option maxRecDepth 10000

theorem covB_iff {n : Nat} {P : Nat → Int} : covB n P = true ↔ covP n P := ⟨fun h => by classical exact of_decide_eq_true h, covB_yes⟩
theorem form_iff {n xl pl : Nat} {X P : Nat → Int} (hx : xl = n) (hp : pl = n * n) (iX : ∀ i, i < xl → I64 (X i)) (iP : ∀ i, i < pl → I64 (P i)) :
    formB n X P ↔ (numP xl (xl : Int) (-9223372036854775807) 9223372036854775807 X ∧ numP pl (pl : Int) (-9223372036854775807) 9223372036854775807 P) ∧ covP n P := by
  subst hx hp
  constructor
  · intro h
    refine ⟨⟨⟨rfl, fun i hi => ⟨(h i hi).1, Int.le_of_lt_add_one (iX i hi).2⟩⟩, rfl, fun p hp => ⟨?_, Int.le_of_lt_add_one (iP p hp).2⟩⟩, fun p hp => ?_⟩
    · have a := Nat.div_lt_of_lt_mul hp
      have b := Nat.mod_lt p (Nat.lt_of_le_of_lt (Nat.zero_le _) a)
      have c := ((h _ a).2.2 _ b).1
      rw [at_div] at c
      exact c
    · have a := Nat.div_lt_of_lt_mul hp
      have b := Nat.mod_lt p (Nat.lt_of_le_of_lt (Nat.zero_le _) a)
      have c := ((h _ a).2.2 _ b).2
      rw [at_div] at c
      refine ⟨c, fun e => ?_⟩
      have d := (h _ a).2.1
      have e2 : p / xl * xl + p / xl = p := by
        have := at_div p xl
        rw [← e] at this
        exact this
      rw [e2] at d
      exact d
  · rintro ⟨⟨⟨_, h1⟩, _, h2⟩, h3⟩ i hi
    refine ⟨(h1 i hi).1, ?_, fun k hk => ⟨(h2 _ (at_lt i k xl hi hk)).1, ?_⟩⟩
    · have c := (h3 _ (at_lt i i xl hi hi)).2
      rw [div_at i i xl hi, mod_at i i xl hi] at c
      exact c rfl
    · have c := (h3 _ (at_lt i k xl hi hk)).1
      rw [div_at i k xl hk, mod_at i k xl hk] at c
      exact c
theorem fit_first (m : DV) (b : BV) (hb : (∀ i, i < b.x.len → I64 (b.x.Z i)) ∧ ∀ i, i < b.p.len → I64 (b.p.Z i)) : fitD m b = firstB (ftB m.N m.A.len m.Q.len m.rl m.A.Z m.Q.Z m.tick m.gate m.rmin m.X b.at' b.pass b.fail b.x.len b.p.len b.x.Z b.p.Z) := by
  have e0 : allB 6 (ckB m.N m.A.len m.Q.len m.rl m.A.Z m.Q.Z m.tick m.gate m.rmin m.X) = true ↔ okD m := ck_iff ..
  unfold fitD firstB
  show _ = if allB 6 (ckB m.N m.A.len m.Q.len m.rl m.A.Z m.Q.Z m.tick m.gate m.rmin m.X) then _ else _
  by_cases h0 : okD m
  · rw [if_pos h0, e0.2 h0, if_pos rfl]
    have hN : ((m.N.toNat : Nat) : Int) = m.N := Int.toNat_of_nonneg (Int.le_trans (by decide) h0.1.1)
    have e1 : (decide (b.x.len = m.N.toNat) && decide (b.p.len = m.N.toNat * m.N.toNat)) = true ↔ sizeB m b := by
      rw [Bool.and_eq_true_iff, decide_eq_true_iff, decide_eq_true_iff]
      unfold sizeB
      constructor
      · rintro ⟨a, c⟩
        exact ⟨by rw [a, hN], by rw [c, Int.natCast_mul, hN]⟩
      · rintro ⟨a, c⟩
        refine ⟨Int.ofNat.inj (show (b.x.len : Int) = (m.N.toNat : Int) by rw [a, hN]), Int.ofNat.inj (show (b.p.len : Int) = ((m.N.toNat * m.N.toNat : Nat) : Int) by rw [c, Int.natCast_mul, hN])⟩
    show _ = if (decide (b.x.len = m.N.toNat) && decide (b.p.len = m.N.toNat * m.N.toNat)) = true then _ else _
    by_cases h1 : sizeB m b
    · rw [if_pos h1, if_pos (e1.2 h1)]
      have e2 : (inB 0 1099511627776 b.at' && inB 0 1099511627776 b.pass && inB 0 1099511627776 b.fail) = true ↔ spanB b := by
        rw [Bool.and_eq_true_iff, Bool.and_eq_true_iff, inB_iff, inB_iff, inB_iff]
        exact ⟨fun ⟨⟨a, c⟩, d⟩ => ⟨a, c, d⟩, fun ⟨a, c, d⟩ => ⟨⟨a, c⟩, d⟩⟩
      show _ = if (inB 0 1099511627776 b.at' && inB 0 1099511627776 b.pass && inB 0 1099511627776 b.fail) = true then _ else _
      by_cases h2 : spanB b
      · rw [if_pos h2, if_pos (e2.2 h2)]
        have h1' := Bool.and_eq_true_iff.1 (e1.2 h1)
        have e3 : (numB b.x.len (b.x.len : Int) (-9223372036854775807) 9223372036854775807 b.x.Z && numB b.p.len (b.p.len : Int) (-9223372036854775807) 9223372036854775807 b.p.Z && covB m.N.toNat b.p.Z) = true ↔ formB m.N.toNat b.x.Z b.p.Z := by
          rw [Bool.and_eq_true_iff, Bool.and_eq_true_iff, numB_iff, numB_iff, covB_iff, form_iff (of_decide_eq_true h1'.1) (of_decide_eq_true h1'.2) hb.1 hb.2]
        show _ = if (numB b.x.len (b.x.len : Int) (-9223372036854775807) 9223372036854775807 b.x.Z && numB b.p.len (b.p.len : Int) (-9223372036854775807) 9223372036854775807 b.p.Z && covB m.N.toNat b.p.Z) = true then _ else _
        by_cases h3 : formB m.N.toNat b.x.Z b.p.Z
        · rw [if_pos h3, if_pos (e3.2 h3)]
        · rw [if_neg h3, if_neg (fun h => h3 (e3.1 h))]
      · rw [if_neg h2, if_neg (fun h => h2 (e2.1 h))]
    · rw [if_neg h1, if_neg (fun h => h1 (e1.1 h))]
  · rw [if_neg h0, if_neg (fun h => h0 (e0.1 h))]
theorem mFitsD (m : DV) (b : BV) (w : World) (h : m.good w) (hb : b.good w) : Calls Try.prog 17 #[.agg m.cells, .agg b.cells] w fun e w' => e = .returned (.int .i64 (fitD m b)) ∧ Grown w w' := by
  obtain ⟨hA, hQ, hr, hX, hf, hi, l1, l2, l3, l4⟩ := h
  obtain ⟨hx, hp, hi2, l5, l6⟩ := hb
  rw [fit_first m b ⟨hx.2.2, hp.2.2⟩]
  exact mFits m.N m.A.ao m.Q.ao m.ro m.A.len m.A.cap m.Q.len m.Q.cap m.rl m.rc m.tick m.gate m.rmin m.A.Z m.Q.Z m.X b.at' b.pass b.fail b.flag b.x.ao b.p.ao b.x.len b.x.cap b.p.len b.p.cap b.x.Z b.p.Z (by omega) (by omega) (by omega) (by omega) (by omega) w hA.1 hQ.1 hr (fun i hi => ⟨(hX i hi).1.1, by have := l4 i hi; omega⟩) hx.1 hp.1
theorem pCheck : PCheck := fun m w h => (mCheckD m w h).mono (fun e w' h => ⟨h.1, Kp.of h.2⟩)
theorem pFits : PFits := fun m b w h hb => (mFitsD m b w h hb).mono (fun e w' h => ⟨h.1, Kp.of h.2⟩)

end Go.Proofs.Ytpanfppnkgokdaa

/- Package model: the iterator over a sensor's rows. -/
namespace Go.Proofs.Ytpanfppnkgokdaa
open Go.RowKit Go.Shelf Go.Proofs Go.Proofs.Wd
set_option linter.unusedVariables false
set_option linter.unusedSimpArgs false
set_option maxRecDepth 10000

theorem KC.cellR {D : Nat → Prop} {W W' : World} (h : KC D W W') {b o : Nat} {v : Value} (hc : W.cell? ⟨b, o, none⟩ = some v) (hD : ¬ D b) : W'.cell? ⟨b, o, none⟩ = some v := by
  obtain ⟨x, hx, hi⟩ := cells_of_cell hc
  cases x with
  | cells cs t fr => exact (World.cell?_of_block ((h.1 b cs t fr hD hx).trans hx.symm)).trans hc
  | _ => cases hi
theorem KC.row {D : Nat → Prop} {W W' : World} (h : KC D W W') {ao : Option Addr} {n : Nat} {Z : Nat → Int} (hr : Row W ao n Z) (hD : ∀ b o, ao = some ⟨b, o, none⟩ → 0 < n → ¬ D b) : Row W' ao n Z := by
  rcases hr with e | ⟨b, o, rfl, hc⟩
  · exact Or.inl e
  · exact Or.inr ⟨b, o, rfl, fun i hi => h.cellR (hc i hi) (hD b o rfl (by omega))⟩
theorem KC.rvs {D : Nat → Prop} {W W' : World} (h : KC D W W') {ao : Option Addr} {n : Nat} {X : Nat → RV} (hr : RVs W ao n X) (hD : ∀ b o, ao = some ⟨b, o, none⟩ → 0 < n → ¬ D b) : RVs W' ao n X := by
  rcases hr with e | ⟨b, o, rfl, hc⟩
  · exact Or.inl e
  · refine Or.inr ⟨b, o, rfl, fun i hi j hj => ?_⟩
    have := hc i hi j hj
    obtain ⟨v, hv⟩ : ∃ v, (X i).cells[j]? = some v := ⟨_, Array.getElem?_eq_getElem (by show j < 3; exact hj)⟩
    rw [hv] at this ⊢
    exact h.cellR this (hD b o rfl (by omega))
/-- A sensor's rows, each with its number. -/
def sq (X : Nat → RV) (s : Int) (k : Nat) : List (RV × Nat) := (seenR X s k).zipIdx
theorem sq_len (X : Nat → RV) (s : Int) (k : Nat) : (sq X s k).length = (seenR X s k).length := List.length_zipIdx
theorem sq_yes {X : Nat → RV} {s : Int} {k : Nat} (h : (X k).s = s) : sq X s (k + 1) = sq X s k ++ [(X k, (seenR X s k).length)] := by
  unfold sq
  rw [show seenR X s (k + 1) = seenR X s k ++ [X k] by rw [seenR, if_pos h], List.zipIdx_append]
  simp
theorem sq_no {X : Nat → RV} {s : Int} {k : Nat} (h : (X k).s ≠ s) : sq X s (k + 1) = sq X s k := by
  unfold sq
  rw [show seenR X s (k + 1) = seenR X s k by rw [seenR, if_neg h]]
theorem seen_yes {X : Nat → RV} {s : Int} {k : Nat} (h : (X k).s = s) : (seenR X s (k + 1)).length = (seenR X s k).length + 1 := by
  rw [show seenR X s (k + 1) = seenR X s k ++ [X k] by rw [seenR, if_pos h], List.length_append]
  rfl
theorem seen_no {X : Nat → RV} {s : Int} {k : Nat} (h : (X k).s ≠ s) : (seenR X s (k + 1)).length = (seenR X s k).length := by
  rw [show seenR X s (k + 1) = seenR X s k by rw [seenR, if_neg h]]
def encRw (x : RV × Nat) : Array Value := #[.int .i64 (x.2 : Int), .agg x.1.cells]
/-- What is told next, behind these. -/
def nextR (X : Nat → RV) (s : Int) (n : Nat) (pre : List (RV × Nat)) (x : RV × Nat) : Prop := ∃ k, k < n ∧ (X k).s = s ∧ pre = sq X s k ∧ x = (X k, pre.length)
def MCs (N : Int) (aa qa ro : Option Addr) (al ac ql qc rl rc : Nat) (tick gate rmin : Int) : Array Value := #[.int .i64 N, .slice aa al ac, .slice qa ql qc, .int .i64 tick, .int .i64 gate, .int .i64 rmin, .slice ro rl rc]
/-- What the iterator reads. -/
def ItR (P Q : Nat) (cs : Array Value) (s : Int) (ro : Option Addr) (rl : Nat) (X : Nat → RV) (W : World) : Prop := Blk P cs 25 W ∧ Blk Q #[.int .i64 s] 3 W ∧ RVs W ro rl X
theorem ItR.grown {P Q : Nat} {cs : Array Value} {s : Int} {ro : Option Addr} {rl : Nat} {X : Nat → RV} {W W' : World} (h : ItR P Q cs s ro rl X W) (g : Grown W W') : ItR P Q cs s ro rl X W' := ⟨Blk.grown h.1 g, Blk.grown h.2.1 g, h.2.2.grown g⟩
theorem ItR.kc {P Q : Nat} {cs : Array Value} {s : Int} {ro : Option Addr} {rl : Nat} {X : Nat → RV} {W W' : World} {D : Nat → Prop} (h : ItR P Q cs s ro rl X W) (k : KC D W W') (dP : ¬ D P) (dQ : ¬ D Q) (dR : ∀ b o, ro = some ⟨b, o, none⟩ → 0 < rl → ¬ D b) : ItR P Q cs s ro rl X W' := ⟨k.blk h.1 dP, k.blk h.2.1 dQ, k.rvs h.2.2 dR⟩

section
attribute [local go_sem] Oper.semAt_some
set_option maxRecDepth 100000 in
set_option maxHeartbeats 4000000 in
theorem mRows_in (n l P Q : Nat) (hn : 1 ≤ n) (D : Nat → Prop) (N : Int) (aa qa ro : Option Addr) (al ac ql qc rl rc : Nat) (tick gate rmin s : Int) (X : Nat → RV) (hl : rl ≤ 1000000) (J Jx : List (RV × Nat) → World → Prop)
    (hJ : ∀ p A B, J p A → Grown A B → J p B)
    (hY : ∀ pre x W, J pre W → nextR X s rl pre x → YieldAt Fence.wide (n - 1) Try.prog l (encRw x) W fun e W' => KC D W W' ∧ ((e = .returned (.bool true) ∧ J (pre ++ [x]) W' ∧ True) ∨ (e = .returned (.bool false) ∧ Jx (pre ++ [x]) W')))
    (dP : ¬ D P) (dQ : ¬ D Q) (dR : ∀ b o, ro = some ⟨b, o, none⟩ → 0 < rl → ¬ D b)
    (W : World) (hW : ItR P Q (MCs N aa qa ro al ac ql qc rl rc tick gate rmin) s ro rl X W) (h0 : J [] W) :
    CallsIn Fence.wide n Try.prog 50 #[.func (.yield l) #[] #[], .pointer (some ⟨P, 0, none⟩), .pointer (some ⟨Q, 0, none⟩)] W fun e W' => (∃ v, e = .returned v) ∧
      ((∃ xs, xs = sq X s rl ∧ J xs W') ∨ (∃ pre, True ∧ Jx pre W')) := by
  refine callsIn_of_wp Try.func50 rfl trivial ?_ rfl
  simp only [Try.ntmps50, List.size_toArray, List.length_cons, List.length_nil, Nat.reduceAdd, Nat.reduceSub, Array.replicate_succ, Array.replicate_zero, List.push_toArray, List.append_toArray, List.nil_append, List.cons_append]
  have d6 : W.cell? ⟨P, 6, none⟩ = some (.slice ro rl rc) := Blk.cell hW.1 6
  have HJ := hide hJ
  have HY := hide hY
  have HD := hide (And.intro dP (And.intro dQ dR))
  have H0 := hide (And.intro h0 hW)
  clear hJ hY h0 hW dP dQ dR
  gi_wp2
  gi_loopw [10, 4, 6] (fun i c _ wr => ∃ k : Nat, k ≤ rl ∧ i = .int .i64 k ∧ c = .int .i64 ((seenR X s k).length : Nat) ∧ Hid (J (sq X s k) wr ∧ ItR P Q (MCs N aa qa ro al ac ql qc rl rc tick gate rmin) s ro rl X wr)) (fun i _ _ _ => rl - (intOf i).toNat)
  case atStart => exact ⟨0, Nat.zero_le _, rfl, rfl, unhide H0⟩
  case round =>
    obtain ⟨k, hk, rfl, rfl, HI⟩ := hrel
    clear d6
    by_cases hlt : k < rl
    · obtain ⟨b, o, rfl, c0, c1, c2⟩ := (unhide HI).2.2.2.at hlt
      have i0 : (0 : Int) ≤ (k : Int) := Int.natCast_nonneg _
      have i1 : (k : Int) < (rl : Int) := Int.ofNat_lt.2 hlt
      obtain ⟨s1, ⟨ha, hl1, hc1, Z⟩, r1, hX⟩ : ∃ s h r, X k = ⟨s, h, r⟩ := ⟨_, _, _, rfl⟩
      have HX := hide hX
      rw [hX] at c0 c1 c2
      dsimp only at c0 c1 c2
      have hlen : (seenR X s k).length ≤ 1000000 := Nat.le_trans (seenR_len X s k) (Nat.le_trans hk hl)
      have g1 : Grown wr (wr.alloc (.cells #[.int .i64 s1, .slice ha hl1 hc1, .int .i64 r1] 41)) := (Grown.refl _).alloc _ _
      have J2 := unhide HJ _ _ _ (unhide HI).1 g1
      have I2 := (unhide HI).2.grown g1
      have q0 : (wr.alloc (.cells #[.int .i64 s1, .slice ha hl1 hc1, .int .i64 r1] 41)).cell? ⟨Q, 0, none⟩ = some (.int .i64 s) := Blk.cell I2.2.1 0
      by_cases hs : s1 = s
      · have dd : (s1 != s) = false := by simpa using hs
        have hXs : (X k).s = s := by rw [hX]; exact hs
        obtain ⟨fn, tmps, assign, body, hy, hR⟩ := unhide HY (sq X s k) (X k, (seenR X s k).length) _ J2 ⟨k, hlt, hXs, rfl, by rw [sq_len]⟩
        dsimp only [encRw] at hy
        rw [hX] at hy
        dsimp only [RV.cells] at hy
        obtain ⟨cnt, hcnt⟩ : ∃ cnt, (seenR X s k).length = cnt := ⟨_, rfl⟩
        rw [hcnt] at hy hlen
        have HC : Hid ((seenR X s k).length = cnt ∧ (X k).s = s) := ⟨hcnt, hXs⟩
        have HS := hide I2
        have cw : wrap64 ((cnt : Int) + 1) = (cnt : Int) + 1 := by unfold wrap64; omega
        rw [hcnt]
        clear hcnt hXs J2 I2 g1 hX hs
        gi_wp2
        refine hR.mono ?_
        rintro e W3 ⟨hk3, (⟨rfl, hJ3, _⟩ | ⟨rfl, hJx⟩)⟩
        · have R3 : Hid (J (sq X s (k + 1)) W3 ∧ ItR P Q (MCs N aa qa (some ⟨b, o, none⟩) al ac ql qc rl rc tick gate rmin) s (some ⟨b, o, none⟩) rl X W3 ∧ ((seenR X s (k + 1)).length : Int) = (cnt : Int) + 1) := by
            rw [sq_yes (unhide HC).2]
            exact ⟨hJ3, (unhide HS).kc hk3 (unhide HD).1 (unhide HD).2.1 (unhide HD).2.2, by rw [seen_yes (unhide HC).2, (unhide HC).1]; rfl⟩
          clear hJ3 hk3 hR hy HI HS HC c0 c1 c2 q0
          gi_wp2
          go_roundw
          case rel => exact ⟨k + 1, hlt, by go_num, by rw [(unhide R3).2.2], (unhide R3).1, (unhide R3).2.1⟩
          case measure => simp [intOf]; omega
        · have R3 := hide hJx
          clear hJx hk3 hR hy HI HS HC c0 c1 c2 q0
          gi_wp2
          refine bodyPost_ret (results_none rfl _ _ _) rfl ?_
          exact ⟨⟨_, rfl⟩, .inr ⟨_, trivial, unhide R3⟩⟩
      · have dd : (s1 != s) = true := by simpa using hs
        have hXs : (X k).s ≠ s := by rw [hX]; exact hs
        have R3 : Hid (J (sq X s (k + 1)) (wr.alloc (.cells #[.int .i64 s1, .slice ha hl1 hc1, .int .i64 r1] 41)) ∧ ItR P Q (MCs N aa qa (some ⟨b, o, none⟩) al ac ql qc rl rc tick gate rmin) s (some ⟨b, o, none⟩) rl X (wr.alloc (.cells #[.int .i64 s1, .slice ha hl1 hc1, .int .i64 r1] 41)) ∧ (seenR X s (k + 1)).length = (seenR X s k).length) := by
          rw [sq_no hXs]
          exact ⟨J2, I2, seen_no hXs⟩
        obtain ⟨cnt, hcnt⟩ : ∃ cnt, (seenR X s k).length = cnt := ⟨_, rfl⟩
        rw [hcnt] at R3 ⊢
        clear hcnt hXs J2 I2 g1 hX hs HI HX
        gi_wp2
        go_roundw
        case rel => exact ⟨k + 1, hlt, by go_num, by rw [(unhide R3).2.2], (unhide R3).1, (unhide R3).2.1⟩
        case measure => simp [intOf]; omega
    · obtain rfl : k = rl := by omega
      have HF := hide (unhide HI).1
      clear HI
      gi_wp2
      go_end0
      exact ⟨⟨_, rfl⟩, .inl ⟨_, rfl, unhide HF⟩⟩
end

end Go.Proofs.Ytpanfppnkgokdaa

/- Package model: Dim. -/
namespace Go.Proofs.Ytpanfppnkgokdaa
open Go.RowKit Go.Shelf Go.Proofs Go.Proofs.Wd
set_option linter.unusedVariables false
set_option linter.unusedSimpArgs false
set_option maxRecDepth 10000

set_option maxHeartbeats 1000000 in
theorem mRowsMk (N : Int) (aa qa ro : Option Addr) (al ac ql qc rl rc : Nat) (tick gate rmin s : Int) (w : World) : Calls Try.prog 28 #[.agg (MCs N aa qa ro al ac ql qc rl rc tick gate rmin), .int .i64 s] w fun e w' => e = .returned (.func (.func 50) #[] #[.pointer (some ⟨w.heap.size, 0, none⟩), .pointer (some ⟨w.heap.size + 1, 0, none⟩)]) ∧ w' = (w.alloc (.cells (MCs N aa qa ro al ac ql qc rl rc tick gate rmin) 25)).alloc (.cells #[.int .i64 s] 3) := by
  unfold MCs
  go_enter Try.func28, Try.ntmps28
  go_wp2
  go_ret
  exact ⟨rfl, rfl⟩

section
attribute [local go_sem] Oper.semAt_some
set_option maxRecDepth 100000 in
set_option maxHeartbeats 4000000 in
theorem mDim (N : Int) (aa qa ro : Option Addr) (al ac ql qc rl rc : Nat) (tick gate rmin s : Int) (X : Nat → RV) (hl : rl ≤ 1000000) (w : World) (hr : RVs w ro rl X) (lo : ∀ b o, ro = some ⟨b, o, none⟩ → 0 < rl → b < w.heap.size) :
    Calls Try.prog 19 #[.agg (MCs N aa qa ro al ac ql qc rl rc tick gate rmin), .int .i64 s] w fun e w' => e = .returned (.int .i64 ((seenR X s rl).length : Nat)) ∧ Kp w w' := by
  unfold MCs
  have RM := hide (fun w => mRowsMk N aa qa ro al ac ql qc rl rc tick gate rmin s w)
  unfold MCs at RM
  refine (callsIn_wide (n := 6)).1 ?_
  refine callsIn_of_wp_marks Try.func19 rfl trivial ?_ rfl
  simp only [Try.ntmps19, List.size_toArray, List.length_cons, List.length_nil, Nat.reduceAdd, Nat.reduceSub, Array.replicate_succ, Array.replicate_zero, List.push_toArray, List.append_toArray, List.nil_append, List.cons_append]
  gi_wp2_with (refine ⟨trivial, ?_⟩; gi_at_call 28; refine (callsIn_wide.2 (unhide RM _)).mono ?_; rintro e w' ⟨rfl, rfl⟩)
  obtain ⟨W0, hW0⟩ : ∃ W0, ((((w.alloc (.cells #[.int .i64 N, .slice aa al ac, .slice qa ql qc, .int .i64 tick, .int .i64 gate, .int .i64 rmin, .slice ro rl rc] 25)).alloc (.cells #[.int .i64 0] 3)).alloc (.cells #[.int .i64 N, .slice aa al ac, .slice qa ql qc, .int .i64 tick, .int .i64 gate, .int .i64 rmin, .slice ro rl rc] 25)).alloc (.cells #[.int .i64 s] 3)) = W0 := ⟨_, rfl⟩
  have ST : Grown w W0 ∧ Blk (w.heap.size + 1) #[.int .i64 0] 3 W0 ∧ ItR (w.heap.size + 1 + 1) (w.heap.size + 1 + 1 + 1) (MCs N aa qa ro al ac ql qc rl rc tick gate rmin) s ro rl X W0 ∧ W0.heap.size = w.heap.size + 4 := by
    rw [← hW0]
    have g0 : Grown w (w.alloc (.cells #[.int .i64 N, .slice aa al ac, .slice qa ql qc, .int .i64 tick, .int .i64 gate, .int .i64 rmin, .slice ro rl rc] 25)) := (Grown.refl _).alloc _ _
    have s0 : (w.alloc (.cells #[.int .i64 N, .slice aa al ac, .slice qa ql qc, .int .i64 tick, .int .i64 gate, .int .i64 rmin, .slice ro rl rc] 25)).heap.size = w.heap.size + 1 := by simp
    generalize w.alloc (.cells #[.int .i64 N, .slice aa al ac, .slice qa ql qc, .int .i64 tick, .int .i64 gate, .int .i64 rmin, .slice ro rl rc] 25) = w1 at *
    have g1 : Grown w1 (w1.alloc (.cells #[.int .i64 0] 3)) := (Grown.refl _).alloc _ _
    have b1 := Blk.new w1 #[.int .i64 0] 3
    have s1 : (w1.alloc (.cells #[.int .i64 0] 3)).heap.size = w.heap.size + 1 + 1 := by rw [World.size_alloc, s0]
    rw [s0] at b1
    generalize w1.alloc (.cells #[.int .i64 0] 3) = w2 at *
    have g2 : Grown w2 (w2.alloc (.cells #[.int .i64 N, .slice aa al ac, .slice qa ql qc, .int .i64 tick, .int .i64 gate, .int .i64 rmin, .slice ro rl rc] 25)) := (Grown.refl _).alloc _ _
    have b2 := Blk.new w2 #[.int .i64 N, .slice aa al ac, .slice qa ql qc, .int .i64 tick, .int .i64 gate, .int .i64 rmin, .slice ro rl rc] 25
    have s2 : (w2.alloc (.cells #[.int .i64 N, .slice aa al ac, .slice qa ql qc, .int .i64 tick, .int .i64 gate, .int .i64 rmin, .slice ro rl rc] 25)).heap.size = w.heap.size + 1 + 1 + 1 := by rw [World.size_alloc, s1]
    rw [s1] at b2
    generalize w2.alloc (.cells #[.int .i64 N, .slice aa al ac, .slice qa ql qc, .int .i64 tick, .int .i64 gate, .int .i64 rmin, .slice ro rl rc] 25) = w3 at *
    have g3 : Grown w3 (w3.alloc (.cells #[.int .i64 s] 3)) := (Grown.refl _).alloc _ _
    have b3 := Blk.new w3 #[.int .i64 s] 3
    have s3 : (w3.alloc (.cells #[.int .i64 s] 3)).heap.size = w.heap.size + 1 + 1 + 1 + 1 := by rw [World.size_alloc, s2]
    rw [s2] at b3
    generalize w3.alloc (.cells #[.int .i64 s] 3) = w4 at *
    have gw := gtrans (gtrans (gtrans g0 g1) g2) g3
    exact ⟨gw, Blk.grown (Blk.grown b1 g2) g3, ⟨Blk.grown b2 g3, b3, hr.grown gw⟩, s3⟩
  rw [hW0]
  clear hW0 RM
  obtain ⟨gw, b1, it, sz⟩ := ST
  refine range_own (P := Try.prog) (encs := encRw) (St := Grown) (D := fun q => q = w.heap.size + 1) (Px := nextR X s rl) (Pp := fun _ => True) (S := fun xs _ => xs = sq X s rl) (Sp := fun _ _ => True) rfl (by omega) (gf := 50) (lb := #[.pointer (some ⟨w.heap.size + 1 + 1, 0, none⟩), .pointer (some ⟨w.heap.size + 1 + 1 + 1, 0, none⟩)]) rfl trivial (enters_of Try.func50 (by kernel_rfl) rfl) (fun _ => rfl)
    (fun A B q x hs _ hx _ => (gblock hs (Array.getElem?_eq_some_iff.1 hx).1).trans hx)
    (fun l J Jx W hg hJ hY h0 => ?seq)
    (fun pre W => pre.length ≤ 1000000 ∧ Blk (w.heap.size + 1) #[.int .i64 (pre.length : Nat)] 3 W ∧ Kp w W)
    (fun c pre W => False)
    (fun pre W W' row h hg hr => ⟨h.1, blk_own h.2.1 hg (fun r e => (hr r e).2), h.2.2.by hg (fun k e => by have := (hr k e).1; omega)⟩)
    (fun c pre W W' row h hg hr => h)
    (fun _ _ _ _ h _ _ => h)
    (fun _ _ _ _ h _ _ => h)
    (fun pre A B h g => ⟨h.1, Blk.grown h.2.1 g, h.2.2.grown g⟩)
    (fun pre W h => trivial)
    ⟨Nat.zero_le _, b1, Kp.of gw⟩
    (fun x a' W => a' = { tmps := #[.agg #[.int .i64 N, .slice aa al ac, .slice qa ql qc, .int .i64 tick, .int .i64 gate, .int .i64 rmin, .slice ro rl rc], .int .i64 s, .pointer (some ⟨w.heap.size, 0, none⟩), undef, .int .i64 0, .pointer (some ⟨w.heap.size + 1, 0, none⟩), .int .i64 (x.2 : Nat), .agg #[.int .i64 N, .slice aa al ac, .slice qa ql qc, .int .i64 tick, .int .i64 gate, .int .i64 rmin, .slice ro rl rc], .int .i64 s, .func (.func 50) #[] #[.pointer (some ⟨w.heap.size + 1 + 1, 0, none⟩), .pointer (some ⟨w.heap.size + 1 + 1 + 1, 0, none⟩)], .int .i64 (x.2 : Nat), .agg x.1.cells, undef, undef, undef], defers := [] })
    (fun x a' _ W W' row h hg hr => h)
    ?assign ?body ?done ?stop
  case seq =>
    refine (mRows_in _ l (w.heap.size + 1 + 1) (w.heap.size + 1 + 1 + 1) (by omega) (fun q => q = w.heap.size + 1) N aa qa ro al ac ql qc rl rc tick gate rmin s X hl J Jx hJ (fun pre x W1 hJ1 hx => hY pre x W1 hJ1 hx) (by omega) (by omega) (fun b o e h0 => by have := lo b o e h0; omega) W ?_ h0)
    exact ⟨(hg.block _ (Blk.lt it.1) (by simp)).trans it.1, (hg.block _ (Blk.lt it.2.1) (by simp)).trans it.2.1, it.2.2.cells (fun b o v _ hv => hg.cell hv (by simp))⟩
  case assign =>
    intro l pre x W K hI hK
    dsimp only [encRw]
    clear it b1 gw hr lo
    gi_wp2
    exact hK _ _ (KeepsFrom.refl _ _) (KC.refl _ _) hI rfl
  case body =>
    rintro l pre x a' W ⟨hle, hB, hkp⟩ rfl ⟨k, hk, hks, hpre, hx⟩
    obtain ⟨p, hp⟩ : ∃ p, pre.length = p := ⟨_, rfl⟩
    have hx2 : x.2 = p := by rw [hx]; exact hp
    have hpk : p + 1 ≤ 1000000 := by
      have h1 := seenR_len X s k
      rw [← sq_len, ← hpre, hp] at h1
      omega
    rw [hx2]
    rw [hp] at hB hle
    have c0 : W.cell? ⟨w.heap.size + 1, 0, none⟩ = some (.int .i64 (p : Nat)) := Blk.cell hB 0
    have ff := Blk.free hB
    have R : Hid (KeepsFrom W0.heap.size W (W.setCell ⟨w.heap.size + 1, 0, none⟩ (.int .i64 ((p : Int) + 1))) ∧ KC (fun q => q = w.heap.size + 1) W (W.setCell ⟨w.heap.size + 1, 0, none⟩ (.int .i64 ((p : Int) + 1))) ∧ (pre ++ [x]).length ≤ 1000000 ∧ Blk (w.heap.size + 1) #[.int .i64 ((pre ++ [x]).length : Nat)] 3 (W.setCell ⟨w.heap.size + 1, 0, none⟩ (.int .i64 ((p : Int) + 1))) ∧ Kp w (W.setCell ⟨w.heap.size + 1, 0, none⟩ (.int .i64 ((p : Int) + 1)))) := by
      have m : Mod (w.heap.size + 1) W (W.setCell ⟨w.heap.size + 1, 0, none⟩ (.int .i64 ((p : Int) + 1))) := (Mod.refl _ _).setCell _ _
      have e1 : (pre ++ [x]).length = p + 1 := by rw [List.length_append, hp]; rfl
      refine ⟨(KeepsOthers.setCell _ _ _).from _, KC.of (fun q hq hD => m.2.2.1 q hq hD) m.2.2.2.2, by rw [e1]; exact hpk, ?_, hkp.mod m (by omega)⟩
      rw [e1]
      exact Blk.set hB 0 _
    have cw : wrap64 ((p : Int) + 1) = (p : Int) + 1 := by unfold wrap64; omega
    clear it b1 gw hr lo hB hkp hx hpre hx2 hp hle hpk
    gi_wp2
    exact unhide R
  case done =>
    rintro d xs W hd rfl ⟨hle, hB, hkp⟩ hDf
    have c0 : W.cell? ⟨w.heap.size + 1, 0, none⟩ = some (.int .i64 ((sq X s rl).length : Nat)) := Blk.cell hB 0
    rw [sq_len] at c0
    have HK := hide hkp
    have gD := grownBy_putObj' W d (.deferred none)
    have K2 : Hid (Kp w (W.putObj d (.deferred none))) := (unhide HK).by gD (fun k e => by cases e; omega)
    clear it b1 gw hr lo hB hkp hle
    gi_wp2
    refine ⟨by simp, .inl ⟨_, _, rfl, run_takeDeferred hDf, ?_⟩⟩
    refine ⟨.int .i64 ((seenR X s rl).length : Nat), by simp [results, Try.results19, go_sem], ?_⟩
    exact ⟨rfl, unhide K2⟩
  case stop =>
    rintro d c pre W hd hSp h
    exact h.elim
end
end Go.Proofs.Ytpanfppnkgokdaa

/- Package model: RowsOf. -/
namespace Go.Proofs.Ytpanfppnkgokdaa
open Go.RowKit Go.Shelf Go.Proofs Go.Proofs.Wd
set_option linter.unusedVariables false
set_option linter.unusedSimpArgs false
set_option maxRecDepth 10000

/-- A copy of a list: in a block of its own, if there is anything in it. -/
def CloP (n : Nat) (Z : Nat → Int) (w : World) (e : Ending) (w' : World) : Prop := ∃ ao cap, e = .returned (.slice ao n cap) ∧ n ≤ cap ∧ (n = 0 ∨ ∃ B, ao = some ⟨B, 0, none⟩ ∧ w.heap.size ≤ B ∧ Own B n Z w') ∧ Kp w w'
set_option maxRecDepth 50000 in
set_option maxHeartbeats 1000000 in
theorem mClone (ao : Option Addr) (n cap : Nat) (Z : Nat → Int) (hn : n ≤ 1000000) (h0 : ao = none → n = 0 ∧ cap = 0) (w : World) (hr : Row w ao n Z) :
    Calls Try.prog 29 #[.slice ao n cap] w fun e w' => CloP n Z w e w' := by
  have HR := hide hr
  clear hr
  have q22 : ∀ w : World, (binOp .eql 22 (.slice ao n cap) (.slice none 0 0)).run Try.prog w = .ok (.bool ao.isNone) w := fun w => Lib.run_eql_slice_nil w _ _ _ n cap 0 0 Try.underlying22
  cases ao with
  | none =>
    obtain ⟨rfl, rfl⟩ := h0 rfl
    clear h0
    have q23 : ∀ w : World, (binOp .eql 22 (.slice none 0 0) (.slice none 0 0)).run Try.prog w = .ok (.bool true) w := q22
    clear q22
    go_enter Try.func29, Try.ntmps29
    go_wp2
    go_ret
    exact (show CloP _ _ _ _ _ from ⟨_, _, rfl, Nat.le_refl _, Or.inl rfl, Kp.refl _⟩)
  | some a =>
    have q23 : ∀ w : World, (binOp .eql 22 (.slice (some a) n cap) (.slice none 0 0)).run Try.prog w = .ok (.bool false) w := q22
    clear h0 q22
    obtain ⟨i0, hi, hz0, hz1, hz2⟩ := info_parts Try.infoInt
    have OM := hide (World.ownsRow_made (base := w.heap.size) (e := 3) (size := 1) w #[] 0 (Nat.le_refl _) (by unfold maxLen; omega) (by simp))
    have NEW : ∀ j u, ((List.range n).map fun i => Value.int .i64 (Z i))[j]? = some u → (w.alloc (.cells #[] 3)).cell? (a.add j) = some u := by
      intro j u hu
      rw [List.getElem?_map] at hu
      by_cases hj : j < n
      · rw [List.getElem?_range hj] at hu
        simp at hu
        subst hu
        obtain ⟨b, o, e, hc⟩ := (unhide HR).at hj
        cases e
        rw [Go.WideShapes.add_plain]
        exact gat ((Grown.refl _).alloc _ _) hc
      · rw [List.getElem?_eq_none (by simpa using hj)] at hu
        simp at hu
    have NEWH := hide NEW
    clear NEW
    go_enter Try.func29, Try.ntmps29
    go_wp2_with (at_builtin; refine wpList_append_own _ rfl _ _ 22 rfl w.heap.size 3 i0 (.int .i64 0) 1 8 Try.underlying22 hi hz0 hz1 hz2 rfl (by decide) _ _ _ rfl (unhide OM) a n cap ((List.range n).map fun i => Value.int .i64 (Z i)) rfl (by simp) (unhide NEWH) (cells_one _ _) (by unfold maxLen; omega) (by omega) (by simp) ?_; intro v' w1 hown' hgrow _)
    rw [Nat.zero_add, List.nil_append] at hown'
    have K1 : Hid (Kp w w1) := Kp.by ((Kp.refl _).alloc _ _) hgrow (fun k e => by have := ((unhide OM).lt k e).1; omega)
    obtain ⟨ao2, cap2, rfl, hc2, _, _⟩ := owns_rowC hown'
    have R1 : Hid (n ≤ cap2 ∧ (n = 0 ∨ ∃ B, ao2 = some ⟨B, 0, none⟩ ∧ w.heap.size ≤ B ∧ Own B n Z w1)) := ⟨hc2, by
      by_cases h : n = 0
      · exact Or.inl h
      · obtain ⟨B, c, e, _, hB, hO⟩ := owns_ownC (by omega) hown'
        cases e
        exact Or.inr ⟨B, rfl, hB, hO⟩⟩
    clear hown' hgrow hc2
    go_wp2
    go_ret
    exact (show CloP _ _ _ _ _ from ⟨_, _, rfl, (unhide R1).1, (unhide R1).2, unhide K1⟩)
/-- make([]api.Row, n). -/
theorem make_rows (n : Nat) (hn : n ≤ 1000000) : ∃ zc : Array Value, zc.size = n * 3 ∧ ∀ w : World, (Instr.makeSlice 23 (.int .i64 (n : Int)) (.int .i64 (n : Int))).run Try.prog w = .ok (.slice (some ⟨w.heap.size, 0, none⟩) n n) (w.alloc (.cells zc 41)) := by
  obtain ⟨i0, hi, hz0, hz1, hz2⟩ := info_parts Try.infoRow
  refine ⟨madeCells (Value.agg #[.int .i64 0, .slice none 0 0, .int .i64 0]).cells (n * 3), by rw [size_madeCells], fun w => ?_⟩
  have := run_make (P := Try.prog) w 23 41 i0 _ Try.underlying23 hi hz0 .i64 .i64 n n (by omega) (by omega) (by rw [hz2]; omega) (by omega)
  rw [hz1, Int.toNat_natCast] at this
  exact this
theorem blk_ne' {b c : Nat} {cs ds : Array Value} {w : World} (h : Blk b cs 3 w) (k : Blk c ds 41 w) : b ≠ c := fun e => by
  subst e
  unfold Blk at h k
  rw [h] at k
  cases k
/-- A list of rows in a block of its own, made long enough. -/
def OwnRz (g sz : Nat) (l : List RV) (W : World) : Prop := ∃ cur, Blk g cur 41 W ∧ cur.size = sz ∧ ∀ i x, l[i]? = some x → ∀ j, j < 3 → cur[i * 3 + j]? = x.cells[j]?
def RwE (base G : Nat) (y x : RV) (W : World) : Prop := ∃ a p, x = cpRV y a p ∧ y.h.len ≤ p ∧ (y.h.len = 0 ∨ ∃ B, a = some ⟨B, 0, none⟩ ∧ base ≤ B ∧ B ≠ G ∧ B ≠ G + 1 ∧ Own B y.h.len y.h.Z W)
/-- Rows that have been told: each one's numbers in a block of its own. -/
def RwL (base G : Nat) (pre : List (RV × Nat)) (l : List RV) (W : World) : Prop := l.length = pre.length ∧ (∀ (i : Nat) (x : RV) (y : RV × Nat), l[i]? = some x → pre[i]? = some y → RwE base G y.1 x W) ∧ ∀ (i j : Nat) (x z : RV) (B C : Nat), i < j → l[i]? = some x → l[j]? = some z → x.h.ao = some ⟨B, 0, none⟩ → 0 < x.h.len → z.h.ao = some ⟨C, 0, none⟩ → 0 < z.h.len → B ≠ C

theorem RwE.map {base G : Nat} {y x : RV} {W W' : World} (h : RwE base G y x W) (k : ∀ B n Z, base ≤ B → B ≠ G → B ≠ G + 1 → Own B n Z W → Own B n Z W') : RwE base G y x W' := by
  obtain ⟨a, p, e, h1, h2⟩ := h
  refine ⟨a, p, e, h1, h2.imp id fun ⟨B, h3, h4, h5, h6, h7⟩ => ⟨B, h3, h4, h5, h6, k _ _ _ h4 h5 h6 h7⟩⟩
theorem RwL.map {base G : Nat} {pre : List (RV × Nat)} {l : List RV} {W W' : World} (h : RwL base G pre l W) (k : ∀ B n Z, base ≤ B → B ≠ G → B ≠ G + 1 → Own B n Z W → Own B n Z W') : RwL base G pre l W' := ⟨h.1, fun i x y hx hy => (h.2.1 i x y hx hy).map k, h.2.2⟩
/-- Between two rounds. -/
def RsI (w : World) (G m : Nat) (pre : List (RV × Nat)) (W : World) : Prop := pre.length ≤ m ∧ (∃ l, OwnRz G (m * 3) l W ∧ RwL w.heap.size G pre l W) ∧ Blk (G + 1) #[.slice (some ⟨G, 0, none⟩) m m] 23 W ∧ Kp w W ∧ G + 4 ≤ W.heap.size
theorem RsI.kp {w : World} {G m : Nat} {pre : List (RV × Nat)} {W W' : World} (h : RsI w G m pre W) (k : Kp W W') : RsI w G m pre W' := by
  obtain ⟨h1, ⟨l, ⟨cur, h2, h3, h4⟩, h5⟩, h6, h7, h8⟩ := h
  exact ⟨h1, ⟨l, ⟨cur, Blk.kp h2 k, h3, h4⟩, h5.map fun B n Z _ _ _ h => h.kp k⟩, Blk.kp h6 k, h7.trans k, Nat.le_trans h8 k.2.2.2⟩
theorem RsI.own {w : World} {G m B : Nat} {pre : List (RV × Nat)} {W W' : World} {row : Option Nat} (h : RsI w G m pre W) (hB : w.heap.size ≤ B) (hg : W.grownBy W' row) (hr : ∀ r, row = some r → B ≤ r ∧ ∃ o : Obj, W.heap[r]? = some o ∧ o.isCells = false) : RsI w G m pre W' := by
  obtain ⟨h1, ⟨l, ⟨cur, h2, h3, h4⟩, h5⟩, h6, h7, h8⟩ := h
  have hr' : ∀ r, row = some r → ∃ o : Obj, W.heap[r]? = some o ∧ o.isCells = false := fun r e => (hr r e).2
  exact ⟨h1, ⟨l, ⟨cur, blk_own h2 hg hr', h3, h4⟩, h5.map fun B n Z _ _ _ h => own_own h hg hr'⟩, blk_own h6 hg hr', h7.by hg (fun k e => Nat.le_trans hB (hr k e).1), Nat.le_trans h8 hg.size⟩
theorem set3 {cur : Array Value} {l : List RV} {p m : Nat} {a b c : Value} (hp : p < m) (hs : cur.size = m * 3) (hl : l.length = p) (h : ∀ i x, l[i]? = some x → ∀ j, j < 3 → cur[i * 3 + j]? = x.cells[j]?) (z : RV) (hz : z.cells = #[a, b, c]) :
    ∀ i x, (l ++ [z])[i]? = some x → ∀ j, j < 3 → (((cur.setIfInBounds (p * 3) a).setIfInBounds (p * 3 + 1) b).setIfInBounds (p * 3 + 2) c)[i * 3 + j]? = x.cells[j]? := by
  intro i x hx j hj
  rw [List.getElem?_append] at hx
  split at hx
  · rename_i hi
    rw [Array.getElem?_setIfInBounds_ne (by omega), Array.getElem?_setIfInBounds_ne (by omega), Array.getElem?_setIfInBounds_ne (by omega)]
    exact h i x hx j hj
  · rename_i hi
    have : i = p := by
      rcases Nat.lt_or_ge (i - l.length) 1 with h1 | h1
      · omega
      · rw [List.getElem?_eq_none (by simpa using h1)] at hx; cases hx
    subst this
    rw [hl, Nat.sub_self] at hx
    cases hx
    rw [hz]
    have : j = 0 ∨ j = 1 ∨ j = 2 := by omega
    rcases this with rfl | rfl | rfl
    · rw [Array.getElem?_setIfInBounds_ne (by omega), Array.getElem?_setIfInBounds_ne (by omega), Nat.add_zero, Array.getElem?_setIfInBounds_self_of_lt (by omega)]
      rfl
    · rw [Array.getElem?_setIfInBounds_ne (by omega), Array.getElem?_setIfInBounds_self_of_lt (by simp; omega)]
      rfl
    · rw [Array.getElem?_setIfInBounds_self_of_lt (by simp; omega)]
      rfl
theorem seen_lt {X : Nat → RV} {s : Int} {n k : Nat} (hk : k < n) (hs : (X k).s = s) : (seenR X s k).length < (seenR X s n).length := by
  induction n with
  | zero => omega
  | succ n ih =>
    have h1 : (seenR X s n).length ≤ (seenR X s (n + 1)).length := by
      by_cases h : (X n).s = s
      · rw [seen_yes h]; omega
      · rw [seen_no h]; exact Nat.le_refl _
    rcases Nat.lt_or_ge k n with h2 | h2
    · exact Nat.lt_of_lt_of_le (ih h2) h1
    · obtain rfl : k = n := by omega
      rw [seen_yes hs]
      omega
theorem snoc_at {α : Type} {l : List α} {z x : α} {i : Nat} (h : (l ++ [z])[i]? = some x) : (i < l.length ∧ l[i]? = some x) ∨ (i = l.length ∧ x = z) := by
  rw [List.getElem?_append] at h
  split at h
  · rename_i hi
    exact Or.inl ⟨hi, h⟩
  · rename_i hi
    rcases Nat.lt_or_ge (i - l.length) 1 with h1 | h1
    · have e : i - l.length = 0 := by omega
      rw [e] at h
      cases h
      exact Or.inr ⟨by omega, rfl⟩
    · rw [List.getElem?_eq_none (by simpa using h1)] at h; cases h
/-- A row has been copied, and is put at its place. -/
theorem RsI.put {w : World} {G m p Bx n c : Nat} {pre : List (RV × Nat)} {W w2 : World} {s1 r1 : Int} {ha a : Option Addr} {hc : Nat} {Z : Nat → Int} {x : RV × Nat} (h : RsI w G m pre W) (hG : w.heap.size < G) (hp : pre.length = p) (hpm : p < m) (hx : x.1 = ⟨s1, ⟨ha, n, hc, Z⟩, r1⟩) (hBx : G + 4 ≤ Bx) (bx : Blk Bx #[.int .i64 s1, .slice ha n hc, .int .i64 r1] 41 W) (k : Kp W w2) (hn : n ≤ c) (ho : n = 0 ∨ ∃ B, a = some ⟨B, 0, none⟩ ∧ W.heap.size ≤ B ∧ Own B n Z w2) :
    RsI w G m (pre ++ [x]) ((((w2.setCell ⟨Bx, 1, none⟩ (.slice a n c)).setCell ⟨G, p * 3, none⟩ (.int .i64 s1)).setCell ⟨G, p * 3 + 1, none⟩ (.slice a n c)).setCell ⟨G, p * 3 + 2, none⟩ (.int .i64 r1)) ∧ KeepsOthers W ((((w2.setCell ⟨Bx, 1, none⟩ (.slice a n c)).setCell ⟨G, p * 3, none⟩ (.int .i64 s1)).setCell ⟨G, p * 3 + 1, none⟩ (.slice a n c)).setCell ⟨G, p * 3 + 2, none⟩ (.int .i64 r1)) ∧ KC (fun q => q = G ∨ G + 4 ≤ q) W ((((w2.setCell ⟨Bx, 1, none⟩ (.slice a n c)).setCell ⟨G, p * 3, none⟩ (.int .i64 s1)).setCell ⟨G, p * 3 + 1, none⟩ (.slice a n c)).setCell ⟨G, p * 3 + 2, none⟩ (.int .i64 r1)) := by
  obtain ⟨h1, ⟨l, ⟨cur, h2, h3, h4⟩, h5⟩, h6, h7, h8⟩ := h
  have m1 : Mod Bx w2 (w2.setCell ⟨Bx, 1, none⟩ (.slice a n c)) := (Mod.refl _ _).setCell _ _
  have m2 : Mod G (w2.setCell ⟨Bx, 1, none⟩ (.slice a n c)) ((((w2.setCell ⟨Bx, 1, none⟩ (.slice a n c)).setCell ⟨G, p * 3, none⟩ (.int .i64 s1)).setCell ⟨G, p * 3 + 1, none⟩ (.slice a n c)).setCell ⟨G, p * 3 + 2, none⟩ (.int .i64 r1)) := (((Mod.refl _ _).setCell _ _).setCell _ _).setCell _ _
  have hb := Blk.set (Blk.set (Blk.set (Blk.keep (Blk.kp h2 k) m1 (by omega)) (p * 3) (.int .i64 s1)) (p * 3 + 1) (.slice a n c)) (p * 3 + 2) (.int .i64 r1)
  have ko := (((KeepsOthers.setCell w2 ⟨Bx, 1, none⟩ (.slice a n c)).trans (KeepsOthers.setCell _ ⟨G, p * 3, none⟩ (.int .i64 s1))).trans (KeepsOthers.setCell _ ⟨G, p * 3 + 1, none⟩ (.slice a n c))).trans (KeepsOthers.setCell _ ⟨G, p * 3 + 2, none⟩ (.int .i64 r1))
  generalize ((((w2.setCell ⟨Bx, 1, none⟩ (.slice a n c)).setCell ⟨G, p * 3, none⟩ (.int .i64 s1)).setCell ⟨G, p * 3 + 1, none⟩ (.slice a n c)).setCell ⟨G, p * 3 + 2, none⟩ (.int .i64 r1)) = W4 at *
  have lb := Blk.lt bx
  have kb : ∀ q, q < W.heap.size → q ≠ G → q ≠ Bx → W4.heap[q]? = W.heap[q]? := fun q hq n1 n2 => by
    have hq2 : q < w2.heap.size := Nat.lt_of_lt_of_le hq k.2.2.2
    rw [m2.2.2.1 q (Nat.lt_of_lt_of_le hq2 m1.2.2.2.2) n1, m1.2.2.1 q hq2 n2]
    exact k.2.2.1 q hq
  have oo : ∀ B nn ZZ, Own B nn ZZ W → B ≠ G → B ≠ Bx → Own B nn ZZ W4 := fun B nn ZZ ⟨cu, e1, e2⟩ n1 n2 => ⟨cu, (kb B (Blk.lt e1) n1 n2).trans e1, e2⟩
  have nb : ∀ B nn ZZ, Own B nn ZZ W → B ≠ Bx := fun B nn ZZ ⟨cu, e1, e2⟩ => blk_ne' e1 bx
  have lenl : l.length = p := h5.1.trans hp
  have lz : W.heap.size ≤ W4.heap.size := Nat.le_trans k.2.2.2 (Nat.le_trans m1.2.2.2.2 m2.2.2.2.2)
  have kk : Kp w W4 := (((h7.trans k).mod m1 (by omega)).mod m2 (by omega))
  refine ⟨⟨by rw [List.length_append, hp]; exact hpm, ⟨l ++ [⟨s1, ⟨a, n, c, Z⟩, r1⟩], ⟨_, hb, by simp; exact h3, set3 hpm h3 lenl h4 _ rfl⟩, by simp [h5.1], fun i z y hz hy => ?_, fun i j z u B C hij hz hu eB nz eC nu => ?_⟩, (kb _ (by omega) (by omega) (by omega)).trans h6, kk, Nat.le_trans h8 lz⟩, ?_, ?_⟩
  · rcases snoc_at hz with ⟨hi, hz⟩ | ⟨hi, rfl⟩
    · rcases snoc_at hy with ⟨hi2, hy⟩ | ⟨hi2, rfl⟩
      · exact (h5.2.1 i z y hz hy).map fun B nn ZZ _ n1 _ o => oo B nn ZZ o n1 (nb B nn ZZ o)
      · have := h5.1; omega
    · rcases snoc_at hy with ⟨hi2, hy⟩ | ⟨hi2, rfl⟩
      · have := h5.1; omega
      · rw [hx]
        refine ⟨a, c, rfl, hn, ho.imp id fun ⟨B, e1, e2, e3⟩ => ⟨B, e1, by omega, by omega, by omega, ?_⟩⟩
        obtain ⟨cu, e4, e5⟩ := e3
        exact ⟨cu, Blk.keep (Blk.keep e4 m1 (by omega)) m2 (by omega), e5⟩
  · rcases snoc_at hz with ⟨hi, hz⟩ | ⟨hi, rfl⟩
    · rcases snoc_at hu with ⟨hi2, hu⟩ | ⟨hi2, rfl⟩
      · exact h5.2.2 i j z u B C hij hz hu eB nz eC nu
      · obtain ⟨y, hy⟩ : ∃ y, pre[i]? = some y := ⟨_, List.getElem?_eq_getElem (by have := h5.1; omega)⟩
        obtain ⟨a', c', e1, _, e3⟩ := h5.2.1 i z y hz hy
        rcases ho with rfl | ⟨B', e4, e5, _⟩
        · exact absurd nu (by show ¬ 0 < 0; omega)
        · have eC : a = some ⟨C, 0, none⟩ := eC
          rw [e4] at eC
          cases eC
          rcases e3 with e3 | ⟨B2, e6, _, _, _, cu, e7, _⟩
          · rw [e1] at nz
            have nz : 0 < y.1.h.len := nz
            omega
          · rw [e1] at eB
            have eB : a' = some ⟨B, 0, none⟩ := eB
            rw [e6] at eB
            cases eB
            have := Blk.lt e7
            omega
    · rcases snoc_at hu with ⟨hi2, hu⟩ | ⟨hi2, _⟩
      · omega
      · omega
  · exact KeepsOthers.trans ⟨k.2.2.2, fun q o hq _ => (k.2.2.1 q (Array.getElem?_eq_some_iff.1 hq).1).trans hq⟩ ko
  · exact KC.of (fun q hq hD => kb q hq (fun e => hD (Or.inl e)) (fun e => hD (Or.inr (by omega)))) lz

theorem flatR_of {l : List RV} {cur : Array Value} (hs : cur.size = l.length * 3) (h : ∀ i x, l[i]? = some x → ∀ j, j < 3 → cur[i * 3 + j]? = x.cells[j]?) : cur.toList = flatR l := by
  refine List.ext_getElem? fun q => ?_
  rcases Nat.lt_or_ge q (l.length * 3) with hq | hq
  · have h1 : q / 3 < l.length := by omega
    have h2 := h (q / 3) _ (List.getElem?_eq_getElem h1) (q % 3) (by omega)
    have h3 := flatR_at l (q / 3) (q % 3) _ (List.getElem?_eq_getElem h1) (by omega)
    rw [show q / 3 * 3 + q % 3 = q by omega] at h2 h3
    rw [h3, ← h2]
    simp
  · rw [List.getElem?_eq_none (by simp; omega), List.getElem?_eq_none (by rw [flatR_len]; exact hq)]
/-- All have been told. -/
theorem rsI_end {w W : World} {G m : Nat} {X : Nat → RV} {s : Int} {n : Nat} (hG : w.heap.size < G) (hm : (seenR X s n).length = m) (hn : n ≤ 1000000) (h : RsI w G m (sq X s n) W) : ORowsP X s n w (.returned (.slice (some ⟨G, 0, none⟩) m m)) W := by
  obtain ⟨h1, ⟨l, ⟨cur, h2, h3, h4⟩, h5⟩, h6, h7, h8⟩ := h
  have hl : l.length = m := h5.1.trans ((sq_len ..).trans hm)
  have at' : ∀ (i : Nat) (x : RV), l[i]? = some x → ∃ y, (seenR X s n)[i]? = some y ∧ RwE w.heap.size G y x W := fun i x hx => by
    have hi : i < l.length := (List.getElem?_eq_some_iff.1 hx).1
    have hy : (seenR X s n)[i]? = some ((seenR X s n)[i]'(by omega)) := List.getElem?_eq_getElem _
    refine ⟨_, hy, ?_⟩
    have hz : (sq X s n)[i]? = some ((seenR X s n)[i]'(by omega), i) := by
      unfold sq
      rw [List.getElem?_zipIdx, hy]
      simp
    exact h5.2.1 i x _ hx hz
  have off : ∀ {y x : RV} {U : Nat}, RwE w.heap.size G y x W → (U < w.heap.size ∨ U = G) → Off U y.h.len x.h.ao := fun {y x U} h hU => by
    obtain ⟨a, p, rfl, _, e⟩ := h
    intro h0 b hb
    rcases e with e | ⟨B, e1, e2, e3, _⟩
    · omega
    · have hb : a = some b := hb
      rw [e1] at hb
      cases hb
      show B ≠ U
      omega
  refine ⟨_, l, rfl, ⟨?_, by rw [hl, hm], fun i x y hx hy => ?_⟩, fun i x hx => ?_, h7⟩
  · refine ⟨by rw [flatR_len], Or.inr ⟨G, m, cur, by rw [hl], by omega, h2, by omega, ?_, by omega, ?_⟩⟩
    · have := seenR_len X s n
      unfold maxLen
      have h9 : m * 3 ≤ 3000003 := by omega
      omega
    · rw [← flatR_of (by omega) h4]
      exact List.take_of_length_le (by simp; omega)
  · obtain ⟨y', hy', e⟩ := at' i x hx
    rw [hy] at hy'
    cases hy'
    have o1 : ∀ U, U < w.heap.size → Off U y.h.len x.h.ao := fun U hU => off e (Or.inl hU)
    have o2 : Off G y.h.len x.h.ao := off e (Or.inr rfl)
    obtain ⟨a, p, rfl, e1, e2⟩ := e
    refine ⟨a, p, rfl, e1, ?_, o1, fun g eg => by cases eg; exact o2⟩
    rcases e2 with e2 | ⟨B, rfl, _, _, _, hO⟩
    · exact Or.inl e2
    · exact hO.row
  · obtain ⟨y', hy', e⟩ := at' i x hx
    obtain ⟨a, p, rfl, e1, e2⟩ := e
    rcases Nat.eq_zero_or_pos y'.h.len with hn | hn
    · exact Or.inl hn
    · rcases e2 with e2 | ⟨B, rfl, e3, e4, e5, hO⟩
      · omega
      · refine Or.inr ⟨B, rfl, e3, hO, fun j z hij hz => ?_⟩
        intro h0 b hb
        obtain ⟨y2, hy2, e6⟩ := at' j z hz
        obtain ⟨a2, p2, rfl, e7, e8⟩ := e6
        rcases e8 with e8 | ⟨C, rfl, e9, _⟩
        · exact absurd h0 (by show ¬ 0 < y2.h.len; omega)
        · cases hb
          exact fun e => h5.2.2 i j _ _ B C hij hx hz rfl hn rfl h0 e.symm

section
attribute [local go_sem] Oper.semAt_some
set_option maxRecDepth 100000 in
set_option maxHeartbeats 4000000 in
theorem mRowsOf (N : Int) (aa qa ro : Option Addr) (al ac ql qc rl rc : Nat) (tick gate rmin s : Int) (X : Nat → RV) (hl : rl ≤ 1000000) (w : World) (hr : RVs w ro rl X) (lo : ∀ b o, ro = some ⟨b, o, none⟩ → 0 < rl → b < w.heap.size)
    (hh : ∀ i, i < rl → Row w (X i).h.ao (X i).h.len (X i).h.Z ∧ (X i).h.len ≤ 1000000 ∧ ((X i).h.ao = none → (X i).h.len = 0 ∧ (X i).h.cap = 0)) :
    Calls Try.prog 13 #[.agg (MCs N aa qa ro al ac ql qc rl rc tick gate rmin), .int .i64 s] w fun e w' => ORowsP X s rl w e w' := by
  have G0 : Grown w (w.alloc (.cells (MCs N aa qa ro al ac ql qc rl rc tick gate rmin) 25)) := (Grown.refl _).alloc _ _
  have DM := hide (mDim N aa qa ro al ac ql qc rl rc tick gate rmin s X hl _ (hr.grown G0) (fun b o e h => by have := lo b o e h; simp; omega))
  have HB := hide (And.intro G0 (Blk.new w (MCs N aa qa ro al ac ql qc rl rc tick gate rmin) 25))
  have RM := hide (fun w => mRowsMk N aa qa ro al ac ql qc rl rc tick gate rmin s w)
  unfold MCs at RM DM HB
  unfold MCs
  clear G0
  have hm : (seenR X s rl).length ≤ 1000000 := Nat.le_trans (seenR_len X s rl) hl
  obtain ⟨m, hme⟩ : ∃ m, (seenR X s rl).length = m := ⟨_, rfl⟩
  rw [hme] at DM hm
  obtain ⟨zc, hzc, MK⟩ := make_rows m hm
  have HZ := hide (And.intro hzc (And.intro hm hme))
  clear hzc hm hme
  refine (callsIn_wide (n := 6)).1 ?_
  refine callsIn_of_wp_marks Try.func13 rfl trivial ?_ rfl
  simp only [Try.ntmps13, List.size_toArray, List.length_cons, List.length_nil, Nat.reduceAdd, Nat.reduceSub, Array.replicate_succ, Array.replicate_zero, List.push_toArray, List.append_toArray, List.nil_append, List.cons_append]
  gi_wp2_with fail
  refine ⟨trivial, ?_⟩
  refine (callsIn_wide.2 (unhide DM)).mono ?_
  rintro e w1 ⟨rfl, k1⟩
  have B1 := hide (And.intro ((Kp.of (unhide HB).1).trans k1) (Blk.kp (unhide HB).2 k1))
  have x0 : w1.cell? ⟨w.heap.size, 0, none⟩ = some (.int .i64 N) := Blk.cell (unhide B1).2 0
  have x1 : w1.cell? ⟨w.heap.size, 1, none⟩ = some (.slice aa al ac) := Blk.cell (unhide B1).2 1
  have x2 : w1.cell? ⟨w.heap.size, 2, none⟩ = some (.slice qa ql qc) := Blk.cell (unhide B1).2 2
  have x3 : w1.cell? ⟨w.heap.size, 3, none⟩ = some (.int .i64 tick) := Blk.cell (unhide B1).2 3
  have x4 : w1.cell? ⟨w.heap.size, 4, none⟩ = some (.int .i64 gate) := Blk.cell (unhide B1).2 4
  have x5 : w1.cell? ⟨w.heap.size, 5, none⟩ = some (.int .i64 rmin) := Blk.cell (unhide B1).2 5
  have x6 : w1.cell? ⟨w.heap.size, 6, none⟩ = some (.slice ro rl rc) := Blk.cell (unhide B1).2 6
  have q1 : w.heap.size < w1.heap.size := Blk.lt (unhide B1).2
  clear k1 DM HB
  gi_wp2_with (refine ⟨trivial, ?_⟩; gi_at_call 28; refine (callsIn_wide.2 (unhide RM _)).mono ?_; rintro e w' ⟨rfl, rfl⟩)
  obtain ⟨G, hG⟩ : ∃ G, w1.heap.size = G := ⟨_, rfl⟩
  simp only [hG]
  obtain ⟨W0, hW0⟩ : ∃ W0, ((((w1.alloc (.cells zc 41)).alloc (.cells #[.slice (some ⟨G, 0, none⟩) m m] 23)).alloc (.cells #[.int .i64 N, .slice aa al ac, .slice qa ql qc, .int .i64 tick, .int .i64 gate, .int .i64 rmin, .slice ro rl rc] 25)).alloc (.cells #[.int .i64 s] 3)) = W0 := ⟨_, rfl⟩
  have ST : RsI w G m [] W0 ∧ ItR (G + 1 + 1) (G + 1 + 1 + 1) (MCs N aa qa ro al ac ql qc rl rc tick gate rmin) s ro rl X W0 ∧ W0.heap.size = G + 4 := by
    rw [← hW0]
    have g0 : Grown w1 (w1.alloc (.cells zc 41)) := (Grown.refl _).alloc _ _
    have b0 := Blk.new w1 zc 41
    have s0 : (w1.alloc (.cells zc 41)).heap.size = G + 1 := by rw [World.size_alloc, hG]
    rw [hG] at b0
    generalize w1.alloc (.cells zc 41) = w2 at *
    have g1 : Grown w2 (w2.alloc (.cells #[.slice (some ⟨G, 0, none⟩) m m] 23)) := (Grown.refl _).alloc _ _
    have b1 := Blk.new w2 #[.slice (some ⟨G, 0, none⟩) m m] 23
    have s1 : (w2.alloc (.cells #[.slice (some ⟨G, 0, none⟩) m m] 23)).heap.size = G + 1 + 1 := by rw [World.size_alloc, s0]
    rw [s0] at b1
    generalize w2.alloc (.cells #[.slice (some ⟨G, 0, none⟩) m m] 23) = w3 at *
    have g2 : Grown w3 (w3.alloc (.cells #[.int .i64 N, .slice aa al ac, .slice qa ql qc, .int .i64 tick, .int .i64 gate, .int .i64 rmin, .slice ro rl rc] 25)) := (Grown.refl _).alloc _ _
    have b2 := Blk.new w3 #[.int .i64 N, .slice aa al ac, .slice qa ql qc, .int .i64 tick, .int .i64 gate, .int .i64 rmin, .slice ro rl rc] 25
    have s2 : (w3.alloc (.cells #[.int .i64 N, .slice aa al ac, .slice qa ql qc, .int .i64 tick, .int .i64 gate, .int .i64 rmin, .slice ro rl rc] 25)).heap.size = G + 1 + 1 + 1 := by rw [World.size_alloc, s1]
    rw [s1] at b2
    generalize w3.alloc (.cells #[.int .i64 N, .slice aa al ac, .slice qa ql qc, .int .i64 tick, .int .i64 gate, .int .i64 rmin, .slice ro rl rc] 25) = w4 at *
    have g3 : Grown w4 (w4.alloc (.cells #[.int .i64 s] 3)) := (Grown.refl _).alloc _ _
    have b3 := Blk.new w4 #[.int .i64 s] 3
    have s3 : (w4.alloc (.cells #[.int .i64 s] 3)).heap.size = G + 1 + 1 + 1 + 1 := by rw [World.size_alloc, s2]
    rw [s2] at b3
    generalize w4.alloc (.cells #[.int .i64 s] 3) = w5 at *
    have gw := gtrans (gtrans (gtrans g0 g1) g2) g3
    have kw := (unhide B1).1.grown gw
    refine ⟨⟨Nat.zero_le _, ⟨[], ⟨zc, Blk.grown (Blk.grown (Blk.grown b0 g1) g2) g3, (unhide HZ).1, fun i x hx => by cases hx⟩, rfl, fun i x y hx => (by cases hx), fun i j x z B C _ hx => (by cases hx)⟩, Blk.grown (Blk.grown b1 g2) g3, kw, by omega⟩, ⟨Blk.grown b2 g3, b3, hr.kp kw⟩, s3⟩
  rw [hW0]
  clear hW0 RM MK
  obtain ⟨it0, it, sz⟩ := ST
  have hGw : w.heap.size < G := by omega
  clear x0 x1 x2 x3 x4 x5 x6 q1
  refine range_own (P := Try.prog) (encs := encRw) (St := Grown) (D := fun q => q = G ∨ G + 4 ≤ q) (Px := nextR X s rl) (Pp := fun _ => True) (S := fun xs _ => xs = sq X s rl) (Sp := fun _ _ => True) rfl (by omega) (gf := 50) (lb := #[.pointer (some ⟨G + 1 + 1, 0, none⟩), .pointer (some ⟨G + 1 + 1 + 1, 0, none⟩)]) rfl trivial (enters_of Try.func50 (by kernel_rfl) rfl) (fun _ => rfl)
    (fun A B q x hs _ hx _ => (gblock hs (Array.getElem?_eq_some_iff.1 hx).1).trans hx)
    (fun l J Jx W hg hJ hY h0 => ?seq)
    (fun pre W => RsI w G m pre W)
    (fun c pre W => False)
    (fun pre W W' row h hg hr => h.own (by omega) hg hr)
    (fun c pre W W' row h hg hr => h)
    (fun _ _ _ _ h _ _ => h)
    (fun _ _ _ _ h _ _ => h)
    (fun pre A B h g => h.kp (Kp.of g))
    (fun pre W h => trivial)
    it0
    (fun x a' W => ∃ Bx, G + 4 ≤ Bx ∧ Blk Bx x.1.cells 41 W ∧ a' = { tmps := #[.agg #[.int .i64 N, .slice aa al ac, .slice qa ql qc, .int .i64 tick, .int .i64 gate, .int .i64 rmin, .slice ro rl rc], .int .i64 s, .pointer (some ⟨w.heap.size, 0, none⟩), undef, .slice none 0 0, .pointer (some ⟨G + 1, 0, none⟩), .int .i64 (x.2 : Nat), .pointer (some ⟨Bx, 0, none⟩), .agg #[.int .i64 N, .slice aa al ac, .slice qa ql qc, .int .i64 tick, .int .i64 gate, .int .i64 rmin, .slice ro rl rc], .int .i64 s, .int .i64 m, .slice (some ⟨G, 0, none⟩) m m, .agg #[.int .i64 N, .slice aa al ac, .slice qa ql qc, .int .i64 tick, .int .i64 gate, .int .i64 rmin, .slice ro rl rc], .int .i64 s, .func (.func 50) #[] #[.pointer (some ⟨G + 1 + 1, 0, none⟩), .pointer (some ⟨G + 1 + 1 + 1, 0, none⟩)], .int .i64 (x.2 : Nat), .agg x.1.cells, undef, undef, undef, undef, undef, undef, undef, undef, undef], defers := [] })
    (fun x a' _ W W' row h hg hr => let ⟨Bx, h1, h2, h3⟩ := h; ⟨Bx, h1, blk_own h2 hg (fun r e => (hr r e).2), h3⟩)
    ?assign ?body ?done ?stop
  case seq =>
    refine (mRows_in _ l (G + 1 + 1) (G + 1 + 1 + 1) (by omega) (fun q => q = G ∨ G + 4 ≤ q) N aa qa ro al ac ql qc rl rc tick gate rmin s X hl J Jx hJ (fun pre x W1 hJ1 hx => hY pre x W1 hJ1 hx) (by omega) (by omega) (fun b o e h0 => by have := lo b o e h0; omega) W ?_ h0)
    exact ⟨(hg.block _ (Blk.lt it.1) (by simp)).trans it.1, (hg.block _ (Blk.lt it.2.1) (by simp)).trans it.2.1, it.2.2.cells (fun b o v _ hv => hg.cell hv (by simp))⟩
  case assign =>
    intro l pre x W K hI hK
    dsimp only [encRw, RV.cells]
    clear it it0 hr lo hh
    gi_wp2
    exact hK _ _ ((KeepsOthers.alloc _ _).from _) (KC.of (fun q hq _ => gblock ((Grown.refl _).alloc _ _) hq) (by simp)) (hI.kp ((Kp.refl _).alloc _ _)) ⟨W.heap.size, hI.2.2.2.2, Blk.new _ _ _, rfl⟩
  case body =>
    rintro l pre x a' W hI ⟨Bx, hBx, bX, rfl⟩ ⟨k, hk, hks, hpre, hx⟩
    obtain ⟨p, hp⟩ : ∃ p, pre.length = p := ⟨_, rfl⟩
    have hx2 : x.2 = p := by rw [hx]; exact hp
    have hpm : p < m := by
      have := seen_lt hk hks
      rw [← hp, hpre, sq_len, ← (unhide HZ).2.2]
      exact this
    obtain ⟨s1, ⟨ha, n1, hc, Z⟩, r1, hX⟩ : ∃ s h r, X k = ⟨s, h, r⟩ := ⟨_, _, _, rfl⟩
    have hx1 : x.1 = ⟨s1, ⟨ha, n1, hc, Z⟩, r1⟩ := by rw [hx]; exact hX
    rw [hx1] at bX ⊢
    rw [hx2]
    dsimp only [RV.cells] at bX ⊢
    have hrow := hh k hk
    rw [hX] at hrow
    dsimp only at hrow
    have CL := hide (mClone ha n1 hc Z hrow.2.1 hrow.2.2 W (hrow.1.kp hI.2.2.2.1))
    have HS := hide (And.intro hI (And.intro bX (And.intro hp (And.intro hpm hx1))))
    have x1 : W.cell? ⟨Bx, 1, none⟩ = some (.slice ha n1 hc) := Blk.cell bX 1
    have nG : G ≠ Bx := by omega
    have nG1 : G + 1 ≠ Bx := by omega
    have p0 : (0 : Int) ≤ (p : Int) := Int.natCast_nonneg _
    have p1 : (p : Int) < (m : Int) := Int.ofNat_lt.2 hpm
    clear hI bX hp hpm hx hx1 hx2 hrow hX hpre hks hk it it0 hr lo hh
    gi_wp2_with fail
    refine ⟨trivial, ?_⟩
    refine (CallsIn.inRound l (callsIn_wide.2 (unhide CL))).mono ?_
    rintro e w2 ⟨a, c, rfl, hac, hO, k2⟩
    have P := hide ((unhide HS).1.put hGw (unhide HS).2.2.1 (unhide HS).2.2.2.1 (unhide HS).2.2.2.2 hBx (unhide HS).2.1 k2 hac hO)
    have bx2 := Blk.kp (unhide HS).2.1 k2
    have lx2 := Blk.kp (unhide HS).1.2.2.1 k2
    obtain ⟨ls, ⟨cur, c1, c2, _⟩, _⟩ := (unhide HS).1.2.1
    have cu2 := Blk.kp c1 k2
    have z0 : w2.cell? ⟨Bx, 0, none⟩ = some (.int .i64 s1) := Blk.cell bx2 0
    have z1 : w2.cell? ⟨Bx, 1, none⟩ = some (.slice ha n1 hc) := Blk.cell bx2 1
    have z2 : w2.cell? ⟨Bx, 2, none⟩ = some (.int .i64 r1) := Blk.cell bx2 2
    have fx := Blk.free bx2
    have y0 : w2.cell? ⟨G + 1, 0, none⟩ = some (.slice (some ⟨G, 0, none⟩) m m) := Blk.cell lx2 0
    have pm : p * 3 + 2 < cur.size := by have := (unhide HS).2.2.2.1; omega
    obtain ⟨v0, hv0⟩ : ∃ v, cur[p * 3]? = some v := ⟨_, Array.getElem?_eq_getElem (by omega)⟩
    obtain ⟨v1, hv1⟩ : ∃ v, cur[p * 3 + 1]? = some v := ⟨_, Array.getElem?_eq_getElem (by omega)⟩
    obtain ⟨v2, hv2⟩ : ∃ v, cur[p * 3 + 2]? = some v := ⟨_, Array.getElem?_eq_getElem (by omega)⟩
    have u0 : w2.cell? ⟨G, p * 3, none⟩ = some v0 := by rw [Blk.cell cu2, hv0]
    have u1 : w2.cell? ⟨G, p * 3 + 1, none⟩ = some v1 := by rw [Blk.cell cu2, hv1]
    have u2 : w2.cell? ⟨G, p * 3 + 2, none⟩ = some v2 := by rw [Blk.cell cu2, hv2]
    have fg := Blk.free cu2
    have mG : Bx ≠ G := nG.symm
    clear CL k2 hac hO x1 bx2 lx2 c1 c2 cu2 pm hv0 hv1 hv2
    gi_wp2
    exact ⟨(unhide P).2.1.from _, (unhide P).2.2, (unhide P).1⟩
  case done =>
    rintro d xs W hd rfl hI hDf
    have c0 : W.cell? ⟨G + 1, 0, none⟩ = some (.slice (some ⟨G, 0, none⟩) m m) := Blk.cell hI.2.2.1 0
    have gD := grownBy_putObj' W d (.deferred none)
    have R : Hid (RsI w G m (sq X s rl) (W.putObj d (.deferred none))) := hI.own (B := W0.heap.size) (by omega) gD (fun r e => by cases e; exact ⟨hd, _, hDf, rfl⟩)
    clear it it0 hr lo hh hI
    gi_wp2
    refine ⟨by simp, .inl ⟨_, _, rfl, run_takeDeferred hDf, ?_⟩⟩
    refine ⟨.slice (some ⟨G, 0, none⟩) m m, by simp [results, Try.results13, go_sem], ?_⟩
    exact rsI_end hGw (unhide HZ).2.2 hl (unhide R)
  case stop =>
    rintro d c pre W hd hSp h
    exact h.elim
end
end Go.Proofs.Ytpanfppnkgokdaa

/- Package model: all of what the laws want. -/
namespace Go.Proofs.Ytpanfppnkgokdaa
open Go.RowKit Go.Shelf Go.Proofs Go.Proofs.Wd
set_option linter.unusedVariables false
set_option linter.unusedSimpArgs false
set_option maxRecDepth 10000

theorem RVs.low {w : World} {ro : Option Addr} {n : Nat} {X : Nat → RV} (h : RVs w ro n X) : ∀ b o, ro = some ⟨b, o, none⟩ → 0 < n → b < w.heap.size := fun b o e h0 => by
  obtain ⟨b', o', e', c, _⟩ := h.at h0
  rw [e] at e'
  cases e'
  exact heap_gt c
theorem pDim : PDim := fun m s w _ h => mDim m.N m.A.ao m.Q.ao m.ro m.A.len m.A.cap m.Q.len m.Q.cap m.rl m.rc m.tick m.gate m.rmin s m.X (by have := h.2.2.2.2.2.2.2.2.1; omega) w h.2.2.1 h.2.2.1.low
theorem pRows : PRows := fun m s w _ h => mRowsOf m.N m.A.ao m.Q.ao m.ro m.A.len m.A.cap m.Q.len m.Q.cap m.rl m.rc m.tick m.gate m.rmin s m.X (by have := h.2.2.2.2.2.2.2.2.1; omega) w h.2.2.1 h.2.2.1.low (fun i hi => ⟨(h.2.2.2.1 i hi).1.1, by have := h.2.2.2.2.2.2.2.2.2 i hi; omega, (h.2.2.2.1 i hi).1.2.1.2⟩)
theorem lawAwakeMdl (w : World) : Calls Try.prog 10 #[] w fun e w' => e = .returned (.bool true) ∧ Kp w w' := lawAwake10 pCheck pDim pRows pFits w

end Go.Proofs.Ytpanfppnkgokdaa

/- As RegM and RegN; what calls made lies apart, boxes too; of what a call made a witness is kept. -/
namespace Go.Proofs.Ytpanfppnkgokdaa
open Go.RowKit Go.Shelf Go.Proofs.Wd
set_option linter.unusedVariables false
set_option linter.unusedSimpArgs false
set_option maxRecDepth 10000

/-- What each operation must do. -/
def OpOK3 (ops : Array Oper) (Q : Exit → Act → World → Prop) (KL : List OpK) (a0 : Act) (S : World → Prop) (H : Nat) (i : Nat) (aft : Array Edge) : OpK → Prop
  | .pure d v => ∀ (a : Act) (w : World) (K : Act → World → Prop), Sl (KL.filterMap OpK.dst) a0 a → Kn KL aft a w → S w → K (a.put (some d) v) w → wpOp Try.prog ops Q i K a w
  | .call d G => ∀ (a : Act) (w : World) (K : Act → World → Prop), Sl (KL.filterMap OpK.dst) a0 a → Kn KL aft a w → S w → H ≤ w.heap.size → (∀ v w' Bs F, Kp w w' → (∀ k ∈ Bs, w.heap.size ≤ k ∧ k < w'.heap.size) → Dep Bs F → F w' → (∀ wx, F wx → G v wx) → K (a.put (some d) v) w') → wpOp Try.prog ops Q i K a w
  | .alloc d cs T => ∀ (a : Act) (w : World) (K : Act → World → Prop), K (a.put (some d) (.pointer (some ⟨w.heap.size, 0, none⟩))) (w.alloc (.cells cs T)) → wpOp Try.prog ops Q i K a w
  | .store ia ic fl => ∃ da cs T dc G, KL[ia]? = some (.alloc da cs T) ∧ KL[ic]? = some (.call dc G) ∧ waits aft ia = true ∧ waits aft ic = true ∧ onlyStore KL ia i = true ∧
      ∀ (a : Act) (w : World) (K : Act → World → Prop) A v, a.tmps[da]? = some (.pointer (some ⟨A, 0, none⟩)) → a.tmps[dc]? = some v → G v w → Blk A cs T w → (∀ w', Mk A w w' → Blk A (fl v) T w' → K a w') → wpOp Try.prog ops Q i K a w
  | .same d j => ∃ dj G, KL[j]? = some (.call dj G) ∧ waits aft j = true ∧ ∀ (a : Act) (w : World) (K : Act → World → Prop) v, a.tmps[dj]? = some v → K (a.put (some d) v) w → wpOp Try.prog ops Q i K a w

/-- What is known of an operation that has come up. -/
def Item3 (KL : List OpK) (listed : Array Bool) (vals : Nat → Value) (addr : Nat → Nat) (gs : Nat → List Nat) (fs : Nat → World → Prop) (H : Nat) (a : Act) (w : World) (i : Nat) : OpK → Prop
  | .pure d v => a.tmps[d]? = some v
  | .call d G => a.tmps[d]? = some (vals i) ∧ (fs i w ∧ ∀ wx, fs i wx → G (vals i) wx) ∧ Dep (gs i) (fs i) ∧ ∀ k ∈ gs i, k < w.heap.size ∧ ∀ j d cs T, KL[j]? = some (.alloc d cs T) → listed.getD j false = true → addr j ≠ k
  | .alloc d cs T => a.tmps[d]? = some (.pointer (some ⟨addr i, 0, none⟩)) ∧ H ≤ addr i ∧ addr i < w.heap.size ∧ (∀ j d cs T, j ≠ i → KL[j]? = some (.alloc d cs T) → listed.getD j false = true → addr j ≠ addr i) ∧ ((∀ s ic fl, KL[s]? = some (.store i ic fl) → listed.getD s false = false) → Blk (addr i) cs T w)
  | .store ia ic fl => ∀ d cs T, KL[ia]? = some (.alloc d cs T) → listed.getD ia false = true ∧ listed.getD ic false = true ∧ Blk (addr ia) (fl (vals ic)) T w
  | .same d j => a.tmps[d]? = some (vals j) ∧ listed.getD j false = true
def ApG (KL : List OpK) (listed : Array Bool) (gs : Nat → List Nat) : Prop := ∀ i j d G d' G', i ≠ j → KL[i]? = some (.call d G) → KL[j]? = some (.call d' G') → listed.getD i false = true → listed.getD j false = true → ∀ k ∈ gs i, k ∉ gs j
theorem ApG.other {KL : List OpK} {listed : Array Bool} {gs : Nat → List Nat} {i : Nat} {ki : OpK} (h : ApG KL listed gs) (hi : KL[i]? = some ki) (hk : ∀ d G, ki ≠ .call d G) : ApG KL (listed.setIfInBounds i true) gs := fun x y d G d' G' hxy hx hy lx ly => by
  have nx : x ≠ i := fun e => by subst e; rw [hi] at hx; cases hx; exact hk d G rfl
  have ny : y ≠ i := fun e => by subst e; rw [hi] at hy; cases hy; exact hk d' G' rfl
  exact h x y d G d' G' hxy hx hy ((listed_cases lx).resolve_left nx) ((listed_cases ly).resolve_left ny)
theorem ApG.call {KL : List OpK} {listed : Array Bool} {gs : Nat → List Nat} {i n : Nat} {Bs : List Nat} (h : ApG KL listed gs) (hB : ∀ x ∈ Bs, n ≤ x) (ho : ∀ j d G, KL[j]? = some (.call d G) → listed.getD j false = true → ∀ x ∈ gs j, x < n) : ApG KL (listed.setIfInBounds i true) (fun x => if x = i then Bs else gs x) := fun x y d G d' G' hxy hx hy lx ly k hkx hky => by
  have kx : k ∈ (if x = i then Bs else gs x) := hkx
  have ky : k ∈ (if y = i then Bs else gs y) := hky
  clear hkx hky
  by_cases ex : x = i
  · subst ex
    have ey : y ≠ x := fun e => hxy e.symm
    simp only [if_pos] at kx
    rw [if_neg ey] at ky
    have := hB k kx
    have := ho y d' G' hy ((listed_cases ly).resolve_left ey) k ky
    omega
  · rw [if_neg ex] at kx
    by_cases ey : y = i
    · subst ey
      simp only [if_pos] at ky
      have := hB k ky
      have := ho x d G hx ((listed_cases lx).resolve_left ex) k kx
      omega
    · rw [if_neg ey] at ky
      exact h x y d G d' G' hxy hx hy ((listed_cases lx).resolve_left ex) ((listed_cases ly).resolve_left ey) k kx ky
def JM3 (KL : List OpK) (a0 : Act) (S : World → Prop) (H : Nat) (n : Nat) (listed : Array Bool) (a : Act) (w : World) : Prop :=
  listed.size = KL.length ∧ n = listed.toList.count false ∧ Sl (KL.filterMap OpK.dst) a0 a ∧ S w ∧ H ≤ w.heap.size ∧ ∃ vals addr gs fs, (∀ i k, KL[i]? = some k → listed.getD i false = true → Item3 KL listed vals addr gs fs H a w i k) ∧ ApG KL listed gs
def FinI3 (KL : List OpK) (vals : Nat → Value) (addr : Nat → Nat) (gs : Nat → List Nat) (fs : Nat → World → Prop) (H : Nat) (w : World) (i : Nat) : OpK → Prop
  | .pure d v => True
  | .call d G => fs i w ∧ (∀ wx, fs i wx → G (vals i) wx) ∧ Dep (gs i) (fs i)
  | .alloc d cs T => H ≤ addr i ∧ addr i < w.heap.size ∧ ∀ j d cs T, j ≠ i → KL[j]? = some (.alloc d cs T) → addr j ≠ addr i
  | .store ia ic fl => ∀ d cs T, KL[ia]? = some (.alloc d cs T) → Blk (addr ia) (fl (vals ic)) T w
  | .same _ _ => True

theorem Item3.kn {KL : List OpK} {listed : Array Bool} {vals : Nat → Value} {addr : Nat → Nat} {gs : Nat → List Nat} {fs : Nat → World → Prop} {H : Nat} {a : Act} {w : World} {i : Nat} {k : OpK} (h : Item3 KL listed vals addr gs fs H a w i k) : KnJ a w k := by
  cases k with
  | pure d v => exact h
  | call d G => exact ⟨_, h.1, h.2.1.2 _ h.2.1.1⟩
  | alloc d cs T => exact ⟨_, h.1⟩
  | store ia ic fl => trivial
  | same d j => exact ⟨_, h.1⟩

/-- The world has grown: what is known of the others stays. -/
theorem Item3.grow {KL : List OpK} {listed : Array Bool} {vals : Nat → Value} {addr : Nat → Nat} {gs : Nat → List Nat} {fs : Nat → World → Prop} {H : Nat} {a : Act} {w w' : World} {i j d : Nat} {k : OpK} {v : Value} {vals' : Nat → Value} {addr' : Nat → Nat} {gs' : Nat → List Nat} {fs' : Nat → World → Prop} {ki : OpK} (hd : apartD KL = true)
    (hi : KL[i]? = some ki) (hdi : ki.dst = some d) (hl : listed.getD i true = false) (kk : Kp w w')
    (ev : ∀ x, x ≠ i → vals' x = vals x) (ea : ∀ x, x ≠ i → addr' x = addr x) (eg : ∀ x, x ≠ i → gs' x = gs x) (ef : ∀ x, x ≠ i → fs' x = fs x) (ei : ∀ d cs T, ki = .alloc d cs T → w.heap.size ≤ addr' i)
    (hj : KL[j]? = some k) (hji : j ≠ i) (hlj : listed.getD j false = true) (h : Item3 KL listed vals addr gs fs H a w j k) :
    Item3 KL (listed.setIfInBounds i true) vals' addr' gs' fs' H (a.put (some d) v) w' j k := by
  have ne : ∀ d', k.dst = some d' → d ≠ d' := fun d' e e' => hji (apartD_spec hd hj hi e (by rw [hdi, e']))
  have li : listed.getD i false = false := by
    cases hx : listed.getD i false with
    | false => rfl
    | true =>
      rw [Array.getD_eq_getD_getElem?] at hx hl
      cases he : listed[i]? with
      | none => rw [he] at hx; cases hx
      | some b => rw [he] at hx hl; simp at hx hl; rw [hx] at hl; cases hl
  cases k with
  | pure d' v' => exact (put_ne (ne d' rfl)).trans h
  | call d' G =>
    obtain ⟨h1, h2, h3, h4⟩ := h
    show _ ∧ _ ∧ _ ∧ _
    rw [ev j hji, eg j hji, ef j hji]
    refine ⟨(put_ne (ne d' rfl)).trans h1, ⟨h3 w w' (fun x hx => kk.2.2.1 x (h4 x hx).1) h2.1, h2.2⟩, h3, fun x hx => ⟨Nat.lt_of_lt_of_le (h4 x hx).1 kk.2.2.2, fun m d1 cs T hm hml => ?_⟩⟩
    by_cases hmi : m = i
    · subst hmi
      rw [hi] at hm
      have := ei d1 cs T (Option.some.inj hm)
      have := (h4 x hx).1
      omega
    · rw [ea m hmi]
      exact (h4 x hx).2 m d1 cs T hm (by rwa [getD_ne (Ne.symm hmi)] at hml)
  | alloc d' cs T =>
    obtain ⟨h1, h2, h3, h4, h5⟩ := h
    show _ ∧ _ ∧ _ ∧ _ ∧ _
    rw [ea j hji]
    refine ⟨(put_ne (ne d' rfl)).trans h1, h2, Nat.lt_of_lt_of_le h3 kk.2.2.2, fun m d1 cs1 T1 hmj hm hml => ?_, fun hs => Blk.kp (h5 fun s ic fl hs1 => ?_) kk⟩
    · by_cases hmi : m = i
      · subst hmi
        rw [hi] at hm
        have := ei d1 cs1 T1 (Option.some.inj hm)
        omega
      · rw [ea m hmi]
        exact h4 m d1 cs1 T1 hmj hm (by rwa [getD_ne (Ne.symm hmi)] at hml)
    · by_cases hsi : s = i
      · subst hsi; exact li
      · have := hs s ic fl hs1
        rwa [getD_ne (Ne.symm hsi)] at this
  | store ia ic fl =>
    intro d1 cs T ha
    obtain ⟨h1, h2, h3⟩ := h d1 cs T ha
    have na : ia ≠ i := fun e => by rw [e, li] at h1; cases h1
    have nc : ic ≠ i := fun e => by rw [e, li] at h2; cases h2
    rw [getD_ne (Ne.symm na), getD_ne (Ne.symm nc), ea ia na, ev ic nc]
    exact ⟨h1, h2, Blk.kp h3 kk⟩
  | same d' m =>
    obtain ⟨h1, h2⟩ := h
    have nm : m ≠ i := fun e => by rw [e, li] at h2; cases h2
    show _ ∧ _
    rw [ev m nm, getD_ne (Ne.symm nm)]
    exact ⟨(put_ne (ne d' rfl)).trans h1, h2⟩

/-- A fresh block is filled: what is known of the others stays. -/
theorem Item3.fill {KL : List OpK} {listed : Array Bool} {vals : Nat → Value} {addr : Nat → Nat} {gs : Nat → List Nat} {fs : Nat → World → Prop} {H : Nat} {a : Act} {w w' : World} {i j ia ic : Nat} {fl : Value → Array Value} {k : OpK}
    (hi : KL[i]? = some (.store ia ic fl)) (ho : onlyStore KL ia i = true) {da : Nat} {cs : Array Value} {T : TypeId} (hia : KL[ia]? = some (.alloc da cs T)) (hla : listed.getD ia false = true) (hisz : i < listed.size) (kk : Mk (addr ia) w w')
    (hst : ∀ (j ia' ic' : Nat) (fl' : Value → Array Value), KL[j]? = some (OpK.store ia' ic' fl') → ∃ (da : Nat) (cs : Array Value) (T : TypeId), KL[ia']? = some (OpK.alloc da cs T)) (hA : Item3 KL listed vals addr gs fs H a w ia (.alloc da cs T))
    (hj : KL[j]? = some k) (hji : j ≠ i) (h : Item3 KL listed vals addr gs fs H a w j k) :
    Item3 KL (listed.setIfInBounds i true) vals addr gs fs H a w' j k := by
  have nia : ∀ m d1 cs1 T1, KL[m]? = some (.alloc d1 cs1 T1) → i ≠ m := fun m d1 cs1 T1 hm e => by rw [← e, hi] at hm; cases hm
  cases k with
  | pure d' v' => exact h
  | call d' G =>
    obtain ⟨h1, h2, h3, h4⟩ := h
    refine ⟨h1, ⟨h3 w w' (fun x hx => kk.2.2.1 x (h4 x hx).1 (Ne.symm ((h4 x hx).2 ia _ _ _ hia hla))) h2.1, h2.2⟩, h3, fun x hx => ⟨Nat.lt_of_lt_of_le (h4 x hx).1 kk.2.2.2, fun m d1 cs T hm hml => ?_⟩⟩
    exact (h4 x hx).2 m d1 cs T hm (by rwa [getD_ne (nia _ _ _ _ hm)] at hml)
  | alloc d' cs' T' =>
    obtain ⟨h1, h2, h3, h4, h5⟩ := h
    refine ⟨h1, h2, Nat.lt_of_lt_of_le h3 kk.2.2.2, fun m d1 cs1 T1 hmj hm hml => h4 m d1 cs1 T1 hmj hm (by rwa [getD_ne (nia _ _ _ _ hm)] at hml), fun hs => ?_⟩
    by_cases hja : j = ia
    · subst hja
      have := hs i ic fl hi
      rw [Array.getD_eq_getD_getElem?, Array.getElem?_setIfInBounds_self_of_lt hisz] at this
      cases this
    · refine Blk.mk (h5 fun s ic' fl' hs1 => ?_) kk (fun e => h4 ia _ _ _ (Ne.symm hja) hia hla e.symm)
      have := hs s ic' fl' hs1
      by_cases hsi : s = i
      · subst hsi
        rw [hi] at hs1
        cases hs1
        exact absurd rfl hja
      · rwa [getD_ne (Ne.symm hsi)] at this
  | store ia' ic' fl' =>
    intro d1 cs1 T1 ha
    obtain ⟨h1, h2, h3⟩ := h d1 cs1 T1 ha
    have na : ia' ≠ ia := fun e => by
      subst e
      exact hji (onlyStore_spec ho hj)
    refine ⟨by rwa [getD_ne (nia _ _ _ _ ha)], ?_, Blk.mk h3 kk (hA.2.2.2.1 ia' _ _ _ na ha h1)⟩
    by_cases hc : i = ic'
    · subst hc
      rw [Array.getD_eq_getD_getElem?, Array.getElem?_setIfInBounds_self_of_lt hisz]
      rfl
    · rwa [getD_ne hc]
  | same d' m =>
    obtain ⟨h1, h2⟩ := h
    refine ⟨h1, ?_⟩
    by_cases hc : i = m
    · subst hc
      rw [Array.getD_eq_getD_getElem?, Array.getElem?_setIfInBounds_self_of_lt hisz]
      rfl
    · rwa [getD_ne hc]

set_option maxHeartbeats 1000000 in
theorem regM3 {ops : Array Oper} {Q : Exit → Act → World → Prop} {id : Nat} {a0 : Act} {w : World} (KL : List OpK) (S : World → Prop)
    (hm : Try.prog.follows .mixedOrders = true) (hs : ops.size = KL.length) (hbk : backs ops = true) (hd : apartD KL = true) (hz : ∀ d ∈ KL.filterMap OpK.dst, d < a0.tmps.size)
    (hst : ∀ (j ia' ic' : Nat) (fl' : Value → Array Value), KL[j]? = some (OpK.store ia' ic' fl') → ∃ (da : Nat) (cs : Array Value) (T : TypeId), KL[ia']? = some (OpK.alloc da cs T))
    (hop : ∀ i o k, ops[i]? = some o → KL[i]? = some k → OpOK3 ops Q KL a0 S w.heap.size i o.after k)
    (hS : S w.drew) (hSk : ∀ a b, Kp a b → S a → S b) (hSm : ∀ A a b, w.heap.size ≤ A → Mk A a b → S a → S b)
    (fin : ∀ (vals : Nat → Value) (addr : Nat → Nat) (gs : Nat → List Nat) (fs : Nat → World → Prop) (w' : World), S w' → w.heap.size ≤ w'.heap.size → (∀ i k, KL[i]? = some k → FinI3 KL vals addr gs fs w.heap.size w' i k) → (∀ i j d G d' G', i ≠ j → KL[i]? = some (.call d G) → KL[j]? = some (.call d' G') → ∀ k ∈ gs i, k ∉ gs j) →
      Q .normal ⟨(putsL vals addr 0 KL).foldl (fun t p => t.setIfInBounds p.1 p.2) a0.tmps, a0.defers⟩ w') :
    (Code.region id ops true).wp Try.prog Q a0 w := by
  refine wp_region_any hm ?_
  refine wpAny_inv (JM3 KL a0 S w.heap.size) ?_ ?_ ops.size _ _ _ ?_
  · rintro listed a w1 ⟨j1, j2, sl, hx, hH, vals, addr, gs, fs, it, ag⟩
    have all : ∀ i k, KL[i]? = some k → listed.getD i false = true := fun i k hk => by
      have hi : i < listed.size := by rw [j1]; exact len_of hk
      have e : listed.toList[i]? = some listed[i] := by simp [hi]
      rw [Array.getD_eq_getD_getElem?, Array.getElem?_eq_getElem hi]
      exact count_zero j2.symm e
    refine ⟨?_, ?_⟩
    · apply List.eq_nil_iff_forall_not_mem.2
      intro i hi
      obtain ⟨h1, h2, _⟩ := ready_mem hi
      obtain ⟨hi', h3⟩ := getD_false h2
      have h4 := all i KL[i] (by rw [List.getElem?_eq_getElem])
      rw [Array.getD_eq_getD_getElem?, h3] at h4
      cases h4
    · have ea : a = ⟨(putsL vals addr 0 KL).foldl (fun t p => t.setIfInBounds p.1 p.2) a0.tmps, a0.defers⟩ := by
        obtain ⟨t, df⟩ := a
        obtain ⟨s1, s2, s3⟩ := sl
        have ed : df = a0.defers := s1
        subst ed
        congr 1
        apply Array.ext_getElem?
        intro x
        rcases fold_put (putsL vals addr 0 KL) a0.tmps (fun p hp => hz _ (by rw [← putsL_fst (vals := vals) (addr := addr) 0 KL]; exact List.mem_map_of_mem hp)) (fun p hp q hq e => by
          obtain ⟨i, k, h1, h2, h3⟩ := putsL_mem hp
          obtain ⟨i', k', h1', h2', h3'⟩ := putsL_mem hq
          obtain rfl := apartD_spec hd h1 h1' h2 (by rw [h2', e])
          rw [h1] at h1'
          cases h1'
          rw [h3, h3']) x with ⟨h1, h2⟩ | ⟨p, hp, rfl, h⟩
        · rw [h1]
          rw [putsL_fst] at h2
          exact s3 x h2
        · rw [h]
          obtain ⟨i, k, h1, h2, h3⟩ := putsL_mem hp
          have I := it i k h1 (all i k h1)
          rw [h3, Nat.zero_add]
          cases k with
          | pure d v => cases h2; exact I
          | call d G => cases h2; exact I.1
          | alloc d cs T => cases h2; exact I.1
          | store ia ic fl => cases h2
          | same d j => cases h2; exact I.1
      rw [ea]
      refine fin vals addr gs fs w1 hx hH (fun i k hk => ?_) (fun i j d G d' G' hij hi hj => ag i j d G d' G' hij hi hj (all i _ hi) (all j _ hj))
      have I := it i k hk (all i k hk)
      cases k with
      | pure d v => trivial
      | call d G => exact ⟨I.2.1.1, I.2.1.2, I.2.2.1⟩
      | alloc d cs T => exact ⟨I.2.1, I.2.2.1, fun j d' cs' T' hji hj => I.2.2.2.1 j d' cs' T' hji hj (all j _ hj)⟩
      | store ia ic fl => exact fun d cs T ha => (I d cs T ha).2.2
      | same d j => trivial
  · rintro n listed a w1 ⟨j1, j2, sl, hx, hH, vals, addr, gs, fs, it, ag⟩
    refine ⟨?_, fun i hi => ?_⟩
    · have : ∃ i : Nat, listed.toList[i]? = some false := by
        have : false ∈ listed.toList := List.count_pos_iff.1 (by omega)
        exact List.mem_iff_getElem?.1 this
      obtain ⟨i, hi⟩ := this
      have hi' : listed[i]? = some false := by simpa using hi
      have hlt := (Array.getElem?_eq_some_iff.1 hi').1
      exact ready_ne hbk (by rw [hs, j1]) i i (Nat.le_refl _) (by omega) (by rw [Array.getD_eq_getD_getElem?, hi']; rfl)
    · obtain ⟨hi1, hl, hwt⟩ := ready_mem hi
      obtain ⟨hisz, hlf⟩ := getD_false hl
      obtain ⟨o, ho⟩ : ∃ o, ops[i]? = some o := ⟨ops[i], by simp [hi1]⟩
      obtain ⟨k, hk⟩ : ∃ k, KL[i]? = some k := ⟨KL[i], by rw [List.getElem?_eq_getElem]⟩
      have hok := hop i o k ho hk
      have kn : Kn KL o.after a w1 := fun j kj hw hkj => (it j kj hkj (ready_waits hi ho hw)).kn
      have hcount : n = (listed.setIfInBounds i true).toList.count false := by
        have := count_set listed.toList i (by simpa using hlf)
        rw [Array.toList_setIfInBounds]
        omega
      have hsz' : (listed.setIfInBounds i true).size = KL.length := by rw [Array.size_setIfInBounds, j1]
      have lnot : ∀ j, listed.getD j false = true → j ≠ i := fun j hj e => by
        subst e
        rw [Array.getD_eq_getD_getElem?, hlf] at hj
        cases hj
      cases k with
      | pure d v =>
        refine hok a w1 _ sl kn hx ⟨hsz', hcount, sl.put _ _ (mem_dst hk rfl), hx, hH, vals, addr, gs, fs, (fun j kj hkj hlj => ?_), ag.other hk (fun _ _ e => by cases e)⟩
        by_cases hji : j = i
        · subst hji
          rw [hk] at hkj
          cases hkj
          exact put_same (by rw [sl.2.1]; exact hz _ (mem_dst hk rfl))
        · have hlj' := (listed_cases hlj).resolve_left hji
          exact (it j kj hkj hlj').grow hd hk rfl hl (Kp.refl _) (fun _ _ => rfl) (fun _ _ => rfl) (fun _ _ => rfl) (fun _ _ => rfl) (fun _ _ _ e => by cases e) hkj hji hlj'
      | call d G =>
        refine hok a w1 _ sl kn hx hH fun v w2 Bs F kk hB hdep hF hG => ⟨hsz', hcount, sl.put _ _ (mem_dst hk rfl), hSk _ _ kk hx, Nat.le_trans hH kk.2.2.2, fun x => if x = i then v else vals x, addr, fun x => if x = i then Bs else gs x, fun x => if x = i then F else fs x, (fun j kj hkj hlj => ?_), ag.call (fun x hx => (hB x hx).1) (fun j d G hj hlj x hx => ((it j _ hj hlj).2.2.2 x hx).1)⟩
        by_cases hji : j = i
        · subst hji
          rw [hk] at hkj
          cases hkj
          show _ ∧ _ ∧ _ ∧ _
          simp only [if_pos]
          refine ⟨put_same (by rw [sl.2.1]; exact hz _ (mem_dst hk rfl)), ⟨hF, hG⟩, hdep, fun x hx => ⟨(hB x hx).2, fun m d1 cs T hm hml => ?_⟩⟩
          have hmi : m ≠ j := fun e => by subst e; rw [hk] at hm; cases hm
          have hml' := (listed_cases hml).resolve_left hmi
          have := (it m _ hm hml').2.2.1
          have := (hB x hx).1
          omega
        · have hlj' := (listed_cases hlj).resolve_left hji
          exact (it j kj hkj hlj').grow hd hk rfl hl kk (fun x hx => if_neg hx) (fun _ _ => rfl) (fun x hx => if_neg hx) (fun x hx => if_neg hx) (fun _ _ _ e => by cases e) hkj hji hlj'
      | alloc d cs T =>
        have kk : Kp w1 (w1.alloc (.cells cs T)) := (Kp.refl _).alloc _ _
        refine hok a w1 _ ⟨hsz', hcount, sl.put _ _ (mem_dst hk rfl), hSk _ _ kk hx, Nat.le_trans hH kk.2.2.2, vals, fun x => if x = i then w1.heap.size else addr x, gs, fs, (fun j kj hkj hlj => ?_), ag.other hk (fun _ _ e => by cases e)⟩
        by_cases hji : j = i
        · subst hji
          rw [hk] at hkj
          cases hkj
          show _ ∧ _ ∧ _ ∧ _ ∧ _
          simp only [if_pos]
          refine ⟨put_same (by rw [sl.2.1]; exact hz _ (mem_dst hk rfl)), hH, by simp, fun m d1 cs1 T1 hmj hm hml => ?_, fun _ => Blk.new w1 _ _⟩
          rw [if_neg hmj]
          have := (it m _ hm ((listed_cases hml).resolve_left hmj)).2.2.1
          omega
        · have hlj' := (listed_cases hlj).resolve_left hji
          exact (it j kj hkj hlj').grow hd hk rfl hl kk (fun _ _ => rfl) (fun x hx => if_neg hx) (fun _ _ => rfl) (fun _ _ => rfl) (fun _ _ _ e => by rw [if_pos rfl]; exact Nat.le_refl _) hkj hji hlj'
      | store ia ic fl =>
        obtain ⟨da, cs, T, dc, G, h1, h2, w1', w2', h5, h6⟩ := hok
        have la := ready_waits hi ho w1'
        have lc := ready_waits hi ho w2'
        have Ia := it ia _ h1 la
        have Ic := it ic _ h2 lc
        refine h6 a w1 _ (addr ia) (vals ic) Ia.1 Ic.1 (Ic.2.1.2 _ Ic.2.1.1) (Ia.2.2.2.2 fun s ic' fl' hs1 => ?_) fun w2 mk bl => ⟨hsz', hcount, sl, hSm _ _ _ Ia.2.1 mk hx, Nat.le_trans hH mk.2.2.2, vals, addr, gs, fs, (fun j kj hkj hlj => ?_), ag.other hk (fun _ _ e => by cases e)⟩
        · obtain rfl := onlyStore_spec h5 hs1
          rw [Array.getD_eq_getD_getElem?, hlf]; rfl
        · by_cases hji : j = i
          · subst hji
            rw [hk] at hkj
            cases hkj
            intro d1 cs1 T1 ha
            rw [h1] at ha
            cases ha
            exact ⟨by rw [getD_ne (Ne.symm (lnot _ la))]; exact la, by rw [getD_ne (Ne.symm (lnot _ lc))]; exact lc, bl⟩
          · have hlj' := (listed_cases hlj).resolve_left hji
            exact Item3.fill hk h5 h1 la hisz mk hst Ia hkj hji (it j kj hkj hlj')
      | same d m =>
        obtain ⟨dm, G, h1, w1', h6⟩ := hok
        have lm := ready_waits hi ho w1'
        have Im := it m _ h1 lm
        refine h6 a w1 _ (vals m) Im.1 ⟨hsz', hcount, sl.put _ _ (mem_dst hk rfl), hx, hH, vals, addr, gs, fs, (fun j kj hkj hlj => ?_), ag.other hk (fun _ _ e => by cases e)⟩
        by_cases hji : j = i
        · subst hji
          rw [hk] at hkj
          cases hkj
          exact ⟨put_same (by rw [sl.2.1]; exact hz _ (mem_dst hk rfl)), by rw [getD_ne (Ne.symm (lnot _ lm))]; exact lm⟩
        · have hlj' := (listed_cases hlj).resolve_left hji
          exact (it j kj hkj hlj').grow hd hk rfl hl (Kp.refl _) (fun _ _ => rfl) (fun _ _ => rfl) (fun _ _ => rfl) (fun _ _ => rfl) (fun _ _ _ e => by cases e) hkj hji hlj'
  · refine ⟨by rw [Array.size_replicate, hs], by simp, Sl.refl _ _, hS, Nat.le_refl _, fun _ => undef, fun _ => 0, fun _ => [], fun _ _ => True, (fun i k hk hl => ?_), fun i j d G d' G' _ _ _ _ _ k hk => absurd hk List.not_mem_nil⟩
    rw [Array.getD_eq_getD_getElem?] at hl
    by_cases hi : i < ops.size
    · simp [hi] at hl
    · simp [hi] at hl


section
variable {ops : Array Oper} {Q : Exit → Act → World → Prop} {KL : List OpK} {a0 : Act} {S : World → Prop} {H i d k j : Nat} {T : TypeId} {pos : String} {aft : Array Edge}
theorem okMove3 {v : Value} (hi : ops[i]? = some ⟨some d, .move (.tmp k), T, pos, aft, none⟩) (hk : (KL.filterMap OpK.dst).contains k = false) (g : a0.tmps[k]? = some v) : OpOK3 ops Q KL a0 S H i aft (.pure d v) := by
  intro a w K sl kn hs h
  refine wpOp_of hi rfl ?_
  have ev := (sl.2.2 k (by simpa using hk)).trans g
  unfold Oper.wp
  simp [go_sem, ev]
  exact h
theorem okCall13 {f dj : Nat} {vj : Value} {T1 : TypeId} {G : Value → World → Prop} (hi : ops[i]? = some ⟨some d, .call ⟨.value (.func f), #[.tmp dj], #[T1]⟩, T, pos, aft, none⟩) (hj : KL[j]? = some (.pure dj vj)) (hw : waits aft j = true) (hf : ∀ w, Sem.run Try.prog (callFunc f #[vj]) w = .ok (.enter f #[vj]) w)
    (hc : ∀ w, S w → H ≤ w.heap.size → Calls Try.prog f #[vj] w fun e w' => ∃ v Bs F, e = .returned v ∧ Kp w w' ∧ (∀ k ∈ Bs, w.heap.size ≤ k ∧ k < w'.heap.size) ∧ Dep Bs F ∧ F w' ∧ ∀ wx, F wx → G v wx) : OpOK3 ops Q KL a0 S H i aft (.call d G) := by
  intro a w K sl kn hs hH h
  refine wpOp_of hi rfl ?_
  have ev := kn.pure j dj vj hw hj
  unfold Oper.wp
  simp [go_sem, ev, hf]
  refine (hc w hs hH).mono ?_
  rintro e w' ⟨v, Bs, F, rfl, h1, h2, h3, h4, h5⟩
  exact h v w' Bs F h1 h2 h3 h4 h5
theorem okSame3 {dj : Nat} {G : Value → World → Prop} (hi : ops[i]? = some ⟨some d, .assign (.tmp dj), T, pos, aft, none⟩) (hj : KL[j]? = some (.call dj G)) (hw : waits aft j = true) : OpOK3 ops Q KL a0 S H i aft (.same d j) := by
  refine ⟨_, _, hj, hw, fun a w K v hv h => ?_⟩
  refine wpOp_of hi rfl ?_
  unfold Oper.wp
  simp [go_sem, hv]
  exact h
end
/-- Each operation of a region, one behind the other. -/
def OpsOK3 (ops : Array Oper) (Q : Exit → Act → World → Prop) (KL : List OpK) (a0 : Act) (S : World → Prop) (H : Nat) : Nat → List Oper → List OpK → Prop
  | _, [], _ => True
  | _, _ :: _, [] => False
  | i, o :: os, k :: ks => OpOK3 ops Q KL a0 S H i o.after k ∧ OpsOK3 ops Q KL a0 S H (i + 1) os ks
theorem OpsOK3.hop {ops : Array Oper} {Q : Exit → Act → World → Prop} {KL : List OpK} {a0 : Act} {S : World → Prop} {H : Nat} : ∀ {i0 : Nat} {os : List Oper} {ks : List OpK}, OpsOK3 ops Q KL a0 S H i0 os ks → ∀ (i : Nat) (o : Oper) (k : OpK), os[i]? = some o → ks[i]? = some k → OpOK3 ops Q KL a0 S H (i0 + i) o.after k
  | _, [], _, _, i, o, k, ho, _ => by simp at ho
  | _, _ :: _, [], h, _, _, _, _, _ => h.elim
  | i0, o' :: os, k' :: ks, h, 0, o, k, ho, hk => by
    simp at ho hk
    subst ho hk
    exact h.1
  | i0, o' :: os, k' :: ks, h, i + 1, o, k, ho, hk => by
    have := OpsOK3.hop h.2 i o k (by simpa using ho) (by simpa using hk)
    rwa [show i0 + (i + 1) = i0 + 1 + i from by omega]
theorem regN3 {ops : Array Oper} {Q : Exit → Act → World → Prop} {id : Nat} {a0 : Act} {w : World} (KL : List OpK) (S : World → Prop)
    (hm : Try.prog.follows .mixedOrders = true) (hs : ops.size = KL.length) (hbk : backs ops = true) (hd : apartD KL = true) (hz : (KL.filterMap OpK.dst).all (fun d => decide (d < a0.tmps.size)) = true)
    (hst : KL.all (fun k => match k with | .store ia _ _ => (match KL[ia]? with | some (.alloc _ _ _) => true | _ => false) | _ => true) = true)
    (hop : OpsOK3 ops Q KL a0 S w.heap.size 0 ops.toList KL)
    (hS : S w.drew) (hSk : ∀ a b, Kp a b → S a → S b) (hSm : ∀ A a b, w.heap.size ≤ A → Mk A a b → S a → S b)
    (fin : ∀ (vals : Nat → Value) (addr : Nat → Nat) (gs : Nat → List Nat) (fs : Nat → World → Prop) (w' : World), S w' → w.heap.size ≤ w'.heap.size → (∀ i k, KL[i]? = some k → FinI3 KL vals addr gs fs w.heap.size w' i k) → (∀ i j d G d' G', i ≠ j → KL[i]? = some (.call d G) → KL[j]? = some (.call d' G') → ∀ k ∈ gs i, k ∉ gs j) →
      Q .normal ⟨(putsL vals addr 0 KL).foldl (fun t p => t.setIfInBounds p.1 p.2) a0.tmps, a0.defers⟩ w') :
    (Code.region id ops true).wp Try.prog Q a0 w := by
  refine regM3 KL S hm hs hbk hd (fun d hd => by simpa using List.all_eq_true.1 hz d hd) (fun j ia ic fl hj => ?_) (fun i o k ho hk => ?_) hS hSk hSm fin
  · have h := List.all_eq_true.1 hst _ (List.mem_of_getElem? hj)
    simp only at h
    cases hk : KL[ia]? with
    | none => rw [hk] at h; cases h
    | some k =>
      rw [hk] at h
      cases k with
      | alloc d cs T => exact ⟨d, cs, T, rfl⟩
      | pure _ _ => cases h
      | call _ _ => cases h
      | store _ _ _ => cases h
      | same _ _ => cases h
  · have := hop.hop i o k (by simpa using ho) hk
    rwa [Nat.zero_add] at this


end Go.Proofs.Ytpanfppnkgokdaa

/- Boxes of models and beliefs. -/
namespace Go.Proofs.Ytpanfppnkgokdaa
open Go.RowKit Go.Shelf Go.Proofs Go.Proofs.Wd
set_option linter.unusedVariables false
set_option linter.unusedSimpArgs false
set_option maxRecDepth 10000

theorem wpOp_wantM {P : Program} {ops : Array Oper} {Q : Exit → Act → World → Prop} {i : Nat} {K : Act → World → Prop} {a : Act} {w : World} {o : Oper} (hi : ops[i]? = some o) (hw : Region.wanted o (yielded ops a.tmps) = true) (h : o.wp P a w K Q) : wpOp P ops Q i K a w := by
  unfold wpOp
  simp only [hi]
  rw [if_pos hw]
  exact Or.inl h
theorem Blk.cellsD {B : Nat} {m : DV} {w : World} (h : Blk B m.cells 25 w) : w.cell? ⟨B, 0, none⟩ = some (.int .i64 m.N) ∧ w.cell? ⟨B, 1, none⟩ = some (.slice m.A.ao m.A.len m.A.cap) ∧ w.cell? ⟨B, 2, none⟩ = some (.slice m.Q.ao m.Q.len m.Q.cap) ∧ w.cell? ⟨B, 3, none⟩ = some (.int .i64 m.tick) ∧ w.cell? ⟨B, 4, none⟩ = some (.int .i64 m.gate) ∧ w.cell? ⟨B, 5, none⟩ = some (.int .i64 m.rmin) ∧ w.cell? ⟨B, 6, none⟩ = some (.slice m.ro m.rl m.rc) :=
  ⟨Blk.cell h 0, Blk.cell h 1, Blk.cell h 2, Blk.cell h 3, Blk.cell h 4, Blk.cell h 5, Blk.cell h 6⟩
theorem Blk.cellsB {B : Nat} {b : BV} {w : World} (h : Blk B b.cells 27 w) : w.cell? ⟨B, 0, none⟩ = some (.int .i64 b.at') ∧ w.cell? ⟨B, 1, none⟩ = some (.slice b.x.ao b.x.len b.x.cap) ∧ w.cell? ⟨B, 2, none⟩ = some (.slice b.p.ao b.p.len b.p.cap) ∧ w.cell? ⟨B, 3, none⟩ = some (.bool b.flag) ∧ w.cell? ⟨B, 4, none⟩ = some (.int .i64 b.pass) ∧ w.cell? ⟨B, 5, none⟩ = some (.int .i64 b.fail) :=
  ⟨Blk.cell h 0, Blk.cell h 1, Blk.cell h 2, Blk.cell h 3, Blk.cell h 4, Blk.cell h 5⟩

end Go.Proofs.Ytpanfppnkgokdaa

/- Copies into boxes: models and beliefs in a region that draws its order. -/
namespace Go.Proofs.Ytpanfppnkgokdaa
open Go.RowKit Go.Shelf Go.Proofs.Wd
set_option linter.unusedVariables false
set_option linter.unusedSimpArgs false
set_option maxRecDepth 10000

section
variable {ops : Array Oper} {Q : Exit → Act → World → Prop} {i d k : Nat} {K : Act → World → Prop} {a : Act} {w : World} {T : TypeId} {pos : String} {aft : Array Edge}
theorem wpOp_loadB (hi : ops[i]? = some ⟨some d, .load 27 (.tmp k), T, pos, aft, none⟩) {B : Nat} {b : BV} (hk : a.tmps[k]? = some (.pointer (some ⟨B, 0, none⟩))) (hb : Blk B b.cells 27 w)
    (h : K (a.put (some d) (.agg b.cells)) w) : wpOp Try.prog ops Q i K a w := by
  refine wpOp_of hi rfl ?_
  have ev := eval_tmp hk
  obtain ⟨c0, c1, c2, c3, c4, c5⟩ := hb.cellsB
  unfold Oper.wp
  simp [go_sem, hk, c0, c1, c2, c3, c4, c5]
  exact h
theorem wpOp_loadD (hi : ops[i]? = some ⟨some d, .load 25 (.tmp k), T, pos, aft, none⟩) {B : Nat} {m : DV} (hk : a.tmps[k]? = some (.pointer (some ⟨B, 0, none⟩))) (hb : Blk B m.cells 25 w)
    (h : K (a.put (some d) (.agg m.cells)) w) : wpOp Try.prog ops Q i K a w := by
  refine wpOp_of hi rfl ?_
  have ev := eval_tmp hk
  obtain ⟨c0, c1, c2, c3, c4, c5, c6⟩ := hb.cellsD
  unfold Oper.wp
  simp [go_sem, hk, c0, c1, c2, c3, c4, c5, c6]
  exact h
def zB : Array Value := #[.int .i64 0, .slice none 0 0, .slice none 0 0, .bool false, .int .i64 0, .int .i64 0]
def zD : Array Value := #[.int .i64 0, .slice none 0 0, .slice none 0 0, .int .i64 0, .int .i64 0, .int .i64 0, .slice none 0 0]
theorem wpOp_allocB (hi : ops[i]? = some ⟨some d, .alloc 27, T, pos, aft, none⟩)
    (h : K (a.put (some d) (.pointer (some ⟨w.heap.size, 0, none⟩))) (w.alloc (.cells zB 27))) : wpOp Try.prog ops Q i K a w := by
  refine wpOp_of hi rfl ?_
  unfold Oper.wp
  simp [go_sem]
  exact h
theorem wpOp_allocD (hi : ops[i]? = some ⟨some d, .alloc 25, T, pos, aft, none⟩)
    (h : K (a.put (some d) (.pointer (some ⟨w.heap.size, 0, none⟩))) (w.alloc (.cells zD 25))) : wpOp Try.prog ops Q i K a w := by
  refine wpOp_of hi rfl ?_
  unfold Oper.wp
  simp [go_sem]
  exact h
set_option maxHeartbeats 1000000 in
theorem wpOp_storeB (hi : ops[i]? = some ⟨none, .store 27 (.tmp k) (.tmp d), T, pos, aft, none⟩) {B : Nat} {b : BV} (hk : a.tmps[k]? = some (.pointer (some ⟨B, 0, none⟩))) (hd : a.tmps[d]? = some (.agg b.cells)) (hb : Blk B zB 27 w)
    (h : ∀ w', Mod B w w' → Blk B b.cells 27 w' → K a w') : wpOp Try.prog ops Q i K a w := by
  refine wpOp_of hi rfl ?_
  unfold zB at hb
  unfold BV.cells at hd h
  have c0 : w.cell? ⟨B, 0, none⟩ = some (.int .i64 0) := by rw [Blk.cell hb]; rfl
  have c1 : w.cell? ⟨B, 1, none⟩ = some (.slice none 0 0) := by rw [Blk.cell hb]; rfl
  have c2 : w.cell? ⟨B, 2, none⟩ = some (.slice none 0 0) := by rw [Blk.cell hb]; rfl
  have c3 : w.cell? ⟨B, 3, none⟩ = some (.bool false) := by rw [Blk.cell hb]; rfl
  have c4 : w.cell? ⟨B, 4, none⟩ = some (.int .i64 0) := by rw [Blk.cell hb]; rfl
  have c5 : w.cell? ⟨B, 5, none⟩ = some (.int .i64 0) := by rw [Blk.cell hb]; rfl
  have f := Blk.free hb
  have hh := h ((((((w.setCell ⟨B, 0, none⟩ (.int .i64 b.at')).setCell ⟨B, 1, none⟩ (.slice b.x.ao b.x.len b.x.cap)).setCell ⟨B, 2, none⟩ (.slice b.p.ao b.p.len b.p.cap)).setCell ⟨B, 3, none⟩ (.bool b.flag)).setCell ⟨B, 4, none⟩ (.int .i64 b.pass)).setCell ⟨B, 5, none⟩ (.int .i64 b.fail)) (((((((Mod.refl _ _).setCell _ _).setCell _ _).setCell _ _).setCell _ _).setCell _ _).setCell _ _) ((((((hb.set 0 _).set 1 _).set 2 _).set 3 _).set 4 _).set 5 _)
  unfold Oper.wp
  simp [go_sem, hk, hd, c0, c1, c2, c3, c4, c5, f]
  exact hh
set_option maxHeartbeats 1000000 in
theorem wpOp_storeD (hi : ops[i]? = some ⟨none, .store 25 (.tmp k) (.tmp d), T, pos, aft, none⟩) {B : Nat} {b : DV} (hk : a.tmps[k]? = some (.pointer (some ⟨B, 0, none⟩))) (hd : a.tmps[d]? = some (.agg b.cells)) (hb : Blk B zD 25 w)
    (h : ∀ w', Mod B w w' → Blk B b.cells 25 w' → K a w') : wpOp Try.prog ops Q i K a w := by
  refine wpOp_of hi rfl ?_
  unfold zD at hb
  unfold DV.cells at hd h
  have c0 : w.cell? ⟨B, 0, none⟩ = some (.int .i64 0) := by rw [Blk.cell hb]; rfl
  have c1 : w.cell? ⟨B, 1, none⟩ = some (.slice none 0 0) := by rw [Blk.cell hb]; rfl
  have c2 : w.cell? ⟨B, 2, none⟩ = some (.slice none 0 0) := by rw [Blk.cell hb]; rfl
  have c3 : w.cell? ⟨B, 3, none⟩ = some (.int .i64 0) := by rw [Blk.cell hb]; rfl
  have c4 : w.cell? ⟨B, 4, none⟩ = some (.int .i64 0) := by rw [Blk.cell hb]; rfl
  have c5 : w.cell? ⟨B, 5, none⟩ = some (.int .i64 0) := by rw [Blk.cell hb]; rfl
  have c6 : w.cell? ⟨B, 6, none⟩ = some (.slice none 0 0) := by rw [Blk.cell hb]; rfl
  have f := Blk.free hb
  have hh := h (((((((w.setCell ⟨B, 0, none⟩ (.int .i64 b.N)).setCell ⟨B, 1, none⟩ (.slice b.A.ao b.A.len b.A.cap)).setCell ⟨B, 2, none⟩ (.slice b.Q.ao b.Q.len b.Q.cap)).setCell ⟨B, 3, none⟩ (.int .i64 b.tick)).setCell ⟨B, 4, none⟩ (.int .i64 b.gate)).setCell ⟨B, 5, none⟩ (.int .i64 b.rmin)).setCell ⟨B, 6, none⟩ (.slice b.ro b.rl b.rc)) ((((((((Mod.refl _ _).setCell _ _).setCell _ _).setCell _ _).setCell _ _).setCell _ _).setCell _ _).setCell _ _) (((((((hb.set 0 _).set 1 _).set 2 _).set 3 _).set 4 _).set 5 _).set 6 _)
  unfold Oper.wp
  simp [go_sem, hk, hd, c0, c1, c2, c3, c4, c5, c6, f]
  exact hh
end
section
variable {ops : Array Oper} {Q : Exit → Act → World → Prop} {KL : List OpK} {a0 : Act} {S : World → Prop} {H i d k j : Nat} {T : TypeId} {pos : String} {aft : Array Edge}
theorem okLoadB {B : Nat} {b : BV} (hi : ops[i]? = some ⟨some d, .load 27 (.tmp k), T, pos, aft, none⟩) (hk : (KL.filterMap OpK.dst).contains k = false) (g : a0.tmps[k]? = some (.pointer (some ⟨B, 0, none⟩))) (hb : ∀ w, S w → Blk B b.cells 27 w) : OpOK3 ops Q KL a0 S H i aft (.pure d (.agg b.cells)) :=
  fun a w K sl kn hs h => wpOp_loadB hi ((sl.2.2 k (by simpa using hk)).trans g) (hb w hs) h
theorem okLoadD {B : Nat} {b : DV} (hi : ops[i]? = some ⟨some d, .load 25 (.tmp k), T, pos, aft, none⟩) (hk : (KL.filterMap OpK.dst).contains k = false) (g : a0.tmps[k]? = some (.pointer (some ⟨B, 0, none⟩))) (hb : ∀ w, S w → Blk B b.cells 25 w) : OpOK3 ops Q KL a0 S H i aft (.pure d (.agg b.cells)) :=
  fun a w K sl kn hs h => wpOp_loadD hi ((sl.2.2 k (by simpa using hk)).trans g) (hb w hs) h
theorem okAllocB (hi : ops[i]? = some ⟨some d, .alloc 27, T, pos, aft, none⟩) : OpOK3 ops Q KL a0 S H i aft (.alloc d zB 27) := fun a w K h => wpOp_allocB hi h
theorem okAllocD (hi : ops[i]? = some ⟨some d, .alloc 25, T, pos, aft, none⟩) : OpOK3 ops Q KL a0 S H i aft (.alloc d zD 25) := fun a w K h => wpOp_allocD hi h
theorem okStoreB {da dc ia ic : Nat} {G : Value → World → Prop} (hi : ops[i]? = some ⟨none, .store 27 (.tmp da) (.tmp dc), T, pos, aft, none⟩) (hG : ∀ v w, G v w → ∃ b : BV, v = .agg b.cells) (h1 : KL[ia]? = some (.alloc da zB 27)) (h2 : KL[ic]? = some (.call dc G)) (w1 : waits aft ia = true) (w2 : waits aft ic = true) (ho : onlyStore KL ia i = true) : OpOK3 ops Q KL a0 S H i aft (.store ia ic aggOf) := by
  refine ⟨_, _, _, _, _, h1, h2, w1, w2, ho, fun a w K A v ha hv hg hB h => ?_⟩
  obtain ⟨b, rfl⟩ := hG _ _ hg
  exact wpOp_storeB hi ha hv hB fun w' m b => h w' (Mk.of m) b
theorem okStoreD {da dc ia ic : Nat} {G : Value → World → Prop} (hi : ops[i]? = some ⟨none, .store 25 (.tmp da) (.tmp dc), T, pos, aft, none⟩) (hG : ∀ v w, G v w → ∃ b : DV, v = .agg b.cells) (h1 : KL[ia]? = some (.alloc da zD 25)) (h2 : KL[ic]? = some (.call dc G)) (w1 : waits aft ia = true) (w2 : waits aft ic = true) (ho : onlyStore KL ia i = true) : OpOK3 ops Q KL a0 S H i aft (.store ia ic aggOf) := by
  refine ⟨_, _, _, _, _, h1, h2, w1, w2, ho, fun a w K A v ha hv hg hB h => ?_⟩
  obtain ⟨b, rfl⟩ := hG _ _ hg
  exact wpOp_storeD hi ha hv hB fun w' m b => h w' (Mk.of m) b
end

/-- A copy of a belief whose lists are owned. -/
def GBo (b : BV) (H : Nat) (v : Value) (w : World) : Prop := ∃ b' : BV, v = .agg b'.cells ∧ simB b b' ∧ OwL H b'.x.ao b'.x.len b'.x.cap b'.x.Z w ∧ OwL H b'.p.ao b'.p.len b'.p.cap b'.p.Z w ∧ ApL b'.x.ao b'.p.ao
theorem owl_dep {base n cap : Nat} {ao : Option Addr} {Z : Nat → Int} {w : World} (h : OwL base ao n cap Z w) : ∃ Bs : List Nat, (∀ k ∈ Bs, base ≤ k ∧ k < w.heap.size) ∧ Dep Bs (OwL base ao n cap Z) := by
  rcases h.parts.2.2.2 with ⟨h1, h2⟩ | ⟨g, h1, h2, h3⟩
  · exact ⟨[], fun _ h => absurd h List.not_mem_nil, fun w1 w2 _ h => h.blk fun g cs e => by rw [h1] at e; cases e⟩
  · refine ⟨[g], fun k hk => by rcases List.mem_singleton.1 hk with rfl; exact ⟨h2, h3⟩, fun w1 w2 he h => h.blk fun g' cs e _ hb => ?_⟩
    rw [h1] at e
    cases e
    exact (he g (by simp)).trans hb
theorem dep_mono {A B : List Nat} {F : World → Prop} (h : Dep A F) (hs : ∀ k ∈ A, k ∈ B) : Dep B F := fun w w' he => h w w' fun k hk => he k (hs k hk)
theorem gbo_dep {b : BV} {H : Nat} {w w' : World} {e : Ending} (h : CopyBO b.at' b.pass b.fail b.flag b.x.len b.p.len b.x.Z b.p.Z w e w') (hH : H ≤ w.heap.size) : ∃ v Bs F, e = .returned v ∧ Kp w w' ∧ (∀ k ∈ Bs, w.heap.size ≤ k ∧ k < w'.heap.size) ∧ Dep Bs F ∧ F w' ∧ ∀ wx, F wx → GBo b H v wx := by
  obtain ⟨a, p, a2, p2, rfl, h1, h2, h3, h4⟩ := h
  obtain ⟨A, a1, ad⟩ := owl_dep h1
  obtain ⟨C, c1, cd⟩ := owl_dep h2
  exact ⟨_, A ++ C, fun wx => OwL w.heap.size a b.x.len p b.x.Z wx ∧ OwL w.heap.size a2 b.p.len p2 b.p.Z wx, rfl, h4, fun k hk => (List.mem_append.1 hk).elim (a1 k) (c1 k), fun w1 w2 he hf => ⟨ad w1 w2 (fun k hk => he k (List.mem_append_left _ hk)) hf.1, cd w1 w2 (fun k hk => he k (List.mem_append_right _ hk)) hf.2⟩, ⟨h1, h2⟩, fun wx hf => ⟨⟨b.at', ⟨a, b.x.len, p, b.x.Z⟩, ⟨a2, b.p.len, p2, b.p.Z⟩, b.flag, b.pass, b.fail⟩, rfl, ⟨rfl, rfl, rfl, rfl, ⟨rfl, rfl⟩, rfl, rfl⟩, hf.1.mono hH, hf.2.mono hH, h3⟩⟩
/-- What such a copy is. -/
theorem GBo.parts {b : BV} {H : Nat} {v : Value} {w : World} (h : GBo b H v w) : ∃ a p a2 p2, v = .agg #[.int .i64 b.at', .slice a b.x.len p, .slice a2 b.p.len p2, .bool b.flag, .int .i64 b.pass, .int .i64 b.fail] ∧ OwL H a b.x.len p b.x.Z w ∧ OwL H a2 b.p.len p2 b.p.Z w ∧ ApL a a2 := by
  obtain ⟨b', rfl, ⟨s1, s2, s3, s4, ⟨s5, s6⟩, s7, s8⟩, o1, o2, o3⟩ := h
  rw [s5, s6] at o1
  rw [s7, s8] at o2
  refine ⟨b'.x.ao, b'.x.cap, b'.p.ao, b'.p.cap, ?_, o1, o2, o3⟩
  unfold BV.cells
  rw [s1, s2, s3, s4, s5, s7]
/-- Its blocks are among those that it hangs on. -/
theorem gbo_mem {b : BV} {H g : Nat} {v : Value} {w : World} {Bs : List Nat} {F : World → Prop} (hf : F w) (hd : Dep Bs F) (hF : ∀ wx, F wx → GBo b H v wx) {a a2 : Option Addr} {n p n2 p2 : Nat} {x0 x3 x4 x5 : Value} (hv : v = .agg #[x0, .slice a n p, .slice a2 n2 p2, x3, x4, x5]) (e : a = some ⟨g, 0, none⟩ ∨ a2 = some ⟨g, 0, none⟩) (hg : g < w.heap.size) : g ∈ Bs := Classical.byContradiction fun hn => by
  have h2 := (hF _ (hd w (w.putObj g (.deferred none)) (fun k hk => World.putObj_heap_other (fun e => by subst e; exact hn hk)) hf)).parts
  obtain ⟨q, r, q2, r2, e2, o1, o2, _⟩ := h2
  rw [hv] at e2
  injection e2 with e2
  simp only [Array.mk.injEq, List.cons.injEq, Value.slice.injEq, and_true] at e2
  obtain ⟨_, ⟨x1, _, _⟩, ⟨x2, _, _⟩, _⟩ := e2
  have hh : (w.putObj g (.deferred none)).heap[g]? = some (.deferred none) := World.putObj_heap_same hg
  rcases e with e | e
  · rw [← x1, e] at o1
    rcases o1.2 with ⟨e, _⟩ | ⟨g', c, cur, e, _, hb, _⟩
    · cases e
    · cases e
      rw [hh] at hb
      cases hb
  · rw [← x2, e] at o2
    rcases o2.2 with ⟨e, _⟩ | ⟨g', c, cur, e, _, hb, _⟩
    · cases e
    · cases e
      rw [hh] at hb
      cases hb

end Go.Proofs.Ytpanfppnkgokdaa
