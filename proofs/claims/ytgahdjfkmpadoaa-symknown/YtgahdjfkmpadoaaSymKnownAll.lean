/- PickA SymM3 SymL SymL2 SymK0 SymK1 SymK2 SymKnownLaw, one after another. -/
import Derived.Test.YtgahdjfkmpadoaaRowA
import Derived.Test.YtgahdjfkmpadoaaSymBase
import Derived.Test.YtgahdjfkmpadoaaRows
import Derived.Test.YtgahdjfkmpadoaaRowL
import Derived.ProofKit
import Derived.OpenShut
import Derived.Lib.SmallJoins
/- The laws' kit: Pick. -/
namespace Go.Proofs.Ytgahdjfkmpadoaa
open Go.RowKit Go.Proofs.Wd
set_option linter.unusedVariables false
set_option linter.unusedSimpArgs false

theorem tmod_of (x n : Int) (hn : 0 < n) : (0 ≤ x.tmod n → x.tmod n = x % n) ∧ (x.tmod n < 0 → x.tmod n + n = x % n) ∧ -n < x.tmod n ∧ x.tmod n < n := by
  have e := @Int.tmod_eq_emod x n
  have h1 := Int.emod_nonneg x (show n ≠ 0 by omega)
  have h2 := Int.emod_lt_of_pos x hn
  have h3 : (n.natAbs : Int) = n := by omega
  rw [e]
  split <;> omega
theorem wrap_id (y : Int) (h : -9223372036854775808 ≤ y ∧ y ≤ 9223372036854775807) : wrap64 y = y := by
  unfold wrap64
  omega

set_option maxHeartbeats 1000000 in
theorem kitPick (x n : Int) (hx : I64 x) (hn : 0 < n ∧ n ≤ 4611686018427387904) (w : World) : Calls Try.prog 34 #[.int .i64 x, .int .i64 n] w fun e w' => e = .returned (.int .i64 (x % n)) ∧ Kp w w' := by
  obtain ⟨h0, h1⟩ := hn
  have c0 : ¬ n ≤ 0 := by omega
  have T := hide (tmod_of x n h0)
  unfold I64 at hx
  go_enter Try.func34, Try.ntmps34
  go_wp2
  · rename_i hh
    go_ret
    exact ⟨congrArg (fun v => Ending.returned (Value.int .i64 v)) ((wrap_id _ (by have := unhide T; omega)).trans ((unhide T).2.1 hh)), Kp.refl _⟩
  · rename_i hh
    go_ret
    exact ⟨congrArg (fun v => Ending.returned (Value.int .i64 v)) ((unhide T).1 hh), Kp.refl _⟩

end Go.Proofs.Ytgahdjfkmpadoaa

/- What follows of a symmetric matrix, in whole numbers. -/
namespace Go.Proofs.Wd
set_option linter.unusedVariables false

/-- Half of two fixed numbers: between them, nothing is cut. -/
theorem half_fx (x y : Int) (hx : Fx x) (hy : Fx y) : halfN x y = rdiv (x + y) 2 ∧ halfC x y = false ∧ Fx (halfN x y) ∧ (x ≤ y → x ≤ halfN x y ∧ halfN x y ≤ y) ∧ (y ≤ x → y ≤ halfN x y ∧ halfN x y ≤ x) := by
  have e1 := tk_of x hx
  have e2 := tk_of y hy
  have lo : ∀ z, z ≤ x → z ≤ y → z ≤ rdiv (x + y) 2 := fun z h1 h2 => by
    have := rdiv_mono (z * 2) (x + y) 2 (by omega) (by omega)
    rwa [rdiv_mul z 2 (by omega)] at this
  have hi : ∀ z, x ≤ z → y ≤ z → rdiv (x + y) 2 ≤ z := fun z h1 h2 => by
    have := rdiv_mono (x + y) (z * 2) 2 (by omega) (by omega)
    rwa [rdiv_mul z 2 (by omega)] at this
  have hf : Fx (rdiv (x + y) 2) := by
    unfold Fx at *
    exact ⟨lo _ hx.1 hy.1, hi _ hx.2 hy.2⟩
  have e3 : halfN x y = rdiv (x + y) 2 := by
    unfold halfN
    rw [e1, e2, (fit_inF _ hf).1]
  rw [e3]
  refine ⟨rfl, ?_, hf, fun h => ⟨lo x (by omega) h, hi y h (by omega)⟩, fun h => ⟨lo y h (by omega), hi x (by omega) h⟩⟩
  unfold halfC
  rw [e1, e2, cutB_of _ _ _ hx hy, (fit_inF _ hf).2]
theorem half_self (x : Int) (hx : Fx x) : halfN x x = x := by
  have h := half_fx x x hx hx
  have := h.2.2.2.1 (by omega)
  omega
/-- What stands at a place of a matrix made symmetric. -/
theorem evenZ_at (A : Nat → Int) (n i k : Nat) (hi : i < n) (hk : k < n) : evenZ A n (i * n + k) = if i = k then A (i * n + k) else halfN (A (min i k * n + max i k)) (A (max i k * n + min i k)) := by
  unfold evenZ pairZ2 pairV evF
  rw [place_div i k n hk, place_mod i k n hk]
  by_cases e : i = k
  · subst e
    rw [if_pos rfl, if_neg (by omega)]
  · rw [if_neg e, if_pos (by omega)]
theorem even_between (A : Nat → Int) (n i k : Nat) (hi : i < n) (hk : k < n) (hA : ∀ p, p < n * n → Fx (A p)) :
    min (A (i * n + k)) (A (k * n + i)) ≤ evenZ A n (i * n + k) ∧ evenZ A n (i * n + k) ≤ max (A (i * n + k)) (A (k * n + i)) ∧ Fx (evenZ A n (i * n + k)) := by
  have h1 := hA _ (place_in i k n n hi hk)
  have h2 := hA _ (place_in k i n n hk hi)
  rw [evenZ_at A n i k hi hk]
  by_cases e : i = k
  · subst e
    rw [if_pos rfl]
    exact ⟨by omega, by omega, h1⟩
  · rw [if_neg e]
    rcases Nat.lt_or_ge i k with h | h
    · rw [Nat.min_eq_left (by omega), Nat.max_eq_right (by omega)]
      have q := half_fx _ _ h1 h2
      rcases Int.le_total (A (i * n + k)) (A (k * n + i)) with g | g
      · have := q.2.2.2.1 g
        exact ⟨by omega, by omega, q.2.2.1⟩
      · have := q.2.2.2.2 g
        exact ⟨by omega, by omega, q.2.2.1⟩
    · rw [Nat.min_eq_right (by omega), Nat.max_eq_left (by omega)]
      have q := half_fx _ _ h2 h1
      rcases Int.le_total (A (i * n + k)) (A (k * n + i)) with g | g
      · have := q.2.2.2.2 g
        exact ⟨by omega, by omega, q.2.2.1⟩
      · have := q.2.2.2.1 g
        exact ⟨by omega, by omega, q.2.2.1⟩
theorem even_fx (A : Nat → Int) (n p : Nat) (hp : p < n * n) (hA : ∀ p, p < n * n → Fx (A p)) : Fx (evenZ A n p) := by
  have h := place_lt p n n hp
  have := (even_between A n (p / n) (p % n) h.1 h.2 hA).2.2
  rwa [place_eq] at this
theorem even_cut (A : Nat → Int) (n m : Nat) (hm : m ≤ n * n) (hA : ∀ p, p < n * n → Fx (A p)) : orC (upC (evC A n) 1 n) m = false := by
  refine orC_of _ _ fun p hp => ?_
  have h := place_lt p n n (by omega)
  unfold upC evC
  rw [(half_fx _ _ (hA _ (place_in _ _ _ _ h.1 h.2)) (hA _ (place_in _ _ _ _ h.2 h.1))).2.1, Bool.and_false]
/-- A symmetric one is itself. -/
theorem even_idem (B : Nat → Int) (n p : Nat) (hp : p < n * n) (hB : ∀ p, p < n * n → Fx (B p)) (hs : symP B n) : evenZ B n p = B p := by
  have h := place_lt p n n hp
  have e := evenZ_at B n (p / n) (p % n) h.1 h.2
  rw [place_eq] at e
  rw [e]
  by_cases g : p / n = p % n
  · rw [if_pos g]
  · rw [if_neg g]
    have e1 : ∀ a b, a < n → b < n → halfN (B (a * n + b)) (B (b * n + a)) = B (a * n + b) := fun a b ha hb => by
      rw [hs b a hb ha]
      exact half_self _ (hB _ (place_in _ _ _ _ ha hb))
    have pe := place_eq p n
    rcases Nat.lt_or_ge (p / n) (p % n) with q | q
    · rw [Nat.min_eq_left (by omega), Nat.max_eq_right (by omega), e1 _ _ h.1 h.2, pe]
    · rw [Nat.min_eq_right (by omega), Nat.max_eq_left (by omega), e1 _ _ h.2 h.1, hs _ _ h.2 h.1, pe]
theorem turn_eye (n p : Nat) (hp : p < n * n) : turnZ (diagZ oneZ n) n n p = diagZ oneZ n p := by
  have h := place_lt p n n hp
  unfold turnZ diagZ oneZ
  rw [place_div _ _ _ h.1, place_mod _ _ _ h.1]
  by_cases e : p / n = p % n
  · rw [if_pos e, if_pos e.symm]
  · rw [if_neg e, if_neg (fun q => e q.symm)]
theorem mulZ_congr (A B A' B' : Nat → Int) (r m c p : Nat) (hp : p < r * c) (hA : ∀ i, i < r * m → A i = A' i) (hB : ∀ i, i < m * c → B i = B' i) : mulZ A B m c p = mulZ A' B' m c p ∧ mulG A B m c p = mulG A' B' m c p := by
  have h := place_lt p r c hp
  refine ⟨dotN_congr _ _ _ _ m (fun i hi => hA _ (place_in _ _ _ _ h.1 hi)) (fun i hi => hB _ (place_in _ _ _ _ hi h.2)), dotC_congr _ _ _ _ m (fun i hi => hA _ (place_in _ _ _ _ h.1 hi)) (fun i hi => hB _ (place_in _ _ _ _ hi h.2))⟩
/-- A symmetric one, moved by One from both sides. -/
theorem sand_eye (B : Nat → Int) (n : Nat) (hB : ∀ p, p < n * n → Fx (B p)) (hs : symP B n) :
    (∀ p, p < n * n → evenZ (mulZ (mulZ (diagZ oneZ n) B n n) (turnZ (diagZ oneZ n) n n) n n) n p = B p) ∧ (orC (mulG (diagZ oneZ n) B n n) (n * n) || orC (mulG (mulZ (diagZ oneZ n) B n n) (turnZ (diagZ oneZ n) n n) n n) (n * n) || orC (upC (evC (mulZ (mulZ (diagZ oneZ n) B n n) (turnZ (diagZ oneZ n) n n) n n) n) 1 n) (n * n)) = false := by
  have e1 : ∀ p, p < n * n → mulZ (diagZ oneZ n) B n n p = B p := fun p hp => (eye_left B n n p hB hp).1
  have e2 : ∀ p, p < n * n → mulZ (mulZ (diagZ oneZ n) B n n) (turnZ (diagZ oneZ n) n n) n n p = B p ∧ mulG (mulZ (diagZ oneZ n) B n n) (turnZ (diagZ oneZ n) n n) n n p = false := fun p hp => by
    have q := mulZ_congr (mulZ (diagZ oneZ n) B n n) (turnZ (diagZ oneZ n) n n) B (diagZ oneZ n) n n n p hp e1 (fun i hi => turn_eye n i hi)
    rw [q.1, q.2]
    exact eye_right B n n p hB hp
  have hf : ∀ p, p < n * n → Fx (mulZ (mulZ (diagZ oneZ n) B n n) (turnZ (diagZ oneZ n) n n) n n p) := fun p hp => by rw [(e2 p hp).1]; exact hB p hp
  refine ⟨fun p hp => ?_, ?_⟩
  · rw [even_idem _ n p hp hf ?_, (e2 p hp).1]
    intro i k hi hk
    rw [(e2 _ (place_in _ _ _ _ hi hk)).1, (e2 _ (place_in _ _ _ _ hk hi)).1]
    exact hs i k hi hk
  · rw [orC_of _ _ (fun p hp => (eye_left B n n p hB hp).2), orC_of _ _ (fun p hp => (e2 p hp).2), even_cut _ n _ (Nat.le_refl _) hf]
    rfl
/-- What stands at a place of a matrix that a list changed. -/
theorem rankZ_at (A K : Nat → Int) (s : Int) (n i k : Nat) (hi : i < n) (hk : k < n) : rankZ A K s n (i * n + k) = rkF A K s n (min i k) (max i k) := by
  unfold rankZ pairZ2 pairV
  rw [place_div i k n hk, place_mod i k n hk, if_pos (by omega)]
theorem m2_neg (s t : Int) (hs : Fx s) (ht : Fx t) : m2N (-s) t = -(m2N s t) := by
  have hs' : Fx (-s) := by unfold Fx at *; omega
  unfold m2N
  rw [(mul_one s hs).1, (mul_one (-s) hs').1]
  unfold mulN
  rw [tk_of _ hs, tk_of _ hs', tk_of _ ht, Int.neg_mul, rdiv_neg _ _ (by omega), fitI_neg]
theorem m2N_fx (a b : Int) : Fx (m2N a b) := fit_Fx _
theorem s2_fx (a b : Int) (ha : Fx a) (hb : Fx b) : s2N a b = fitI (a + b) ∧ s2C a b = fitB (a + b) := by
  have e := add_nought a ha
  unfold s2N s2C
  rw [e.1, e.2.1, Bool.false_or]
  unfold addN addC
  rw [tk_of _ ha, tk_of _ hb, cutB_of _ _ _ ha hb]
  exact ⟨rfl, rfl⟩
/-- What a list added it takes away, where nothing is cut. -/
theorem rank_back (A K : Nat → Int) (s : Int) (n : Nat) (hs : Fx s) (hA : ∀ p, p < n * n → Fx (A p)) (hy : symP A n) (hc : orC (upC (rkC A K s n) 0 n) (n * n) = false) (p : Nat) (hp : p < n * n) : rankZ (rankZ A K s n) K (-s) n p = A p := by
  have nc : ∀ a b, a ≤ b → b < n → s2C (A (a * n + b)) (m2N s (m2N (K a) (K b))) = false := fun a b hab hb => by
    have hn : ¬ (orC (upC (rkC A K s n) 0 n) (n * n) = true) := by rw [hc]; decide
    rw [orC_iff] at hn
    by_cases g : s2C (A (a * n + b)) (m2N s (m2N (K a) (K b))) = true
    · exfalso
      refine hn ⟨a * n + b, place_in _ _ _ _ (by omega) hb, ?_⟩
      unfold upC rkC
      rw [place_div _ _ _ hb, place_mod _ _ _ hb, g, decide_eq_true (show a + 0 ≤ b from hab)]
      simp
    · simpa using g
  have key : ∀ a b, a ≤ b → b < n → rkF (rankZ A K s n) K (-s) n a b = A (a * n + b) := fun a b hab hb => by
    have fa := hA _ (place_in a b n n (by omega) hb)
    have n1 := nc a b hab hb
    show s2N (rankZ A K s n (a * n + b)) (m2N (-s) (m2N (K a) (K b))) = _
    rw [rankZ_at A K s n a b (by omega) hb, Nat.min_eq_left hab, Nat.max_eq_right hab, m2_neg s _ hs (m2N_fx _ _)]
    show s2N (s2N (A (a * n + b)) (m2N s (m2N (K a) (K b)))) _ = _
    have fv := m2N_fx s (m2N (K a) (K b))
    generalize m2N s (m2N (K a) (K b)) = v at *
    generalize A (a * n + b) = x at *
    have q := s2_fx x v fa fv
    rw [q.2] at n1
    have q1 := fit_in _ n1
    have fxv : Fx (x + v) := by
      have := fit_Fx (x + v)
      rwa [q1.1] at this
    rw [q.1, q1.1]
    have fn : Fx (-v) := by unfold Fx at *; omega
    rw [(s2_fx (x + v) (-v) fxv fn).1, show x + v + -v = x by omega]
    exact (fit_inF x fa).1
  have h := place_lt p n n hp
  have e := rankZ_at (rankZ A K s n) K (-s) n (p / n) (p % n) h.1 h.2
  rw [place_eq] at e
  rw [e]
  have pe := place_eq p n
  rcases Nat.le_total (p / n) (p % n) with g | g
  · rw [Nat.min_eq_left g, Nat.max_eq_right g, key _ _ g h.2, pe]
  · rw [Nat.min_eq_right g, Nat.max_eq_left g, key _ _ g h.1, hy _ _ h.2 h.1, pe]
theorem rankZ_fx (A K : Nat → Int) (s : Int) (n p : Nat) (hp : p < n * n) : Fx (rankZ A K s n p) := by
  have h := place_lt p n n hp
  have e := rankZ_at A K s n (p / n) (p % n) h.1 h.2
  rw [place_eq] at e
  rw [e]
  exact fit_Fx _
theorem rankZ_I64 (A K : Nat → Int) (s : Int) (n p : Nat) (hp : p < n * n) : I64 (rankZ A K s n p) := Fx_I64 (rankZ_fx A K s n p hp)

end Go.Proofs.Wd

/- The laws' helpers: big, two, is, good, eye. -/
namespace Go.Proofs.Ytgahdjfkmpadoaa
open Go.RowKit Go.Shelf Go.Proofs.Wd
set_option linter.unusedVariables false
set_option linter.unusedSimpArgs false

set_option maxHeartbeats 1000000 in
theorem lawBig (R1 C1 : Int) (a1 : Option Addr) (l1 p1 : Nat) (w : World) : Calls Try.prog 8 #[.agg #[.int .i64 R1, .int .i64 C1, .slice a1 l1 p1]] w fun e w' => e = .returned (.bool (decide (200 < l1))) ∧ Grown w w' := by
  by_cases h : 200 < l1
  · have hd : decide ((200 : Int) < (l1 : Int)) = true := decide_eq_true (by omega)
    rw [decide_eq_true h]
    clear h
    go_enter Try.func8, Try.ntmps8
    go_wp2
    go_ret
    exact ⟨by simp [hd], (Grown.refl _).alloc _ _⟩
  · have hd : decide ((200 : Int) < (l1 : Int)) = false := decide_eq_false (by omega)
    rw [decide_eq_false h]
    clear h
    go_enter Try.func8, Try.ntmps8
    go_wp2
    go_ret
    exact ⟨by simp [hd], (Grown.refl _).alloc _ _⟩
set_option maxHeartbeats 1000000 in
theorem lawTwo (ao : Option Addr) (n cap : Nat) (w : World) : Calls Try.prog 15 #[.slice ao n cap] w fun e w' => e = .returned (.agg #[.int .i64 2, .int .i64 2, .slice ao n cap]) ∧ Grown w w' := by
  have G : Grown w (w.alloc (.cells #[.int .i64 0, .int .i64 0, .slice none 0 0] 24)) := (Grown.refl _).alloc _ _
  have bz := Blk.new w #[.int .i64 0, .int .i64 0, .slice none 0 0] 24
  go_enter Try.func15, Try.ntmps15
  go_wp2
  have b2 := Blk.new w #[.int .i64 2, .int .i64 2, .slice ao n cap] 24
  have g2 : Grown w (w.alloc (.cells #[.int .i64 2, .int .i64 2, .slice ao n cap] 24)) := (Grown.refl _).alloc _ _
  generalize w.alloc (.cells #[.int .i64 2, .int .i64 2, .slice ao n cap] 24) = wE at *
  have c0 : wE.cell? ⟨w.heap.size, 0, none⟩ = some (.int .i64 2) := Blk.cell b2 0
  have c1 : wE.cell? ⟨w.heap.size, 1, none⟩ = some (.int .i64 2) := Blk.cell b2 1
  have c2 : wE.cell? ⟨w.heap.size, 2, none⟩ = some (.slice ao n cap) := Blk.cell b2 2
  exact bodyPost_ret (v := .agg #[.int .i64 2, .int .i64 2, .slice ao n cap]) (by simp [results, Try.results15, go_sem, c0, c1, c2]) rfl ⟨rfl, g2⟩
set_option maxHeartbeats 2000000 in
theorem lawIs (r c : Int) (ao bo : Option Addr) (len c1 c2 : Nat) (X : Nat → Int) (hl : len ≤ 1000000) (w : World) (hr : Row w ao len X) (ht : Row w bo len X) :
    Calls Try.prog 16 #[.agg #[.int .i64 r, .int .i64 c, .slice ao len c1], .int .i64 0, .agg #[.int .i64 r, .int .i64 c, .slice bo len c2]] w fun e w' => e = .returned (.bool true) ∧ Kp w w' := by
  have G : Grown w ((w.alloc (.cells #[.int .i64 r, .int .i64 c, .slice ao len c1] 24)).alloc (.cells #[.int .i64 r, .int .i64 c, .slice bo len c2] 24)) := ((Grown.refl _).alloc _ _).alloc _ _
  have S := hide (kitSameM r c ao bo len c1 c2 X hl _ (hr.grown G) (ht.grown G))
  have HG := hide (Kp.of G)
  clear hr ht G
  go_enter Try.func16, Try.ntmps16
  go_wp2_with fail
  generalize (w.alloc (.cells #[.int .i64 r, .int .i64 c, .slice ao len c1] 24)).alloc (.cells #[.int .i64 r, .int .i64 c, .slice bo len c2] 24) = w1 at *
  refine (unhide S).mono ?_
  rintro e w2 ⟨rfl, k2⟩
  have R := hide ((unhide HG).trans k2)
  clear k2 S
  go_wp2
  go_ret
  exact ⟨rfl, unhide R⟩

/-- A matrix of the numbers of another one: those that lack are 0, what is none is the least. -/
def gdZ (A : Nat → Int) (len : Nat) : Nat → Int := fun i => if i < len then max (A i) (-9223372036854775807) else 0
theorem gdZ_fx (A : Nat → Int) (len : Nat) (hA : ∀ i, i < len → I64 (A i)) (i : Nat) : Fx (gdZ A len i) := by
  unfold gdZ
  split
  · have := hA i (by assumption)
    unfold I64 at this
    unfold Fx
    omega
  · unfold Fx; omega
def GdI (w : World) (box : Array Value) (n nn L : Nat) (Y : Nat → Int) (k : Nat) (wr : World) : Prop :=
  Blk w.heap.size box 24 wr ∧ Blk (w.heap.size + 1) #[.int .i64 0, .int .i64 0, .slice none 0 0] 24 wr ∧ Blk L (ints nn (soFar Y (List.range k))) 3 wr ∧ Blk (L + 1) #[.int .i64 n, .int .i64 n, .slice (some ⟨L, 0, none⟩) nn nn] 24 wr ∧ Kp w wr ∧ w.heap.size + 2 ≤ L

set_option maxRecDepth 20000 in
set_option maxHeartbeats 8000000 in
theorem lawGood (R1 C1 : Int) (a1 : Option Addr) (l1 p1 : Nat) (A : Nat → Int) (hA : ∀ i, i < l1 → I64 (A i)) (size : Int) (hs : I64 size) (n : Nat) (hn : (n : Int) = 1 + size % 6) (w : World) (ra : Row w a1 l1 A) :
    Calls Try.prog 17 #[.agg #[.int .i64 R1, .int .i64 C1, .slice a1 l1 p1], .int .i64 size] w fun e w' => CopyM n n (n * n) (gdZ A l1) w e w' := by
  have n6 : 1 ≤ n ∧ n ≤ 6 := by omega
  have hmn := mul12n n n (by omega) (by omega)
  obtain ⟨nn, hnn⟩ : ∃ q, n * n = q := ⟨_, rfl⟩
  rw [hnn] at hmn
  rw [hnn]
  have PK := hide (fun w => kitPick size 6 hs (by omega) w)
  obtain ⟨ps, hps⟩ : ∃ p, size % 6 = p := ⟨_, rfl⟩
  rw [hps] at PK hn
  have wn : wrap64 (1 + ps) = (n : Int) := by rw [← hn]; exact wrap_id _ (by omega)
  have w1 : wrap64 ((n : Int) * (n : Int)) = (nn : Int) := wrapP n n nn hnn (by omega)
  obtain ⟨Y, hY⟩ : ∃ Y, Y = gdZ A l1 := ⟨_, rfl⟩
  rw [← hY]
  have EY : Hid (∀ i, Y i = gdZ A l1 i) := fun i => by rw [hY]
  have MK := make_ints nn (by omega)
  have G : Grown w ((w.alloc (.cells #[.int .i64 R1, .int .i64 C1, .slice a1 l1 p1] 24)).alloc (.cells #[.int .i64 0, .int .i64 0, .slice none 0 0] 24)) := ((Grown.refl _).alloc _ _).alloc _ _
  have HB : Hid (Kp w ((w.alloc (.cells #[.int .i64 R1, .int .i64 C1, .slice a1 l1 p1] 24)).alloc (.cells #[.int .i64 0, .int .i64 0, .slice none 0 0] 24)) ∧ Blk w.heap.size #[.int .i64 R1, .int .i64 C1, .slice a1 l1 p1] 24 ((w.alloc (.cells #[.int .i64 R1, .int .i64 C1, .slice a1 l1 p1] 24)).alloc (.cells #[.int .i64 0, .int .i64 0, .slice none 0 0] 24)) ∧ Blk (w.heap.size + 1) #[.int .i64 0, .int .i64 0, .slice none 0 0] 24 ((w.alloc (.cells #[.int .i64 R1, .int .i64 C1, .slice a1 l1 p1] 24)).alloc (.cells #[.int .i64 0, .int .i64 0, .slice none 0 0] 24))) := ⟨Kp.of G, Blk.grown (Blk.new w _ _) ((Grown.refl _).alloc _ _), blk_new2 w _ _ _⟩
  have HR := hide ra
  have HA := hide hA
  have HN := hide (And.intro n6 hmn)
  clear hY hnn hps hn ra hA G n6 hmn hs
  go_enter Try.func17, Try.ntmps17
  go_wp2_with fail
  generalize (w.alloc (.cells #[.int .i64 R1, .int .i64 C1, .slice a1 l1 p1] 24)).alloc (.cells #[.int .i64 0, .int .i64 0, .slice none 0 0] 24) = w0 at *
  refine (unhide PK _).mono ?_
  rintro e w2 ⟨rfl, k2⟩
  have HB2 : Hid (Kp w w2 ∧ Blk w.heap.size #[.int .i64 R1, .int .i64 C1, .slice a1 l1 p1] 24 w2 ∧ Blk (w.heap.size + 1) #[.int .i64 0, .int .i64 0, .slice none 0 0] 24 w2) := ⟨(unhide HB).1.trans k2, Blk.kp (unhide HB).2.1 k2, Blk.kp (unhide HB).2.2 k2⟩
  clear k2 PK HB
  go_wp2_with fail
  have g5 : Grown w2 ((w2.alloc (.cells (ints nn (fun _ => 0)) 3)).alloc (.cells #[.int .i64 n, .int .i64 n, .slice (some ⟨w2.heap.size, 0, none⟩) nn nn] 24)) := ((Grown.refl _).alloc _ _).alloc _ _
  have b6 : Blk w2.heap.size (ints nn (fun _ => 0)) 3 ((w2.alloc (.cells (ints nn (fun _ => 0)) 3)).alloc (.cells #[.int .i64 n, .int .i64 n, .slice (some ⟨w2.heap.size, 0, none⟩) nn nn] 24)) := Blk.grown (Blk.new w2 _ _) ((Grown.refl _).alloc _ _)
  have b7 : Blk (w2.heap.size + 1) #[.int .i64 n, .int .i64 n, .slice (some ⟨w2.heap.size, 0, none⟩) nn nn] 24 ((w2.alloc (.cells (ints nn (fun _ => 0)) 3)).alloc (.cells #[.int .i64 n, .int .i64 n, .slice (some ⟨w2.heap.size, 0, none⟩) nn nn] 24)) := blk_new2 w2 _ _ _
  have ST : Hid (GdI w #[.int .i64 R1, .int .i64 C1, .slice a1 l1 p1] n nn w2.heap.size Y 0 ((w2.alloc (.cells (ints nn (fun _ => 0)) 3)).alloc (.cells #[.int .i64 n, .int .i64 n, .slice (some ⟨w2.heap.size, 0, none⟩) nn nn] 24))) := by
    have lt := Blk.lt (unhide HB2).2.2
    refine ⟨Blk.grown (unhide HB2).2.1 g5, Blk.grown (unhide HB2).2.2 g5, ?_, b7, (unhide HB2).1.grown g5, by omega⟩
    rw [show ints nn (soFar Y (List.range 0)) = ints nn (fun _ => 0) from ints_congr _ _ _ fun i _ => by simp [soFar]]
    exact b6
  simp only [wn, w1]
  clear g5 b6 b7 HB2 MK wn
  generalize (w2.alloc (.cells (ints nn (fun _ => 0)) 3)).alloc (.cells #[.int .i64 n, .int .i64 n, .slice (some ⟨w2.heap.size, 0, none⟩) nn nn] 24) = w5 at *
  generalize w2.heap.size = L at *
  go_loopw [7] (fun t wr => ∃ k : Nat, (k ≤ nn ∧ k ≤ l1) ∧ t = .int .i64 k ∧ Hid (GdI w #[.int .i64 R1, .int .i64 C1, .slice a1 l1 p1] n nn L Y k wr)) (fun t _ => nn - (intOf t).toNat)
  case atStart => exact ⟨0, ⟨Nat.zero_le _, Nat.zero_le _⟩, rfl, unhide ST⟩
  case round =>
    obtain ⟨k, hk, rfl, HI⟩ := hrel
    clear ST
    have y2 : wr.cell? ⟨w.heap.size, 2, none⟩ = some (.slice a1 l1 p1) := Blk.cell (unhide HI).1 2
    by_cases h1 : k < nn
    · by_cases h2 : k < l1
      · have d1 : decide ((k : Int) < (nn : Int)) = true := decide_eq_true (by omega)
        have d2 : decide ((k : Int) < (l1 : Int)) = true := decide_eq_true (by omega)
        obtain ⟨b, o, rfl, hc⟩ := ((unhide HR).kp (unhide HI).2.2.2.2.1).at h2
        have q2 : wr.cell? ⟨L + 1, 2, none⟩ = some (.slice (some ⟨L, 0, none⟩) nn nn) := Blk.cell (unhide HI).2.2.2.1 2
        have f1 : wr.cell? ⟨L, k, none⟩ = some (.int .i64 (soFar Y (List.range k) k)) := by rw [Blk.cell (unhide HI).2.2.1, ints_at nn _ _ h1]
        have f2 := Blk.free (unhide HI).2.2.1 k
        have B1 : Hid (k + 1 ≤ nn ∧ k + 1 ≤ l1) := ⟨h1, h2⟩
        have i0 : (0 : Int) ≤ (k : Int) := by omega
        have i1 : (k : Int) < (nn : Int) := by omega
        have i2 : (k : Int) < (l1 : Int) := by omega
        have k6 : k ≤ 1000000 := by have := (unhide HN).2; omega
        have R : Hid (GdI w #[.int .i64 R1, .int .i64 C1, .slice (some ⟨b, o, none⟩) l1 p1] n nn L Y (k + 1) (wr.setCell ⟨L, k, none⟩ (.int .i64 (Y k)))) := by
          obtain ⟨g1, g2, g3, g4, g5, g6⟩ := unhide HI
          have q : Mod L wr (wr.setCell ⟨L, k, none⟩ (.int .i64 (Y k))) := (Mod.refl _ _).setCell _ _
          refine ⟨Blk.keep g1 q (by omega), Blk.keep g2 q (by omega), ?_, Blk.keep g4 q (by omega), g5.mod q (by omega), g6⟩
          have := Blk.setI g3 k (Y k)
          rw [soFar_snoc, ← List.range_succ] at this
          exact this
        have EK : Hid (Y k = max (A k) (-9223372036854775807)) := by
          show _ = _
          rw [unhide EY k]
          unfold gdZ
          rw [if_pos h2]
        have IK := unhide HA k h2
        generalize soFar Y (List.range k) k = old at f1
        generalize A k = x at *
        generalize hyk : Y k = yk at *
        clear HI hyk hk h1 h2
        by_cases hx : x < -9223372036854775807
        · have ex : x = -9223372036854775808 := by unfold I64 at IK; omega
          have ey : yk = -9223372036854775807 := by rw [unhide EK, ex]; decide
          subst ex ey
          clear EK IK hx
          go_wp2
          refine region_G (fun w' => w'.cell? ⟨L + 1, 2, none⟩ = some (.slice (some ⟨L, 0, none⟩) nn nn) ∧ w'.cell? ⟨w.heap.size, 2, none⟩ = some (.slice (some ⟨b, o, none⟩) l1 p1) ∧ w'.cell? ⟨b, o + k, none⟩ = some (.int .i64 (-9223372036854775808))) 10 (by kernel_rfl) ⟨q2, y2, hc⟩ (fun hHeld => ?_)
          refine take_G (i := 0) (d := 32) (v := .pointer (some ⟨L + 1, 2, none⟩)) rfl rfl (by kernel_rfl) (by kernel_rfl) (by kernel_rfl) (by kernel_rfl) (by kernel_rfl) (Or.inl ⟨by rfl, ?_⟩) hHeld ?_
          · intro wS hSw
            obtain ⟨z0, z1, z2⟩ := hSw
            clear hHeld
            go_simp
          (try simp only [Act.put, List.setIfInBounds_toArray, List.set_cons_zero, List.set_cons_succ])
          refine take_G (i := 1) (d := 33) (v := .slice (some ⟨L, 0, none⟩) nn nn) rfl rfl (by kernel_rfl) (by kernel_rfl) (by kernel_rfl) (by kernel_rfl) (by kernel_rfl) (Or.inl ⟨by rfl, ?_⟩) hHeld ?_
          · intro wS hSw
            obtain ⟨z0, z1, z2⟩ := hSw
            clear hHeld
            go_simp
          (try simp only [Act.put, List.setIfInBounds_toArray, List.set_cons_zero, List.set_cons_succ])
          refine take_G (i := 2) (d := 34) (v := .int .i64 (k : Int)) rfl rfl (by kernel_rfl) (by kernel_rfl) (by kernel_rfl) (by kernel_rfl) (by kernel_rfl) (Or.inl ⟨by rfl, ?_⟩) hHeld ?_
          · intro wS hSw
            obtain ⟨z0, z1, z2⟩ := hSw
            clear hHeld
            go_simp
          (try simp only [Act.put, List.setIfInBounds_toArray, List.set_cons_zero, List.set_cons_succ])
          refine take_G (i := 3) (d := 35) (v := .pointer (some ⟨w.heap.size, 2, none⟩)) rfl rfl (by kernel_rfl) (by kernel_rfl) (by kernel_rfl) (by kernel_rfl) (by kernel_rfl) (Or.inl ⟨by rfl, ?_⟩) hHeld ?_
          · intro wS hSw
            obtain ⟨z0, z1, z2⟩ := hSw
            clear hHeld
            go_simp
          (try simp only [Act.put, List.setIfInBounds_toArray, List.set_cons_zero, List.set_cons_succ])
          refine take_G (i := 4) (d := 36) (v := .slice (some ⟨b, o, none⟩) l1 p1) rfl rfl (by kernel_rfl) (by kernel_rfl) (by kernel_rfl) (by kernel_rfl) (by kernel_rfl) (Or.inl ⟨by rfl, ?_⟩) hHeld ?_
          · intro wS hSw
            obtain ⟨z0, z1, z2⟩ := hSw
            clear hHeld
            go_simp
          (try simp only [Act.put, List.setIfInBounds_toArray, List.set_cons_zero, List.set_cons_succ])
          refine take_G (i := 5) (d := 37) (v := .int .i64 (k : Int)) rfl rfl (by kernel_rfl) (by kernel_rfl) (by kernel_rfl) (by kernel_rfl) (by kernel_rfl) (Or.inl ⟨by rfl, ?_⟩) hHeld ?_
          · intro wS hSw
            obtain ⟨z0, z1, z2⟩ := hSw
            clear hHeld
            go_simp
          (try simp only [Act.put, List.setIfInBounds_toArray, List.set_cons_zero, List.set_cons_succ])
          refine take_G (i := 6) (d := 38) (v := .pointer (some ⟨b, o + k, none⟩)) rfl rfl (by kernel_rfl) (by kernel_rfl) (by kernel_rfl) (by kernel_rfl) (by kernel_rfl) (Or.inl ⟨by rfl, ?_⟩) hHeld ?_
          · intro wS hSw
            obtain ⟨z0, z1, z2⟩ := hSw
            clear hHeld
            go_simp
          (try simp only [Act.put, List.setIfInBounds_toArray, List.set_cons_zero, List.set_cons_succ])
          refine take_G (i := 7) (d := 39) (v := .int .i64 (-9223372036854775808)) rfl rfl (by kernel_rfl) (by kernel_rfl) (by kernel_rfl) (by kernel_rfl) (by kernel_rfl) (Or.inl ⟨by rfl, ?_⟩) hHeld ?_
          · intro wS hSw
            obtain ⟨z0, z1, z2⟩ := hSw
            clear hHeld
            go_simp
          (try simp only [Act.put, List.setIfInBounds_toArray, List.set_cons_zero, List.set_cons_succ])
          refine take_G (i := 8) (d := 40) (v := .int .i64 (-9223372036854775807)) rfl rfl (by kernel_rfl) (by kernel_rfl) (by kernel_rfl) (by kernel_rfl) (by kernel_rfl) (Or.inl ⟨by rfl, ?_⟩) hHeld ?_
          · intro wS hSw
            obtain ⟨z0, z1, z2⟩ := hSw
            clear hHeld
            go_simp
          (try simp only [Act.put, List.setIfInBounds_toArray, List.set_cons_zero, List.set_cons_succ])
          refine take_G (i := 9) (d := 41) (v := .pointer (some ⟨L, k, none⟩)) rfl rfl (by kernel_rfl) (by kernel_rfl) (by kernel_rfl) (by kernel_rfl) (by kernel_rfl) (Or.inl ⟨by rfl, ?_⟩) hHeld ?_
          · intro wS hSw
            obtain ⟨z0, z1, z2⟩ := hSw
            clear hHeld
            go_simp
          (try simp only [Act.put, List.setIfInBounds_toArray, List.set_cons_zero, List.set_cons_succ])
          refine step_G (i := 10) (by kernel_rfl) (fun K hK => ?_)
          refine wpOp_of rfl rfl ?_
          unfold Oper.wp
          go_simp
          refine hK _ _ (fun h => absurd rfl h) ?_
          clear hK K
          (try simp only [Act.put, List.setIfInBounds_toArray, List.set_cons_zero, List.set_cons_succ])
          refine done_G (by kernel_rfl) ?_
          refine noPanic_normalE ?_
          have R' : Hid (GdI w #[.int .i64 R1, .int .i64 C1, .slice (some ⟨b, o, none⟩) l1 p1] n nn L Y (k + 1) (wr.setCell ⟨L, k, none⟩ (.int .i64 (-9223372036854775807))).drew) := unhide R
          clear hHeld R f1 f2 q2 y2 hc
          go_wp2
          go_roundw
          case rel => exact ⟨k + 1, unhide B1, by go_num, R'⟩
          case measure => have := unhide B1; simp [intOf]; omega
        · have ey : yk = x := by rw [unhide EK]; omega
          subst ey
          clear EK IK
          go_wp2
          refine region_G (fun w' => w'.cell? ⟨L + 1, 2, none⟩ = some (.slice (some ⟨L, 0, none⟩) nn nn) ∧ w'.cell? ⟨w.heap.size, 2, none⟩ = some (.slice (some ⟨b, o, none⟩) l1 p1) ∧ w'.cell? ⟨b, o + k, none⟩ = some (.int .i64 (yk))) 10 (by kernel_rfl) ⟨q2, y2, hc⟩ (fun hHeld => ?_)
          refine take_G (i := 0) (d := 32) (v := .pointer (some ⟨L + 1, 2, none⟩)) rfl rfl (by kernel_rfl) (by kernel_rfl) (by kernel_rfl) (by kernel_rfl) (by kernel_rfl) (Or.inl ⟨by rfl, ?_⟩) hHeld ?_
          · intro wS hSw
            obtain ⟨z0, z1, z2⟩ := hSw
            clear hHeld
            go_simp
          (try simp only [Act.put, List.setIfInBounds_toArray, List.set_cons_zero, List.set_cons_succ])
          refine take_G (i := 1) (d := 33) (v := .slice (some ⟨L, 0, none⟩) nn nn) rfl rfl (by kernel_rfl) (by kernel_rfl) (by kernel_rfl) (by kernel_rfl) (by kernel_rfl) (Or.inl ⟨by rfl, ?_⟩) hHeld ?_
          · intro wS hSw
            obtain ⟨z0, z1, z2⟩ := hSw
            clear hHeld
            go_simp
          (try simp only [Act.put, List.setIfInBounds_toArray, List.set_cons_zero, List.set_cons_succ])
          refine take_G (i := 2) (d := 34) (v := .int .i64 (k : Int)) rfl rfl (by kernel_rfl) (by kernel_rfl) (by kernel_rfl) (by kernel_rfl) (by kernel_rfl) (Or.inl ⟨by rfl, ?_⟩) hHeld ?_
          · intro wS hSw
            obtain ⟨z0, z1, z2⟩ := hSw
            clear hHeld
            go_simp
          (try simp only [Act.put, List.setIfInBounds_toArray, List.set_cons_zero, List.set_cons_succ])
          refine take_G (i := 3) (d := 35) (v := .pointer (some ⟨w.heap.size, 2, none⟩)) rfl rfl (by kernel_rfl) (by kernel_rfl) (by kernel_rfl) (by kernel_rfl) (by kernel_rfl) (Or.inl ⟨by rfl, ?_⟩) hHeld ?_
          · intro wS hSw
            obtain ⟨z0, z1, z2⟩ := hSw
            clear hHeld
            go_simp
          (try simp only [Act.put, List.setIfInBounds_toArray, List.set_cons_zero, List.set_cons_succ])
          refine take_G (i := 4) (d := 36) (v := .slice (some ⟨b, o, none⟩) l1 p1) rfl rfl (by kernel_rfl) (by kernel_rfl) (by kernel_rfl) (by kernel_rfl) (by kernel_rfl) (Or.inl ⟨by rfl, ?_⟩) hHeld ?_
          · intro wS hSw
            obtain ⟨z0, z1, z2⟩ := hSw
            clear hHeld
            go_simp
          (try simp only [Act.put, List.setIfInBounds_toArray, List.set_cons_zero, List.set_cons_succ])
          refine take_G (i := 5) (d := 37) (v := .int .i64 (k : Int)) rfl rfl (by kernel_rfl) (by kernel_rfl) (by kernel_rfl) (by kernel_rfl) (by kernel_rfl) (Or.inl ⟨by rfl, ?_⟩) hHeld ?_
          · intro wS hSw
            obtain ⟨z0, z1, z2⟩ := hSw
            clear hHeld
            go_simp
          (try simp only [Act.put, List.setIfInBounds_toArray, List.set_cons_zero, List.set_cons_succ])
          refine take_G (i := 6) (d := 38) (v := .pointer (some ⟨b, o + k, none⟩)) rfl rfl (by kernel_rfl) (by kernel_rfl) (by kernel_rfl) (by kernel_rfl) (by kernel_rfl) (Or.inl ⟨by rfl, ?_⟩) hHeld ?_
          · intro wS hSw
            obtain ⟨z0, z1, z2⟩ := hSw
            clear hHeld
            go_simp
          (try simp only [Act.put, List.setIfInBounds_toArray, List.set_cons_zero, List.set_cons_succ])
          refine take_G (i := 7) (d := 39) (v := .int .i64 (yk)) rfl rfl (by kernel_rfl) (by kernel_rfl) (by kernel_rfl) (by kernel_rfl) (by kernel_rfl) (Or.inl ⟨by rfl, ?_⟩) hHeld ?_
          · intro wS hSw
            obtain ⟨z0, z1, z2⟩ := hSw
            clear hHeld
            go_simp
          (try simp only [Act.put, List.setIfInBounds_toArray, List.set_cons_zero, List.set_cons_succ])
          refine take_G (i := 8) (d := 40) (v := .int .i64 (yk)) rfl rfl (by kernel_rfl) (by kernel_rfl) (by kernel_rfl) (by kernel_rfl) (by kernel_rfl) (Or.inl ⟨by rfl, ?_⟩) hHeld ?_
          · intro wS hSw
            obtain ⟨z0, z1, z2⟩ := hSw
            clear hHeld
            go_simp
            (try (intro hq; exfalso; omega))
          (try simp only [Act.put, List.setIfInBounds_toArray, List.set_cons_zero, List.set_cons_succ])
          refine take_G (i := 9) (d := 41) (v := .pointer (some ⟨L, k, none⟩)) rfl rfl (by kernel_rfl) (by kernel_rfl) (by kernel_rfl) (by kernel_rfl) (by kernel_rfl) (Or.inl ⟨by rfl, ?_⟩) hHeld ?_
          · intro wS hSw
            obtain ⟨z0, z1, z2⟩ := hSw
            clear hHeld
            go_simp
          (try simp only [Act.put, List.setIfInBounds_toArray, List.set_cons_zero, List.set_cons_succ])
          refine step_G (i := 10) (by kernel_rfl) (fun K hK => ?_)
          refine wpOp_of rfl rfl ?_
          unfold Oper.wp
          go_simp
          refine hK _ _ (fun h => absurd rfl h) ?_
          clear hK K
          (try simp only [Act.put, List.setIfInBounds_toArray, List.set_cons_zero, List.set_cons_succ])
          refine done_G (by kernel_rfl) ?_
          refine noPanic_normalE ?_
          have R' : Hid (GdI w #[.int .i64 R1, .int .i64 C1, .slice (some ⟨b, o, none⟩) l1 p1] n nn L Y (k + 1) (wr.setCell ⟨L, k, none⟩ (.int .i64 (yk))).drew) := unhide R
          clear hHeld R f1 f2 q2 y2 hc
          go_wp2
          go_roundw
          case rel => exact ⟨k + 1, unhide B1, by go_num, R'⟩
          case measure => have := unhide B1; simp [intOf]; omega
      · have d1 : decide ((k : Int) < (nn : Int)) = true := decide_eq_true (by omega)
        have d2 : decide ((k : Int) < (l1 : Int)) = false := decide_eq_false (by omega)
        have PE : Hid (Blk L (ints nn Y) 3 wr) := by
          have g3 := (unhide HI).2.2.1
          rwa [show ints nn (soFar Y (List.range k)) = ints nn Y from ints_congr _ _ _ fun i hi => by
            unfold soFar
            by_cases hm : i < k
            · rw [if_pos (List.mem_range.2 hm)]
            · rw [if_neg (fun h => hm (List.mem_range.1 h)), unhide EY i]
              unfold gdZ
              rw [if_neg (by omega)]] at g3
        have c0 : wr.cell? ⟨L + 1, 0, none⟩ = some (.int .i64 n) := Blk.cell (unhide HI).2.2.2.1 0
        have c1 : wr.cell? ⟨L + 1, 1, none⟩ = some (.int .i64 n) := Blk.cell (unhide HI).2.2.2.1 1
        have c2 : wr.cell? ⟨L + 1, 2, none⟩ = some (.slice (some ⟨L, 0, none⟩) nn nn) := Blk.cell (unhide HI).2.2.2.1 2
        have b3 := (unhide HI).2.1
        have e0 : wr.cell? ⟨w.heap.size + 1, 0, none⟩ = some (.int .i64 0) := Blk.cell b3 0
        have e1 : wr.cell? ⟨w.heap.size + 1, 1, none⟩ = some (.int .i64 0) := Blk.cell b3 1
        have e2 : wr.cell? ⟨w.heap.size + 1, 2, none⟩ = some (.slice none 0 0) := Blk.cell b3 2
        have ff := Blk.free b3
        have R := hide (And.intro b3 (And.intro (unhide HI).2.2.2.2.1 (unhide HI).2.2.2.2.2))
        have nl : w.heap.size + 1 ≠ L + 1 := by have := (unhide HI).2.2.2.2.2; omega
        clear HI b3 hk
        go_wp2
        obtain ⟨b3, kw, hL⟩ := unhide R
        have P := putM b3 (.int .i64 n) (.int .i64 n) (.slice (some ⟨L, 0, none⟩) nn nn)
        generalize (((wr.setCell ⟨w.heap.size + 1, 0, none⟩ (.int .i64 n)).setCell ⟨w.heap.size + 1, 1, none⟩ (.int .i64 n)).setCell ⟨w.heap.size + 1, 2, none⟩ (.slice (some ⟨L, 0, none⟩) nn nn)) = wE at *
        have c0' : wE.cell? ⟨w.heap.size + 1, 0, none⟩ = some (.int .i64 n) := Blk.cell P.1 0
        have c1' : wE.cell? ⟨w.heap.size + 1, 1, none⟩ = some (.int .i64 n) := Blk.cell P.1 1
        have c2' : wE.cell? ⟨w.heap.size + 1, 2, none⟩ = some (.slice (some ⟨L, 0, none⟩) nn nn) := Blk.cell P.1 2
        refine bodyPost_ret (v := .agg #[.int .i64 n, .int .i64 n, .slice (some ⟨L, 0, none⟩) nn nn]) (by simp [results, Try.results17, go_sem, c0', c1', c2']) rfl ?_
        exact ⟨_, _, rfl, Nat.le_refl _, (Blk.keep (unhide PE) P.2 (by omega)).row, fun U hU => off_blk (by omega), kw.mod P.2 (by omega)⟩
    · have d1 : decide ((k : Int) < (nn : Int)) = false := decide_eq_false (by omega)
      have PE : Hid (Blk L (ints nn Y) 3 wr) := by
        have g3 := (unhide HI).2.2.1
        rwa [show ints nn (soFar Y (List.range k)) = ints nn Y from ints_congr _ _ _ fun i hi => by
          unfold soFar
          by_cases hm : i < k
          · rw [if_pos (List.mem_range.2 hm)]
          · rw [if_neg (fun h => hm (List.mem_range.1 h)), unhide EY i]
            unfold gdZ
            rw [if_neg (by omega)]] at g3
      have c0 : wr.cell? ⟨L + 1, 0, none⟩ = some (.int .i64 n) := Blk.cell (unhide HI).2.2.2.1 0
      have c1 : wr.cell? ⟨L + 1, 1, none⟩ = some (.int .i64 n) := Blk.cell (unhide HI).2.2.2.1 1
      have c2 : wr.cell? ⟨L + 1, 2, none⟩ = some (.slice (some ⟨L, 0, none⟩) nn nn) := Blk.cell (unhide HI).2.2.2.1 2
      have b3 := (unhide HI).2.1
      have e0 : wr.cell? ⟨w.heap.size + 1, 0, none⟩ = some (.int .i64 0) := Blk.cell b3 0
      have e1 : wr.cell? ⟨w.heap.size + 1, 1, none⟩ = some (.int .i64 0) := Blk.cell b3 1
      have e2 : wr.cell? ⟨w.heap.size + 1, 2, none⟩ = some (.slice none 0 0) := Blk.cell b3 2
      have ff := Blk.free b3
      have R := hide (And.intro b3 (And.intro (unhide HI).2.2.2.2.1 (unhide HI).2.2.2.2.2))
      have nl : w.heap.size + 1 ≠ L + 1 := by have := (unhide HI).2.2.2.2.2; omega
      clear HI b3 hk
      go_wp2
      obtain ⟨b3, kw, hL⟩ := unhide R
      have P := putM b3 (.int .i64 n) (.int .i64 n) (.slice (some ⟨L, 0, none⟩) nn nn)
      generalize (((wr.setCell ⟨w.heap.size + 1, 0, none⟩ (.int .i64 n)).setCell ⟨w.heap.size + 1, 1, none⟩ (.int .i64 n)).setCell ⟨w.heap.size + 1, 2, none⟩ (.slice (some ⟨L, 0, none⟩) nn nn)) = wE at *
      have c0' : wE.cell? ⟨w.heap.size + 1, 0, none⟩ = some (.int .i64 n) := Blk.cell P.1 0
      have c1' : wE.cell? ⟨w.heap.size + 1, 1, none⟩ = some (.int .i64 n) := Blk.cell P.1 1
      have c2' : wE.cell? ⟨w.heap.size + 1, 2, none⟩ = some (.slice (some ⟨L, 0, none⟩) nn nn) := Blk.cell P.1 2
      refine bodyPost_ret (v := .agg #[.int .i64 n, .int .i64 n, .slice (some ⟨L, 0, none⟩) nn nn]) (by simp [results, Try.results17, go_sem, c0', c1', c2']) rfl ?_
      exact ⟨_, _, rfl, Nat.le_refl _, (Blk.keep (unhide PE) P.2 (by omega)).row, fun U hU => off_blk (by omega), kw.mod P.2 (by omega)⟩


end Go.Proofs.Ytgahdjfkmpadoaa

/- The laws' helper eye. -/
namespace Go.Proofs.Ytgahdjfkmpadoaa
open Go.RowKit Go.Shelf Go.Proofs.Wd
set_option linter.unusedVariables false
set_option linter.unusedSimpArgs false

/-- One on the diagonal, so far. -/
def eyZ (n k : Nat) : Nat → Int := fun p => if p / n = p % n ∧ p / n < k then 4294967296 else 0
theorem eyZ_zero (n : Nat) : (fun _ => (0 : Int)) = eyZ n 0 := by
  funext p
  unfold eyZ
  rw [if_neg (fun h => Nat.not_lt_zero _ h.2)]
theorem eyZ_succ (n k p : Nat) (hk : k < n) : (if p = k * n + k then 4294967296 else eyZ n k p) = eyZ n (k + 1) p := by
  by_cases e : p = k * n + k
  · rw [if_pos e, e]
    unfold eyZ
    rw [place_div k k n hk, place_mod k k n hk, if_pos ⟨rfl, Nat.lt_succ_self _⟩]
  · rw [if_neg e]
    unfold eyZ
    by_cases h : p / n = p % n ∧ p / n < k
    · rw [if_pos h, if_pos ⟨h.1, by omega⟩]
    · rw [if_neg h, if_neg]
      rintro ⟨h1, h2⟩
      have h3 : p / n = k := by
        by_cases g : p / n < k
        · exact absurd ⟨h1, g⟩ h
        · omega
      have pe := place_eq p n
      rw [← h1, h3] at pe
      exact e pe.symm
theorem eyZ_all (n p : Nat) (hp : p < n * n) : eyZ n n p = diagZ oneZ n p := by
  have h := place_lt p n n hp
  unfold eyZ diagZ oneZ
  by_cases e : p / n = p % n
  · rw [if_pos e, if_pos ⟨e, h.1⟩]
  · rw [if_neg e, if_neg (fun q => e q.1)]
def EyI (w : World) (n nn : Nat) (k : Nat) (wr : World) : Prop :=
  Blk w.heap.size #[.int .i64 0, .int .i64 0, .slice none 0 0] 24 wr ∧ Blk (w.heap.size + 1) (ints nn (eyZ n k)) 3 wr ∧ Blk (w.heap.size + 1 + 1) #[.int .i64 n, .int .i64 n, .slice (some ⟨w.heap.size + 1, 0, none⟩) nn nn] 24 wr ∧ Kp w wr

set_option maxRecDepth 20000 in
set_option maxHeartbeats 8000000 in
theorem lawEye (n : Nat) (hn : 1 ≤ n ∧ n ≤ 12) (w : World) :
    Calls Try.prog 19 #[.int .i64 (n : Int)] w fun e w' => CopyM n n (n * n) (diagZ oneZ n) w e w' := by
  have hmn := mul12n n n hn hn
  obtain ⟨nn, hnn⟩ : ∃ q, n * n = q := ⟨_, rfl⟩
  rw [hnn] at hmn
  have EZ : Hid (∀ p, p < nn → eyZ n n p = diagZ oneZ n p) := fun p hp => eyZ_all n p (by rw [hnn]; exact hp)
  have PI : Hid (∀ k, k < n → k * n + k < nn) := fun k hk => by rw [← hnn]; exact place_in k k n n hk hk
  rw [hnn]
  generalize diagZ oneZ n = Y at *
  have w1 : wrap64 ((n : Int) * (n : Int)) = (nn : Int) := wrapP n n nn hnn (by omega)
  have MK := make_ints nn (by omega)
  have HN := hide (And.intro hn hmn)
  obtain ⟨G, s3, b0, b1, b2⟩ := alloc3 w #[.int .i64 0, .int .i64 0, .slice none 0 0] 24 (ints nn (fun _ => 0)) 3 #[.int .i64 n, .int .i64 n, .slice (some ⟨w.heap.size + 1, 0, none⟩) nn nn] 24
  have ST : Hid (EyI w n nn 0 (((w.alloc (.cells #[.int .i64 0, .int .i64 0, .slice none 0 0] 24)).alloc (.cells (ints nn (fun _ => 0)) 3)).alloc (.cells #[.int .i64 n, .int .i64 n, .slice (some ⟨w.heap.size + 1, 0, none⟩) nn nn] 24))) := ⟨b0, by rw [← eyZ_zero]; exact b1, b2, Kp.of G⟩
  clear hnn hmn hn G s3 b0 b1 b2
  go_enter Try.func19, Try.ntmps19
  go_wp2_with fail
  simp only [w1]
  clear MK
  generalize (((w.alloc (.cells #[.int .i64 0, .int .i64 0, .slice none 0 0] 24)).alloc (.cells (ints nn (fun _ => 0)) 3)).alloc (.cells #[.int .i64 n, .int .i64 n, .slice (some ⟨w.heap.size + 1, 0, none⟩) nn nn] 24)) = w5 at *
  go_loopw [4] (fun t wr => ∃ k : Nat, k ≤ n ∧ t = .int .i64 k ∧ Hid (EyI w n nn k wr)) (fun t _ => n - (intOf t).toNat)
  case atStart => exact ⟨0, Nat.zero_le _, rfl, unhide ST⟩
  case round =>
    obtain ⟨k, hk, rfl, HI⟩ := hrel
    clear ST
    by_cases h1 : k < n
    · obtain ⟨mk, hmk⟩ : ∃ m, k * n = m := ⟨_, rfl⟩
      obtain ⟨p, hp⟩ : ∃ p, mk + k = p := ⟨_, rfl⟩
      have hpl : p < nn := by rw [← hp, ← hmk]; exact unhide PI k h1
      have q2 : wr.cell? ⟨w.heap.size + 1 + 1, 2, none⟩ = some (.slice (some ⟨w.heap.size + 1, 0, none⟩) nn nn) := Blk.cell (unhide HI).2.2.1 2
      have f1 : wr.cell? ⟨w.heap.size + 1, p, none⟩ = some (.int .i64 (eyZ n k p)) := by rw [Blk.cell (unhide HI).2.1, ints_at nn _ _ hpl]
      have f2 := Blk.free (unhide HI).2.1 p
      have B1 : Hid (k + 1 ≤ n) := h1
      have nb := unhide HN
      have mk6 : mk ≤ 1000000 := by omega
      have p6 : p ≤ 1000000 := by omega
      have k6 : k ≤ 1000000 := by omega
      have i0 : (0 : Int) ≤ (p : Int) := by omega
      have i1 : (p : Int) < (nn : Int) := by omega
      have wa : wrap64 ((k : Int) * (n : Int)) = (mk : Int) := wrapP k n mk hmk mk6
      have wb : wrap64 ((mk : Int) + (k : Int)) = (p : Int) := wrapA mk k p hp p6
      have R : Hid (EyI w n nn (k + 1) (wr.setCell ⟨w.heap.size + 1, p, none⟩ (.int .i64 4294967296))) := by
        obtain ⟨g1, g2, g3, g4⟩ := unhide HI
        have q : Mod (w.heap.size + 1) wr (wr.setCell ⟨w.heap.size + 1, p, none⟩ (.int .i64 4294967296)) := (Mod.refl _ _).setCell _ _
        refine ⟨Blk.keep g1 q (by omega), ?_, Blk.keep g3 q (by omega), g4.mod q (by omega)⟩
        have := Blk.setI g2 p 4294967296
        rwa [ints_congr nn _ (eyZ n (k + 1)) (fun i _ => by
          have e := eyZ_succ n k i h1
          rw [hmk, hp] at e
          exact e)] at this
      generalize eyZ n k p = old at f1
      clear HI hmk hp hpl nb hk mk6 p6
      go_wp2
      clear wa wb
      go_roundw
      case rel => exact ⟨k + 1, unhide B1, by go_num, R⟩
      case measure => have := unhide B1; simp [intOf]; omega
    · obtain rfl : k = n := by omega
      have PE : Hid (Blk (w.heap.size + 1) (ints nn Y) 3 wr) := by
        have g3 := (unhide HI).2.1
        rwa [ints_congr nn _ _ (fun i hi => unhide EZ i hi)] at g3
      have c0 : wr.cell? ⟨w.heap.size + 1 + 1, 0, none⟩ = some (.int .i64 k) := Blk.cell (unhide HI).2.2.1 0
      have c1 : wr.cell? ⟨w.heap.size + 1 + 1, 1, none⟩ = some (.int .i64 k) := Blk.cell (unhide HI).2.2.1 1
      have c2 : wr.cell? ⟨w.heap.size + 1 + 1, 2, none⟩ = some (.slice (some ⟨w.heap.size + 1, 0, none⟩) nn nn) := Blk.cell (unhide HI).2.2.1 2
      have b3 := (unhide HI).1
      have e0 : wr.cell? ⟨w.heap.size, 0, none⟩ = some (.int .i64 0) := Blk.cell b3 0
      have e1 : wr.cell? ⟨w.heap.size, 1, none⟩ = some (.int .i64 0) := Blk.cell b3 1
      have e2 : wr.cell? ⟨w.heap.size, 2, none⟩ = some (.slice none 0 0) := Blk.cell b3 2
      have ff := Blk.free b3
      have R := hide (And.intro b3 (unhide HI).2.2.2)
      clear HI b3 hk
      go_wp2
      obtain ⟨b3, kw⟩ := unhide R
      have P := putM b3 (.int .i64 k) (.int .i64 k) (.slice (some ⟨w.heap.size + 1, 0, none⟩) nn nn)
      generalize (((wr.setCell ⟨w.heap.size, 0, none⟩ (.int .i64 k)).setCell ⟨w.heap.size, 1, none⟩ (.int .i64 k)).setCell ⟨w.heap.size, 2, none⟩ (.slice (some ⟨w.heap.size + 1, 0, none⟩) nn nn)) = wE at *
      have c0' : wE.cell? ⟨w.heap.size, 0, none⟩ = some (.int .i64 k) := Blk.cell P.1 0
      have c1' : wE.cell? ⟨w.heap.size, 1, none⟩ = some (.int .i64 k) := Blk.cell P.1 1
      have c2' : wE.cell? ⟨w.heap.size, 2, none⟩ = some (.slice (some ⟨w.heap.size + 1, 0, none⟩) nn nn) := Blk.cell P.1 2
      refine bodyPost_ret (v := .agg #[.int .i64 k, .int .i64 k, .slice (some ⟨w.heap.size + 1, 0, none⟩) nn nn]) (by simp [results, Try.results19, go_sem, c0', c1', c2']) rfl ?_
      exact ⟨_, _, rfl, Nat.le_refl _, (Blk.keep (unhide PE) P.2 (by omega)).row, fun U hU => off_blk (by omega), kw.mod P.2 (by omega)⟩


end Go.Proofs.Ytgahdjfkmpadoaa

/- Laws of stage 8 with one unit under way. -/
namespace Go.Proofs.Ytgahdjfkmpadoaa
open Go.RowKit Go.Shelf Go.Proofs.Wd
set_option linter.unusedVariables false
set_option linter.unusedSimpArgs false

/-- What Even and Rank come to, reckoned without choice. -/
def evQ (A : Nat → Int) (n : Nat) : Nat → Int := fun p => if p / n = p % n then A p else halfN (A (min (p / n) (p % n) * n + max (p / n) (p % n))) (A (max (p / n) (p % n) * n + min (p / n) (p % n)))
theorem evenZ_q (A : Nat → Int) (n p : Nat) (hp : p < n * n) : evenZ A n p = evQ A n p := by
  have h := place_lt p n n hp
  have e := evenZ_at A n (p / n) (p % n) h.1 h.2
  rw [place_eq] at e
  exact e
def rkQ (A K : Nat → Int) (s : Int) (n : Nat) : Nat → Int := fun p => rkF A K s n (min (p / n) (p % n)) (max (p / n) (p % n))
theorem rankZ_q (A K : Nat → Int) (s : Int) (n p : Nat) (hp : p < n * n) : rankZ A K s n p = rkQ A K s n p := by
  have h := place_lt p n n hp
  have e := rankZ_at A K s n (p / n) (p % n) h.1 h.2
  rw [place_eq] at e
  exact e
/-- Made symmetric, so it is. -/
theorem isB_sym (n len : Nat) (Z : Nat → Int) (hn : 1 ≤ n ∧ n ≤ 12) (hl : len = n * n) (h : symP Z n) : isB n n len Z = true :=
  isB_yes ⟨by omega, by omega, by rw [hl, Int.natCast_mul]⟩ (fun a c h1 h2 => h a c h2 (by omega))

section
variable {w : World} {U : Nat} {P : Bool → Prop} {D : Int} {bx : List (Nat × Array Value)} {rows : List (Option Addr × Nat × (Nat → Int))} {wx w' : World}
/-- A matrix that the unit reckoned. -/
theorem KS.toldS {F : Nat} {args : Array Value} {r c err : Int} {len : Nat} {Z : Nat → Int} {G : Bool} {d : Int} (D' : Int) (h : KS w U P D bx rows wx) (hD : D ≤ 1000000000) (hd : 0 ≤ d ∧ D + d ≤ D') (hG : ∀ c, P c → P (c || G))
    (m : ∀ c0 n0, 0 ≤ n0 ∧ n0 < 1000000000000000000 → UC U c0 n0 wx → Calls Try.prog F args wx fun e w' => SymP r c len Z err (UX U (c0 || G) n0 d wx) wx e w') :
    Calls Try.prog F args wx fun e w' => ∃ ao cap, e = .returned (.tuple #[.agg #[.int .i64 r, .int .i64 c, .slice ao len cap], .int .i64 err]) ∧ len ≤ cap ∧ KS w U P D' bx ((ao, len, Z) :: rows) w' := by
  obtain ⟨c0, n0, h1, h2, h3, h4⟩ := h.1
  refine (m c0 n0 ⟨h2, by omega⟩ h4).mono ?_
  rintro e w' ⟨ao, cap, B, rfl, hc, hB, ho, ⟨k, k1, k2, hu⟩, hm⟩
  have t := h.2.mk (U := U) (by simp) hm
  refine ⟨ao, cap, rfl, hc, ⟨_, _, hG _ h1, by omega, by omega, hu⟩, t.row ?_ (fun e he => ?_)⟩
  · rcases ho with ho | ⟨rfl, ho⟩
    · exact Or.inl ho
    · exact ho.row
  · rcases ho with ho | ⟨rfl, ho⟩
    · exact fun hl => absurd hl (by omega)
    · exact off_blk (by have := (h.2.2.1 e he).2; omega)
/-- What no unit reckoned. -/
theorem KS.toldSK {r c err : Int} {len : Nat} {Z : Nat → Int} {e : Ending} (h : KS w U P D bx rows wx) (hv : SymP r c len Z err (Kp wx) wx e w') : ∃ ao cap, e = .returned (.tuple #[.agg #[.int .i64 r, .int .i64 c, .slice ao len cap], .int .i64 err]) ∧ len ≤ cap ∧ KS w U P D bx ((ao, len, Z) :: rows) w' := by
  obtain ⟨ao, cap, B, rfl, hc, hB, ho, hm⟩ := hv
  have t := h.kp hm
  refine ⟨ao, cap, rfl, hc, t.1, t.2.row ?_ (fun e he => ?_)⟩
  · rcases ho with ho | ⟨rfl, ho⟩
    · exact Or.inl ho
    · exact ho.row
  · rcases ho with ho | ⟨rfl, ho⟩
    · exact fun hl => absurd hl (by omega)
    · exact off_blk (by have := (h.2.2.1 e he).2; omega)
/-- A number that the unit reckoned. -/
theorem KS.toldN {F : Nat} {args : Array Value} {x err : Int} {G : Bool} {d : Int} (D' : Int) (h : KS w U P D bx rows wx) (hD : D ≤ 1000000000) (hd : 0 ≤ d ∧ D + d ≤ D') (hG : ∀ c, P c → P (c || G))
    (m : ∀ c0 n0, 0 ≤ n0 ∧ n0 < 1000000000000000000 → UC U c0 n0 wx → Calls Try.prog F args wx fun e w' => e = .returned (.tuple #[.int .i64 x, .int .i64 err]) ∧ UX U (c0 || G) n0 d wx w') :
    Calls Try.prog F args wx fun e w' => e = .returned (.tuple #[.int .i64 x, .int .i64 err]) ∧ KS w U P D' bx rows w' := by
  obtain ⟨c0, n0, h1, h2, h3, h4⟩ := h.1
  refine (m c0 n0 ⟨h2, by omega⟩ h4).mono ?_
  rintro e w' ⟨rfl, ⟨k, k1, k2, hu⟩, hm⟩
  exact ⟨rfl, ⟨_, _, hG _ h1, by omega, by omega, hu⟩, h.2.mk (U := U) (by simp) hm⟩
theorem KS.more (h : KS w U P D bx rows wx) {D' : Int} (hD : D ≤ D') : KS w U P D' bx rows wx := let ⟨c, n, h1, h2, h3, h4⟩ := h.1; ⟨⟨c, n, h1, h2, Int.le_trans h3 hD, h4⟩, h.2⟩
end

/-- The calls, over rows. -/
theorem evenR (U n : Nat) (hn : 1 ≤ n ∧ n ≤ 12) (len : Nat) (hl : len = n * n) (a1 : Option Addr) (p1 : Nat) (A : Nat → Int) (hA : ∀ j, j < len → I64 (A j)) (w : World) (ra : Row w a1 len A ∧ Off U len a1) (c0 : Bool) (n0 : Int) (hn0 : 0 ≤ n0 ∧ n0 < 1000000000000000000) (h : UC U c0 n0 w) :
    Calls Try.prog 10 #[.pointer (some ⟨U, 0, none⟩), .agg #[.int .i64 n, .int .i64 n, .slice a1 len p1]] w fun e w' => SymP n n len (evenZ A n) 0 (UX U (c0 || orC (upC (evC A n) 1 n) len) n0 144 w) w e w' := by
  have k1 := mul12n n n hn hn
  obtain ⟨b, o, rfl, za⟩ := ra.1.some (by omega)
  exact symEven_ok U c0 n0 ⟨hn0.1, by omega⟩ n len p1 b o A hn hl hA w h za (off_at ra.2 (by omega))
theorem rankR (U n : Nat) (hn : 1 ≤ n ∧ n ≤ 12) (len : Nat) (hl : len = n * n) (a1 xo : Option Addr) (p1 xc : Nat) (A K0 : Nat → Int) (s : Int) (hs : I64 s) (hA : ∀ j, j < len → I64 (A j)) (hK : ∀ j, j < n → I64 (K0 j)) (w : World) (ra : Row w a1 len A ∧ Off U len a1) (rk : Row w xo n K0 ∧ Off U n xo) (c0 : Bool) (n0 : Int) (hn0 : 0 ≤ n0 ∧ n0 < 1000000000000000000) (h : UC U c0 n0 w) :
    Calls Try.prog 12 #[.pointer (some ⟨U, 0, none⟩), .agg #[.int .i64 n, .int .i64 n, .slice a1 len p1], .slice xo n xc, .int .i64 s] w fun e w' => SymP n n len (rankZ A K0 s n) 0 (UX U (c0 || orC (upC (rkC A K0 s n) 0 n) len) n0 864 w) w e w' := by
  have k1 := mul12n n n hn hn
  obtain ⟨b, o, rfl, za⟩ := ra.1.some (by omega)
  obtain ⟨kb, ko, rfl, zk⟩ := rk.1.some (by omega)
  exact symRank_ok U c0 n0 ⟨hn0.1, by omega⟩ n len p1 b o A hn hl hA w h za (off_at ra.2 (by omega)) kb ko xc K0 s hs hK zk (off_at rk.2 (by omega))
theorem sandR (U r m : Nat) (hr : 1 ≤ r ∧ r ≤ 12) (hm : 1 ≤ m ∧ m ≤ 12) (l1 l2 : Nat) (hl1 : l1 = r * m) (hl2 : l2 = m * m) (a1 a2 : Option Addr) (p1 p2 : Nat) (hp : l1 ≤ p1) (A B : Nat → Int) (hA : ∀ j, j < l1 → I64 (A j)) (hB : ∀ j, j < l2 → I64 (B j)) (w : World) (ra : Row w a1 l1 A ∧ Off U l1 a1) (rb : Row w a2 l2 B ∧ Off U l2 a2) (c0 : Bool) (n0 : Int) (hn0 : 0 ≤ n0 ∧ n0 < 1000000000000000000) (h : UC U c0 n0 w) :
    Calls Try.prog 11 #[.pointer (some ⟨U, 0, none⟩), .agg #[.int .i64 r, .int .i64 m, .slice a1 l1 p1], .agg #[.int .i64 m, .int .i64 m, .slice a2 l2 p2]] w fun e w' => SymP r r (r * r) (evenZ (mulZ (mulZ A B m m) (turnZ A r m) m r) r) 0 (UX U (c0 || (orC (mulG A B m m) (r * m) || orC (mulG (mulZ A B m m) (turnZ A r m) m r) (r * r) || orC (upC (evC (mulZ (mulZ A B m m) (turnZ A r m) m r) r) 1 r) (r * r))) n0 10000 w) w e w' := by
  have := symSandwich_ok U c0 n0 hn0 r m a1 a2 l1 p1 l2 p2 A B hr hm hl1 hl2 hp hA hB w h ra.1 ra.2 rb.1 rb.2
  simp only [Bool.or_assoc] at this ⊢
  exact this
/-- Refused. -/
theorem SymP.ux {U : Nat} {c0 : Bool} {n0 : Int} {r c err : Int} {len : Nat} {Z : Nat → Int} {w : World} {e : Ending} {w' : World} (d : Int) (hd : 0 ≤ d) (h : SymP r c len Z err (fun w' => UC U c0 n0 w' ∧ Mk U w w') w e w') : SymP r c len Z err (UX U (c0 || false) n0 d w) w e w' := by
  obtain ⟨ao, cap, B, h1, h2, h3, h4, h5, h6⟩ := h
  exact ⟨ao, cap, B, h1, h2, h3, h4, ⟨n0, Int.le_refl _, by omega, by rw [Bool.or_false]; exact h5⟩, h6⟩

end Go.Proofs.Ytgahdjfkmpadoaa

/- The laws' helper awake of stage 8. -/
namespace Go.Proofs.Ytgahdjfkmpadoaa
open Go.RowKit Go.Shelf Go.Proofs.Wd
set_option linter.unusedVariables false
set_option linter.unusedSimpArgs false

theorem ixI64 (l : List Int) (h : ∀ x ∈ l, -9223372036854775808 ≤ x ∧ x ≤ 9223372036854775807) (n : Nat) (hn : l.length = n) : ∀ i, i < n → I64 (ix l i) := by
  intro i hi
  have : ix l i = l[i] := by simp [ix, hn, hi]
  rw [this]
  have q := h l[i] (List.getElem_mem _)
  unfold I64
  omega
theorem aw1 : ∀ i, i < 4 → evenZ (ix [1, 2, 5, 4]) 2 i = ix [1, 4, 4, 4] i := fun i hi =>
  (evenZ_q _ 2 i hi).trans ((show ∀ i, i < 4 → evQ (ix [1, 2, 5, 4]) 2 i = ix [1, 4, 4, 4] i by decide +kernel) i hi)
theorem aw1c : orC (upC (evC (ix [1, 2, 5, 4]) 2) 1 2) 4 = false := by decide +kernel
theorem aw2 : ∀ i, i < 4 → evenZ (mulZ (mulZ (ix [4294967296, 4294967296, 0, 4294967296]) (ix [4294967296, 0, 0, 4294967296]) 2 2) (turnZ (ix [4294967296, 4294967296, 0, 4294967296]) 2 2) 2 2) 2 i = ix [8589934592, 4294967296, 4294967296, 4294967296] i := fun i hi =>
  (evenZ_q _ 2 i hi).trans ((show ∀ i, i < 4 → evQ (mulZ (mulZ (ix [4294967296, 4294967296, 0, 4294967296]) (ix [4294967296, 0, 0, 4294967296]) 2 2) (turnZ (ix [4294967296, 4294967296, 0, 4294967296]) 2 2) 2 2) 2 i = ix [8589934592, 4294967296, 4294967296, 4294967296] i by decide +kernel) i hi)
theorem aw2c : (orC (mulG (ix [4294967296, 4294967296, 0, 4294967296]) (ix [4294967296, 0, 0, 4294967296]) 2 2) (2 * 2) || orC (mulG (mulZ (ix [4294967296, 4294967296, 0, 4294967296]) (ix [4294967296, 0, 0, 4294967296]) 2 2) (turnZ (ix [4294967296, 4294967296, 0, 4294967296]) 2 2) 2 2) (2 * 2) || orC (upC (evC (mulZ (mulZ (ix [4294967296, 4294967296, 0, 4294967296]) (ix [4294967296, 0, 0, 4294967296]) 2 2) (turnZ (ix [4294967296, 4294967296, 0, 4294967296]) 2 2) 2 2) 2) 1 2) (2 * 2)) = false := by decide +kernel
theorem aw3 : isB 2 2 4 (ix [1, 4, 4, 4]) = true := isB_yes (n := 2) ⟨by omega, by omega, by decide⟩ (fun a c h1 h2 => by
  obtain ⟨rfl, rfl⟩ : a = 1 ∧ c = 0 := by omega
  decide)
theorem aw4 : isB 2 2 4 (ix [1, 2, 5, 4]) = false := isB_not (n := 2) (a := 1) (c := 0) (by omega) (by omega) (by decide)


set_option maxRecDepth 20000 in
set_option maxHeartbeats 8000000 in
theorem lawSymAwake (w : World) : Calls Try.prog 9 #[] w fun e w' => e = .returned (.bool true) ∧ Kp w w' := by
  have N1 := hide (unitNew w)
  have hU := Nat.le_refl w.heap.size
  generalize e : w.heap.size = U at N1 hU
  replace hU : w.heap.size ≤ U := by omega
  have HE := hide hU
  clear e hU
  go_enter Try.func9, Try.ntmps9
  go_wp2_with fail
  refine (unhide N1).mono ?_
  rintro e w1 ⟨rfl, h1, g1⟩
  have S1 : Hid (KS w U (fun c => c = false) 0 [] [] w1) := KS.start (unhide HE) h1 g1 rfl
  clear h1 g1 N1
  have S2 := hide ((unhide S1).lit [1, 2, 5, 4])
  go_wp2_with fail
  generalize hw2 : w1.alloc (.cells #[.int .i64 1, .int .i64 2, .int .i64 5, .int .i64 4] 3) = w2 at *
  have S2' : Hid (KS w U (fun c => c = false) 0 [] [(some ⟨w1.heap.size, 0, none⟩, 4, ix [1, 2, 5, 4])] w2) := by rw [← hw2]; exact unhide S2
  clear hw2 S2 S1
  generalize w1.heap.size = L1 at *
  refine (lawTwo _ 4 4 w2).mono ?_
  rintro e w3 ⟨rfl, g3⟩
  have S3 := hide ((unhide S2').kp (Kp.of g3))
  clear g3 S2'
  go_wp2_with fail
  refine (KS.toldS 144 (unhide S3) (by omega) (by decide) (fun c hc => by subst hc; exact aw1c) (fun c0 n0 hn hu => evenR U 2 (by omega) 4 rfl (some ⟨L1, 0, none⟩) 4 (ix [1, 2, 5, 4]) (ixI64 _ (by simp) 4 rfl) w3 ((unhide S3).row (by simp)) c0 n0 hn hu)).mono ?_
  rintro e w4 ⟨a1, p1, rfl, hp1, S4⟩
  have S5 := hide ((S4.congr aw1).box #[.int .i64 2, .int .i64 2, .slice a1 4 p1])
  have HP1 := hide hp1
  clear S4 S3 hp1
  generalize hw5 : w4.alloc (.cells #[.int .i64 2, .int .i64 2, .slice a1 4 p1] 24) = w5 at S5
  have L5 := hide ((unhide S5).lit [4294967296, 4294967296, 0, 4294967296])
  go_wp2_with fail
  clear hw5
  generalize hw6 : w5.alloc (.cells #[.int .i64 4294967296, .int .i64 4294967296, .int .i64 0, .int .i64 4294967296] 3) = w6 at *
  have S6 : Hid (KS w U (fun c => c = false) 144 [(w4.heap.size, #[.int .i64 2, .int .i64 2, .slice a1 4 p1])] [(some ⟨w5.heap.size, 0, none⟩, 4, ix [4294967296, 4294967296, 0, 4294967296]), (a1, 4, ix [1, 4, 4, 4]), (some ⟨L1, 0, none⟩, 4, ix [1, 2, 5, 4])] w6) := by rw [← hw6]; exact unhide L5
  clear hw6 L5 S5
  refine (lawTwo _ 4 4 w6).mono ?_
  rintro e w7 ⟨rfl, g7⟩
  have S7 := hide ((unhide S6).kp (Kp.of g7))
  clear g7 S6
  have L7 := hide ((unhide S7).lit [4294967296, 0, 0, 4294967296])
  go_wp2_with fail
  generalize hw8 : w7.alloc (.cells #[.int .i64 4294967296, .int .i64 0, .int .i64 0, .int .i64 4294967296] 3) = w8 at *
  have S8 : Hid (KS w U (fun c => c = false) 144 [(w4.heap.size, #[.int .i64 2, .int .i64 2, .slice a1 4 p1])] [(some ⟨w7.heap.size, 0, none⟩, 4, ix [4294967296, 0, 0, 4294967296]), (some ⟨w5.heap.size, 0, none⟩, 4, ix [4294967296, 4294967296, 0, 4294967296]), (a1, 4, ix [1, 4, 4, 4]), (some ⟨L1, 0, none⟩, 4, ix [1, 2, 5, 4])] w8) := by rw [← hw8]; exact unhide L7
  clear hw8 L7 S7
  generalize w7.heap.size = L2 at *
  generalize w5.heap.size = L3 at *
  refine (lawTwo _ 4 4 w8).mono ?_
  rintro e w9 ⟨rfl, g9⟩
  have S9 := hide ((unhide S8).kp (Kp.of g9))
  clear g9 S8
  go_wp2_with fail
  refine (KS.toldS 10144 (unhide S9) (by omega) (by decide) (fun c hc => by subst hc; exact aw2c) (fun c0 n0 hn hu => sandR U 2 2 (by omega) (by omega) 4 4 rfl rfl (some ⟨L3, 0, none⟩) (some ⟨L2, 0, none⟩) 4 4 (by omega) (ix [4294967296, 4294967296, 0, 4294967296]) (ix [4294967296, 0, 0, 4294967296]) (ixI64 _ (by simp) 4 rfl) (ixI64 _ (by simp) 4 rfl) w9 ((unhide S9).row (by simp)) ((unhide S9).row (by simp)) c0 n0 hn hu)).mono ?_
  rintro e w10 ⟨a2, p2, rfl, hp2, S10⟩
  have S11 := hide ((S10.congr aw2).box #[.int .i64 2, .int .i64 2, .slice a2 4 p2])
  clear S10 S9 hp2
  simp only [show 2 * 2 = 4 from rfl] at S11 ⊢
  go_wp2_with fail
  generalize w10.alloc (.cells #[.int .i64 2, .int .i64 2, .slice a2 4 p2] 24) = w11 at *
  have CW : Hid (∀ wx, Kp w11 wx → wx.cell? ⟨w4.heap.size, 0, none⟩ = some (.int .i64 2) ∧ wx.cell? ⟨w4.heap.size, 1, none⟩ = some (.int .i64 2) ∧ wx.cell? ⟨w4.heap.size, 2, none⟩ = some (.slice a1 4 p1) ∧ wx.cell? ⟨w10.heap.size, 0, none⟩ = some (.int .i64 2) ∧ wx.cell? ⟨w10.heap.size, 1, none⟩ = some (.int .i64 2) ∧ wx.cell? ⟨w10.heap.size, 2, none⟩ = some (.slice a2 4 p2)) := fun wx k => by
    have h := (unhide S11).kp k
    obtain ⟨x0, x1, x2⟩ := h.cells (b := w4.heap.size) (x := .int .i64 2) (y := .int .i64 2) (z := .slice a1 4 p1) (by simp)
    exact ⟨x0, x1, x2, h.cells (b := w10.heap.size) (x := .int .i64 2) (y := .int .i64 2) (z := .slice a2 4 p2) (by simp)⟩
  have Rc : Hid (∀ wx, Kp w11 wx → Row wx a1 4 (ix [1, 4, 4, 4])) := fun wx k => (((unhide S11).kp k).row (ao := a1) (len := 4) (Z := ix [1, 4, 4, 4]) (by simp)).1
  have Rd : Hid (∀ wx, Kp w11 wx → Row wx a2 4 (ix [8589934592, 4294967296, 4294967296, 4294967296])) := fun wx k => (((unhide S11).kp k).row (ao := a2) (len := 4) (Z := ix [8589934592, 4294967296, 4294967296, 4294967296]) (by simp)).1
  obtain ⟨x1, x2, x3, x4, x5, x6⟩ := unhide CW w11 (Kp.refl _)
  have hz1 : w4.heap.size < w11.heap.size := heap_gt x1
  have hz2 : w10.heap.size < w11.heap.size := heap_gt x4
  have KD : Hid (Kp w11 (w11.alloc (.cells #[.int .i64 1, .int .i64 4, .int .i64 4, .int .i64 4] 3)).drew) := (Kp.refl w11).alloc _ _
  have RD : Hid (Row (w11.alloc (.cells #[.int .i64 1, .int .i64 4, .int .i64 4, .int .i64 4] 3)).drew (some ⟨w11.heap.size, 0, none⟩) 4 (ix [1, 4, 4, 4])) := row_lit (l := [1, 4, 4, 4]) (Blk.new w11 _ _)
  have KW := hide (unhide S11).2.1
  clear S11
  have T1 := hide (fun a n c w => lawTwo a n c w)
  have T2 := hide (fun a n c w => lawTwo a n c w)
  have T3 := hide (fun a n c w => lawTwo a n c w)
  have I1 := hide (fun w r => symIsAny 2 2 a1 4 p1 (ix [1, 4, 4, 4]) w r)
  rw [aw3] at I1
  have I2 := hide (fun b w r => symIsAny 2 2 (some ⟨b, 0, none⟩) 4 4 (ix [1, 2, 5, 4]) w r)
  rw [aw4] at I2
  go_region_held3 (fun w' => w'.cell? ⟨w4.heap.size, 0, none⟩ = some (.int .i64 2) ∧ w'.cell? ⟨w4.heap.size, 1, none⟩ = some (.int .i64 2) ∧ w'.cell? ⟨w4.heap.size, 2, none⟩ = some (.slice a1 4 p1) ∧ w'.cell? ⟨w10.heap.size, 0, none⟩ = some (.int .i64 2) ∧ w'.cell? ⟨w10.heap.size, 1, none⟩ = some (.int .i64 2) ∧ w'.cell? ⟨w10.heap.size, 2, none⟩ = some (.slice a2 4 p2))
      (simp [go_sem, *])
      (first
        | (go_at_call 15; refine (unhide T1 _ _ _ _).mono ?_; clear T1; rintro e w12 ⟨rfl, g12⟩; have K12 : Hid (Kp w11 w12) := ((unhide KD).grown g12); have R12 := hide ((unhide RD).grown g12); obtain ⟨y1, y2, y3, y4, y5, y6⟩ := unhide CW w12 (unhide K12); have hya := heap_gt y1; have hyb := heap_gt y4; clear g12 KD RD)
        | (go_at_call 16; refine (lawIs 2 2 a1 (some ⟨w11.heap.size, 0, none⟩) 4 p1 4 (ix [1, 4, 4, 4]) (by omega) _ (unhide Rc _ (unhide K12)) (unhide R12)).mono ?_; clear R12; rintro e w13 ⟨rfl, k13⟩; have K13 : Hid (Kp w11 w13) := ((unhide K12).trans k13); obtain ⟨z1, z2, z3, z4, z5, z6⟩ := unhide CW w13 (unhide K13); have hza := heap_gt z1; have hzb := heap_gt z4; have KE : Hid (Kp w11 (w13.alloc (.cells #[.int .i64 8589934592, .int .i64 4294967296, .int .i64 4294967296, .int .i64 4294967296] 3)) ∧ Row (w13.alloc (.cells #[.int .i64 8589934592, .int .i64 4294967296, .int .i64 4294967296, .int .i64 4294967296] 3)) (some ⟨w13.heap.size, 0, none⟩) 4 (ix [8589934592, 4294967296, 4294967296, 4294967296])) := ⟨(unhide K13).alloc _ _, row_lit (l := [8589934592, 4294967296, 4294967296, 4294967296]) (Blk.new w13 _ _)⟩; clear k13)
        | (go_at_call 15; refine (unhide T2 _ _ _ _).mono ?_; clear T2; rintro e w14 ⟨rfl, g14⟩; have K14 : Hid (Kp w11 w14) := ((unhide KE).1.grown g14); have R14 := hide ((unhide KE).2.grown g14); obtain ⟨v1, v2, v3, v4, v5, v6⟩ := unhide CW w14 (unhide K14); have hva := heap_gt v1; have hvb := heap_gt v4; clear g14 KE)
        | (go_at_call 16; refine (lawIs 2 2 a2 (some ⟨w13.heap.size, 0, none⟩) 4 p2 4 (ix [8589934592, 4294967296, 4294967296, 4294967296]) (by omega) _ (unhide Rd _ (unhide K14)) (unhide R14)).mono ?_; clear R14; rintro e w15 ⟨rfl, k15⟩; have K15 : Hid (Kp w11 w15) := ((unhide K14).trans k15); obtain ⟨t1, t2, t3, t4, t5, t6⟩ := unhide CW w15 (unhide K15); have hta := heap_gt t1; have htb := heap_gt t4; clear k15)
        | (go_at_call 18; refine (unhide I1 _ (unhide Rc _ (unhide K15))).mono ?_; clear I1; rintro e w16 ⟨rfl, k16⟩; have K16 : Hid (Kp w11 w16) := ((unhide K15).trans k16); obtain ⟨s1, s2, s3, s4, s5, s6⟩ := unhide CW w16 (unhide K16); have hsa := heap_gt s1; have hsb := heap_gt s4; have KF : Hid (Kp w11 (w16.alloc (.cells #[.int .i64 1, .int .i64 2, .int .i64 5, .int .i64 4] 3)) ∧ Row (w16.alloc (.cells #[.int .i64 1, .int .i64 2, .int .i64 5, .int .i64 4] 3)) (some ⟨w16.heap.size, 0, none⟩) 4 (ix [1, 2, 5, 4])) := ⟨(unhide K16).alloc _ _, row_lit (l := [1, 2, 5, 4]) (Blk.new w16 _ _)⟩; clear k16)
        | (go_at_call 15; refine (unhide T3 _ _ _ _).mono ?_; clear T3; rintro e w17 ⟨rfl, g17⟩; have K17 : Hid (Kp w11 w17) := ((unhide KF).1.grown g17); have R17 := hide ((unhide KF).2.grown g17); obtain ⟨r1, r2, r3, r4, r5, r6⟩ := unhide CW w17 (unhide K17); have hra := heap_gt r1; have hrb := heap_gt r4; clear g17 KF)
        | (go_at_call 18; refine (unhide I2 _ _ (unhide R17)).mono ?_; clear I2 R17; rintro e w18 ⟨rfl, k18⟩; have K18 : Hid (Kp w11 w18) := ((unhide K17).trans k18); obtain ⟨q1, q2, q3, q4, q5, q6⟩ := unhide CW w18 (unhide K18); have hqa := heap_gt q1; have hqb := heap_gt q4; clear k18))
  go_wp2
  go_ret
  exact ⟨rfl, (unhide KW).trans (unhide K18)⟩


end Go.Proofs.Ytgahdjfkmpadoaa

/- SymKnown. -/
namespace Go.Proofs.Ytgahdjfkmpadoaa
open Go.RowKit Go.Shelf Go.Proofs.Wd
set_option linter.unusedVariables false
set_option linter.unusedSimpArgs false

theorem kn1 : ∀ i, i < 4 → rankZ (ix [0, 0, 0, 0]) (ix [4294967296, 8589934592]) 2147483648 2 i = ix [2147483648, 4294967296, 4294967296, 8589934592] i := fun i hi =>
  (rankZ_q _ _ _ 2 i hi).trans ((show ∀ i, i < 4 → rkQ (ix [0, 0, 0, 0]) (ix [4294967296, 8589934592]) 2147483648 2 i = ix [2147483648, 4294967296, 4294967296, 8589934592] i by decide +kernel) i hi)
theorem kn1c : orC (upC (rkC (ix [0, 0, 0, 0]) (ix [4294967296, 8589934592]) 2147483648 2) 0 2) 4 = false := by decide +kernel
theorem kn2 : thN addN 0 (dgL (ix [2147483648, 4294967296, 4294967296, 8589934592]) 2) 2 = 10737418240 ∧ thC addN addC 0 (dgL (ix [2147483648, 4294967296, 4294967296, 8589934592]) 2) 2 = false := by decide +kernel
theorem kn3 : ¬ sqM 1 2 2 1 := fun h => by have := h.2.2; omega
theorem kn4 : ¬ sqM 1 1 1 0 := fun h => by have := h.2.1; omega
theorem traceR (U n : Nat) (hn : 1 ≤ n ∧ n ≤ 12) (len : Nat) (hl : len = n * n) (a1 : Option Addr) (p1 : Nat) (A : Nat → Int) (hA : ∀ j, j < len → I64 (A j)) (w : World) (ra : Row w a1 len A ∧ Off U len a1) (c0 : Bool) (n0 : Int) (hn0 : 0 ≤ n0 ∧ n0 < 1000000000000000000) (h : UC U c0 n0 w) :
    Calls Try.prog 13 #[.pointer (some ⟨U, 0, none⟩), .agg #[.int .i64 n, .int .i64 n, .slice a1 len p1]] w fun e w' => e = .returned (.tuple #[.int .i64 (thN addN 0 (dgL A n) n), .int .i64 0]) ∧ UX U (c0 || thC addN addC 0 (dgL A n) n) n0 144 w w' := by
  have k1 := mul12n n n hn hn
  obtain ⟨b, o, rfl, za⟩ := ra.1.some (by omega)
  exact symTrace_ok U c0 n0 ⟨hn0.1, by omega⟩ n len p1 b o A hn hl hA w h za (off_at ra.2 (by omega))

set_option maxRecDepth 20000 in
set_option maxHeartbeats 8000000 in
theorem lawSymKnown (w : World) : Calls Try.prog 4 #[] w fun e w' => e = .returned (.bool true) ∧ Kp w w' := by
  have N1 := hide (unitNew w)
  have hU := Nat.le_refl w.heap.size
  generalize e : w.heap.size = U at N1 hU
  replace hU : w.heap.size ≤ U := by omega
  have HE := hide hU
  clear e hU
  go_enter Try.func4, Try.ntmps4
  go_wp2_with fail
  refine (unhide N1).mono ?_
  rintro e w1 ⟨rfl, h1, g1⟩
  have S1 : Hid (KS w U (fun c => c = false) 0 [] [] w1) := KS.start (unhide HE) h1 g1 rfl
  clear h1 g1 N1
  have S2 := hide ((unhide S1).lit [0, 0, 0, 0])
  go_wp2_with fail
  generalize hw2 : w1.alloc (.cells #[.int .i64 0, .int .i64 0, .int .i64 0, .int .i64 0] 3) = w2 at *
  have S2' : Hid (KS w U (fun c => c = false) 0 [] [(some ⟨w1.heap.size, 0, none⟩, 4, ix [0, 0, 0, 0])] w2) := by rw [← hw2]; exact unhide S2
  clear hw2 S2 S1
  generalize w1.heap.size = L1 at *
  refine (lawTwo _ 4 4 w2).mono ?_
  rintro e w3 ⟨rfl, g3⟩
  have S3 := hide ((unhide S2').kp (Kp.of g3))
  clear g3 S2'
  have S4 := hide ((unhide S3).lit [4294967296, 8589934592])
  go_wp2_with fail
  generalize hw4 : w3.alloc (.cells #[.int .i64 4294967296, .int .i64 8589934592] 3) = w4 at *
  have S4' : Hid (KS w U (fun c => c = false) 0 [] [(some ⟨w3.heap.size, 0, none⟩, 2, ix [4294967296, 8589934592]), (some ⟨L1, 0, none⟩, 4, ix [0, 0, 0, 0])] w4) := by rw [← hw4]; exact unhide S4
  clear hw4 S4 S3
  generalize w3.heap.size = L2 at *
  refine (KS.toldS 864 (unhide S4') (by omega) (by decide) (fun c hc => by subst hc; exact kn1c) (fun c0 n0 hn hu => rankR U 2 (by omega) 4 rfl (some ⟨L1, 0, none⟩) (some ⟨L2, 0, none⟩) 4 2 (ix [0, 0, 0, 0]) (ix [4294967296, 8589934592]) 2147483648 (by unfold I64; omega) (ixI64 _ (by simp) 4 rfl) (ixI64 _ (by simp) 2 rfl) w4 ((unhide S4').row (by simp)) ((unhide S4').row (by simp)) c0 n0 hn hu)).mono ?_
  rintro e w5 ⟨a1, p1, rfl, hp1, S5⟩
  have S6 := hide ((S5.congr kn1).box #[.int .i64 2, .int .i64 2, .slice a1 4 p1])
  clear S5 S4' hp1
  generalize hw6 : w5.alloc (.cells #[.int .i64 2, .int .i64 2, .slice a1 4 p1] 24) = w6 at S6
  obtain ⟨x0, x1, x2⟩ := (unhide S6).cells (b := w5.heap.size) (x := .int .i64 2) (y := .int .i64 2) (z := .slice a1 4 p1) (by simp)
  go_wp2_with fail
  clear hw6
  refine (KS.toldN 1008 (unhide S6) (by omega) (by decide) (fun c hc => by subst hc; exact kn2.2) (fun c0 n0 hn hu => traceR U 2 (by omega) 4 rfl a1 p1 (ix [2147483648, 4294967296, 4294967296, 8589934592]) (ixI64 _ (by simp) 4 rfl) w6 ((unhide S6).row (by simp)) c0 n0 hn hu)).mono ?_
  rw [kn2.1]
  rintro e w7 ⟨rfl, S7'⟩
  have S7 := hide S7'
  clear S7' S6 x0 x1 x2
  have S8 := hide ((unhide S7).lit [1, 2])
  go_wp2_with fail
  generalize hw8 : w7.alloc (.cells #[.int .i64 1, .int .i64 2] 3) = w8 at *
  have S8' : Hid (KS w U (fun c => c = false) 1008 [(w5.heap.size, #[.int .i64 2, .int .i64 2, .slice a1 4 p1])] [(some ⟨w7.heap.size, 0, none⟩, 2, ix [1, 2]), (a1, 4, ix [2147483648, 4294967296, 4294967296, 8589934592]), (some ⟨L2, 0, none⟩, 2, ix [4294967296, 8589934592]), (some ⟨L1, 0, none⟩, 4, ix [0, 0, 0, 0])] w8) := by rw [← hw8]; exact unhide S8
  clear hw8 S8 S7
  generalize w7.heap.size = L3 at *
  refine (KS.toldS 1008 (G := false) (d := 0) (unhide S8') (by omega) (by decide) (fun c hc => by subst hc; rfl) (fun c0 n0 hn hu => (symEven_bad U c0 n0 ⟨hn.1, by omega⟩ 1 2 (some ⟨L3, 0, none⟩) 2 2 (ix []) kn3 w8 hu).mono (fun e w' h => SymP.ux 0 (by omega) h))).mono ?_
  rintro e w9 ⟨a2, p2, rfl, hp2, S9⟩
  have S10 := hide (S9.box #[.int .i64 0, .int .i64 0, .slice a2 0 p2])
  clear S9 S8' hp2
  generalize hw10 : w9.alloc (.cells #[.int .i64 0, .int .i64 0, .slice a2 0 p2] 24) = w10 at S10
  have S11 := hide ((unhide S10).lit [1])
  go_wp2_with fail
  clear hw10
  generalize hw11 : w10.alloc (.cells #[.int .i64 1] 3) = w11 at *
  have S11' := hide (show KS w U (fun c => c = false) 1008 _ _ w11 from by rw [← hw11]; exact unhide S11)
  clear hw11 S11 S10
  generalize w10.heap.size = L4 at *
  refine (KS.toldS 1008 (G := false) (d := 0) (unhide S11') (by omega) (by decide) (fun c hc => by subst hc; rfl) (fun c0 n0 hn hu => (symRank_bad U c0 n0 ⟨hn.1, by omega⟩ 1 1 (some ⟨L4, 0, none⟩) 1 1 none 0 0 1 (ix []) kn4 w11 hu).mono (fun e w' h => SymP.ux 0 (by omega) h))).mono ?_
  rintro e w12 ⟨a3, p3, rfl, hp3, S12⟩
  have S13 := hide (S12.box #[.int .i64 0, .int .i64 0, .slice a3 0 p3])
  clear S12 S11' hp3
  generalize hw13 : w12.alloc (.cells #[.int .i64 0, .int .i64 0, .slice a3 0 p3] 24) = w13 at S13
  have S14 := hide ((unhide S13).lit [1, 2, 5, 4])
  go_wp2_with fail
  clear hw13
  generalize hw14 : w13.alloc (.cells #[.int .i64 1, .int .i64 2, .int .i64 5, .int .i64 4] 3) = w14 at *
  have S14' := hide (show KS w U (fun c => c = false) 1008 _ _ w14 from by rw [← hw14]; exact unhide S14)
  clear hw14 S14 S13
  generalize w13.heap.size = L5 at *
  refine (lawTwo _ 4 4 w14).mono ?_
  rintro e w15 ⟨rfl, g15⟩
  have S15 := hide ((unhide S14').kp (Kp.of g15))
  clear g15 S14'
  go_wp2_with fail
  refine (symEven_none none 2 2 (some ⟨L5, 0, none⟩) 4 4 (ix []) w15 (Or.inl rfl)).mono ?_
  intro e w16 hv
  obtain ⟨a4, p4, rfl, _, S16⟩ := (unhide S15).toldSK hv
  have S17 := hide (S16.box #[.int .i64 0, .int .i64 0, .slice a4 0 p4])
  clear S16 S15 hv
  go_wp2_with fail
  generalize w16.alloc (.cells #[.int .i64 0, .int .i64 0, .slice a4 0 p4] 24) = w17 at *
  have CW : Hid (∀ wx, Kp w17 wx → wx.cell? ⟨w5.heap.size, 0, none⟩ = some (.int .i64 2) ∧ wx.cell? ⟨w5.heap.size, 1, none⟩ = some (.int .i64 2) ∧ wx.cell? ⟨w5.heap.size, 2, none⟩ = some (.slice a1 4 p1)) := fun wx k =>
    ((unhide S17).kp k).cells (b := w5.heap.size) (x := .int .i64 2) (y := .int .i64 2) (z := .slice a1 4 p1) (by simp)
  have Rc : Hid (∀ wx, Kp w17 wx → Row wx a1 4 (ix [2147483648, 4294967296, 4294967296, 8589934592])) := fun wx k => (((unhide S17).kp k).row (ao := a1) (len := 4) (Z := ix [2147483648, 4294967296, 4294967296, 8589934592]) (by simp)).1
  obtain ⟨x1, x2, x3⟩ := unhide CW w17 (Kp.refl _)
  have hz1 : w5.heap.size < w17.heap.size := heap_gt x1
  have KW := hide (unhide S17).2.1
  clear S17
  go_region_held3 (fun w' => w'.cell? ⟨w5.heap.size, 0, none⟩ = some (.int .i64 2) ∧ w'.cell? ⟨w5.heap.size, 1, none⟩ = some (.int .i64 2) ∧ w'.cell? ⟨w5.heap.size, 2, none⟩ = some (.slice a1 4 p1))
      (simp [go_sem, *])
      (first
        | (go_at_call 9; refine (lawSymAwake _).mono ?_; rintro e w18 ⟨rfl, k18⟩; have K18 : Hid (Kp w17 w18) := k18; obtain ⟨y1, y2, y3⟩ := unhide CW w18 (unhide K18); have hya := heap_gt y1; have KE : Hid (Kp w17 (w18.alloc (.cells #[.int .i64 2147483648, .int .i64 4294967296, .int .i64 4294967296, .int .i64 8589934592] 3)) ∧ Row (w18.alloc (.cells #[.int .i64 2147483648, .int .i64 4294967296, .int .i64 4294967296, .int .i64 8589934592] 3)) (some ⟨w18.heap.size, 0, none⟩) 4 (ix [2147483648, 4294967296, 4294967296, 8589934592])) := ⟨(unhide K18).alloc _ _, row_lit (l := [2147483648, 4294967296, 4294967296, 8589934592]) (Blk.new w18 _ _)⟩; clear k18)
        | (go_at_call 15; refine (lawTwo _ 4 4 _).mono ?_; rintro e w19 ⟨rfl, g19⟩; have K19 : Hid (Kp w17 w19) := ((unhide KE).1.grown g19); have R19 := hide ((unhide KE).2.grown g19); obtain ⟨z1, z2, z3⟩ := unhide CW w19 (unhide K19); have hza := heap_gt z1; clear g19 KE)
        | (go_at_call 16; refine (lawIs 2 2 a1 (some ⟨w18.heap.size, 0, none⟩) 4 p1 4 (ix [2147483648, 4294967296, 4294967296, 8589934592]) (by omega) _ (unhide Rc _ (unhide K19)) (unhide R19)).mono ?_; clear R19; rintro e w20 ⟨rfl, k20⟩; have K20 : Hid (Kp w17 w20) := ((unhide K19).trans k20); obtain ⟨t1, t2, t3⟩ := unhide CW w20 (unhide K20); have hta := heap_gt t1; clear k20))
  go_wp2
  go_ret
  exact ⟨rfl, (unhide KW).trans (unhide K20)⟩


end Go.Proofs.Ytgahdjfkmpadoaa

/- The statement SymKnown holds for every input: the law returns true, and its arguments read afterwards as before. No condition. -/
namespace Go.Proofs.Ytgahdjfkmpadoaa.symKnown
open Go.ChangeShapes Go.WideShapes Go.ChangeAt Go.RowKit Go.Joins Go.Proofs.Wd
set_option linter.unusedVariables false
set_option linter.unusedSimpArgs false

theorem own : ownKnob Try.prog.godebug = none := by kernel_rfl

set_option maxRecDepth 100000 in
theorem lifted (os : Os) (started : os.Started) (H : Type) (enc : TypeId × Value → H) :
    ReturnsInHanded {} Try.checked os 4 .any (Rows.symKnownSpec.pre6 enc Try.prog Try.f4 Rows.symKnownRow.domain false) (Rows.symKnownSpec.post enc Try.prog Try.f4 false true false false) := by
  refine returnsInHanded_of_change (C := Try.checked) own started (by kernel_rfl) Try.func4
    (ChangeSpec.witness6 (enc := enc) (C := Try.checked) false ⟨#[], #[], []⟩ 8 (by kernel_rfl) (by kernel_rfl) (by kernel_rfl) (by kernel_rfl)) ?_
  intro W base args ds gs before hval0 hW hcnd _
  have hval : ∀ (j : Nat) t v, Try.f4.params[j]? = some t → args[j]? = some v → Value.okWide Try.prog W .any base t v := hval0
  have hW' := hW
  obtain ⟨p, q, hA0, hV, rfl, hfz, hnd⟩ := hW
  have hA : DataW.TrodAll enc Try.prog W 0 (fun _ => true) true Try.f4.params.toList args.toList ds p := hA0
  rw [Try.params4] at hA hval
  obtain ⟨hargs, rfl, rfl⟩ := trodAll_nil hA
  obtain rfl : args = #[] := by cases args; simp_all
  obtain ⟨rfl, rfl⟩ := trodVars_none hV
  have hlt := hW'.lt
  clear hA0 hval0
  refine (lawSymKnown W).mono fun e W' ⟨he, hg⟩ => ?_
  subst he
  exact ⟨_, rfl, post_of_kp (pa := []) (pv := []) hW' (fun _ => (trodAll_cons_mk (shut_bool Try.underlying4 _) trodAll_mk0)) trodAll_mk0 rfl hg⟩

end Go.Proofs.Ytgahdjfkmpadoaa.symKnown
namespace Go.Proofs.Ytgahdjfkmpadoaa
theorem symKnown_holds : Rows.SymKnownSaid :=
  OpenClaim.holds_of_wide 4 Try.f4 rfl rfl rfl rfl rfl rfl rfl ⟨rfl, rfl, rfl, rfl, rfl⟩ rfl rfl rfl rfl rfl (by kernel_rfl) Try.func4 (by kernel_rfl)
    (of_decide_eq_true (by kernel_rfl)) (by unfold Func.isWrapper; first | (rw [if_pos (by decide +kernel)]; kernel_rfl) | (rw [if_neg (by decide +kernel)]; exact ⟨rfl, rfl⟩))
    (fun os started H enc _ => symKnown.lifted os started H enc)
#print axioms symKnown_holds
end Go.Proofs.Ytgahdjfkmpadoaa
