/- PickA SymM3 SymL SymL2 SymK0 SymK1 SymK2 RegM RegN SymCp SymEv MatRL SymEvenLaw, one after another. -/
import Derived.Test.YtgahdjfkmpadoaaRowA
import Derived.Test.YtgahdjfkmpadoaaSymBase
import Derived.Test.YtgahdjfkmpadoaaVecD
import Derived.BigQuiet
import Derived.Test.YtgahdjfkmpadoaaRowL
import Derived.Test.YtgahdjfkmpadoaaRows
import Derived.ProofKit
import Derived.OpenShut
import Derived.Lib.SmallJoins
/- The laws' kit: Pick. -/
namespace Go.Proofs.Ytgahdjfkmpadoaa
open Go.RowKit Go.Proofs.Wd
set_option linter.unusedVariables false
set_option linter.unusedSimpArgs false

theorem tmod_of (x n : Int) (hn : 0 < n) : (0 ≤ x.tmod n → x.tmod n = x % n) ∧ (x.tmod n < 0 → x.tmod n + n = x % n) ∧ -n < x.tmod n ∧ x.tmod n < n := by
  have e := @Int.tmod_eq_emod x n
  have h1 := Int.emod_nonneg x (show n ≠ 0 by omega)
  have h2 := Int.emod_lt_of_pos x hn
  have h3 : (n.natAbs : Int) = n := by omega
  rw [e]
  split <;> omega
theorem wrap_id (y : Int) (h : -9223372036854775808 ≤ y ∧ y ≤ 9223372036854775807) : wrap64 y = y := by
  unfold wrap64
  omega

set_option maxHeartbeats 1000000 in
theorem kitPick (x n : Int) (hx : I64 x) (hn : 0 < n ∧ n ≤ 4611686018427387904) (w : World) : Calls Try.prog 34 #[.int .i64 x, .int .i64 n] w fun e w' => e = .returned (.int .i64 (x % n)) ∧ Kp w w' := by
  obtain ⟨h0, h1⟩ := hn
  have c0 : ¬ n ≤ 0 := by omega
  have T := hide (tmod_of x n h0)
  unfold I64 at hx
  go_enter Try.func34, Try.ntmps34
  go_wp2
  · rename_i hh
    go_ret
    exact ⟨congrArg (fun v => Ending.returned (Value.int .i64 v)) ((wrap_id _ (by have := unhide T; omega)).trans ((unhide T).2.1 hh)), Kp.refl _⟩
  · rename_i hh
    go_ret
    exact ⟨congrArg (fun v => Ending.returned (Value.int .i64 v)) ((unhide T).1 hh), Kp.refl _⟩

end Go.Proofs.Ytgahdjfkmpadoaa

/- What follows of a symmetric matrix, in whole numbers. -/
namespace Go.Proofs.Wd
set_option linter.unusedVariables false

/-- Half of two fixed numbers: between them, nothing is cut. -/
theorem half_fx (x y : Int) (hx : Fx x) (hy : Fx y) : halfN x y = rdiv (x + y) 2 ∧ halfC x y = false ∧ Fx (halfN x y) ∧ (x ≤ y → x ≤ halfN x y ∧ halfN x y ≤ y) ∧ (y ≤ x → y ≤ halfN x y ∧ halfN x y ≤ x) := by
  have e1 := tk_of x hx
  have e2 := tk_of y hy
  have lo : ∀ z, z ≤ x → z ≤ y → z ≤ rdiv (x + y) 2 := fun z h1 h2 => by
    have := rdiv_mono (z * 2) (x + y) 2 (by omega) (by omega)
    rwa [rdiv_mul z 2 (by omega)] at this
  have hi : ∀ z, x ≤ z → y ≤ z → rdiv (x + y) 2 ≤ z := fun z h1 h2 => by
    have := rdiv_mono (x + y) (z * 2) 2 (by omega) (by omega)
    rwa [rdiv_mul z 2 (by omega)] at this
  have hf : Fx (rdiv (x + y) 2) := by
    unfold Fx at *
    exact ⟨lo _ hx.1 hy.1, hi _ hx.2 hy.2⟩
  have e3 : halfN x y = rdiv (x + y) 2 := by
    unfold halfN
    rw [e1, e2, (fit_inF _ hf).1]
  rw [e3]
  refine ⟨rfl, ?_, hf, fun h => ⟨lo x (by omega) h, hi y h (by omega)⟩, fun h => ⟨lo y h (by omega), hi x (by omega) h⟩⟩
  unfold halfC
  rw [e1, e2, cutB_of _ _ _ hx hy, (fit_inF _ hf).2]
theorem half_self (x : Int) (hx : Fx x) : halfN x x = x := by
  have h := half_fx x x hx hx
  have := h.2.2.2.1 (by omega)
  omega
/-- What stands at a place of a matrix made symmetric. -/
theorem evenZ_at (A : Nat → Int) (n i k : Nat) (hi : i < n) (hk : k < n) : evenZ A n (i * n + k) = if i = k then A (i * n + k) else halfN (A (min i k * n + max i k)) (A (max i k * n + min i k)) := by
  unfold evenZ pairZ2 pairV evF
  rw [place_div i k n hk, place_mod i k n hk]
  by_cases e : i = k
  · subst e
    rw [if_pos rfl, if_neg (by omega)]
  · rw [if_neg e, if_pos (by omega)]
theorem even_between (A : Nat → Int) (n i k : Nat) (hi : i < n) (hk : k < n) (hA : ∀ p, p < n * n → Fx (A p)) :
    min (A (i * n + k)) (A (k * n + i)) ≤ evenZ A n (i * n + k) ∧ evenZ A n (i * n + k) ≤ max (A (i * n + k)) (A (k * n + i)) ∧ Fx (evenZ A n (i * n + k)) := by
  have h1 := hA _ (place_in i k n n hi hk)
  have h2 := hA _ (place_in k i n n hk hi)
  rw [evenZ_at A n i k hi hk]
  by_cases e : i = k
  · subst e
    rw [if_pos rfl]
    exact ⟨by omega, by omega, h1⟩
  · rw [if_neg e]
    rcases Nat.lt_or_ge i k with h | h
    · rw [Nat.min_eq_left (by omega), Nat.max_eq_right (by omega)]
      have q := half_fx _ _ h1 h2
      rcases Int.le_total (A (i * n + k)) (A (k * n + i)) with g | g
      · have := q.2.2.2.1 g
        exact ⟨by omega, by omega, q.2.2.1⟩
      · have := q.2.2.2.2 g
        exact ⟨by omega, by omega, q.2.2.1⟩
    · rw [Nat.min_eq_right (by omega), Nat.max_eq_left (by omega)]
      have q := half_fx _ _ h2 h1
      rcases Int.le_total (A (i * n + k)) (A (k * n + i)) with g | g
      · have := q.2.2.2.2 g
        exact ⟨by omega, by omega, q.2.2.1⟩
      · have := q.2.2.2.1 g
        exact ⟨by omega, by omega, q.2.2.1⟩
theorem even_fx (A : Nat → Int) (n p : Nat) (hp : p < n * n) (hA : ∀ p, p < n * n → Fx (A p)) : Fx (evenZ A n p) := by
  have h := place_lt p n n hp
  have := (even_between A n (p / n) (p % n) h.1 h.2 hA).2.2
  rwa [place_eq] at this
theorem even_cut (A : Nat → Int) (n m : Nat) (hm : m ≤ n * n) (hA : ∀ p, p < n * n → Fx (A p)) : orC (upC (evC A n) 1 n) m = false := by
  refine orC_of _ _ fun p hp => ?_
  have h := place_lt p n n (by omega)
  unfold upC evC
  rw [(half_fx _ _ (hA _ (place_in _ _ _ _ h.1 h.2)) (hA _ (place_in _ _ _ _ h.2 h.1))).2.1, Bool.and_false]
/-- A symmetric one is itself. -/
theorem even_idem (B : Nat → Int) (n p : Nat) (hp : p < n * n) (hB : ∀ p, p < n * n → Fx (B p)) (hs : symP B n) : evenZ B n p = B p := by
  have h := place_lt p n n hp
  have e := evenZ_at B n (p / n) (p % n) h.1 h.2
  rw [place_eq] at e
  rw [e]
  by_cases g : p / n = p % n
  · rw [if_pos g]
  · rw [if_neg g]
    have e1 : ∀ a b, a < n → b < n → halfN (B (a * n + b)) (B (b * n + a)) = B (a * n + b) := fun a b ha hb => by
      rw [hs b a hb ha]
      exact half_self _ (hB _ (place_in _ _ _ _ ha hb))
    have pe := place_eq p n
    rcases Nat.lt_or_ge (p / n) (p % n) with q | q
    · rw [Nat.min_eq_left (by omega), Nat.max_eq_right (by omega), e1 _ _ h.1 h.2, pe]
    · rw [Nat.min_eq_right (by omega), Nat.max_eq_left (by omega), e1 _ _ h.2 h.1, hs _ _ h.2 h.1, pe]
theorem turn_eye (n p : Nat) (hp : p < n * n) : turnZ (diagZ oneZ n) n n p = diagZ oneZ n p := by
  have h := place_lt p n n hp
  unfold turnZ diagZ oneZ
  rw [place_div _ _ _ h.1, place_mod _ _ _ h.1]
  by_cases e : p / n = p % n
  · rw [if_pos e, if_pos e.symm]
  · rw [if_neg e, if_neg (fun q => e q.symm)]
theorem mulZ_congr (A B A' B' : Nat → Int) (r m c p : Nat) (hp : p < r * c) (hA : ∀ i, i < r * m → A i = A' i) (hB : ∀ i, i < m * c → B i = B' i) : mulZ A B m c p = mulZ A' B' m c p ∧ mulG A B m c p = mulG A' B' m c p := by
  have h := place_lt p r c hp
  refine ⟨dotN_congr _ _ _ _ m (fun i hi => hA _ (place_in _ _ _ _ h.1 hi)) (fun i hi => hB _ (place_in _ _ _ _ hi h.2)), dotC_congr _ _ _ _ m (fun i hi => hA _ (place_in _ _ _ _ h.1 hi)) (fun i hi => hB _ (place_in _ _ _ _ hi h.2))⟩
/-- A symmetric one, moved by One from both sides. -/
theorem sand_eye (B : Nat → Int) (n : Nat) (hB : ∀ p, p < n * n → Fx (B p)) (hs : symP B n) :
    (∀ p, p < n * n → evenZ (mulZ (mulZ (diagZ oneZ n) B n n) (turnZ (diagZ oneZ n) n n) n n) n p = B p) ∧ (orC (mulG (diagZ oneZ n) B n n) (n * n) || orC (mulG (mulZ (diagZ oneZ n) B n n) (turnZ (diagZ oneZ n) n n) n n) (n * n) || orC (upC (evC (mulZ (mulZ (diagZ oneZ n) B n n) (turnZ (diagZ oneZ n) n n) n n) n) 1 n) (n * n)) = false := by
  have e1 : ∀ p, p < n * n → mulZ (diagZ oneZ n) B n n p = B p := fun p hp => (eye_left B n n p hB hp).1
  have e2 : ∀ p, p < n * n → mulZ (mulZ (diagZ oneZ n) B n n) (turnZ (diagZ oneZ n) n n) n n p = B p ∧ mulG (mulZ (diagZ oneZ n) B n n) (turnZ (diagZ oneZ n) n n) n n p = false := fun p hp => by
    have q := mulZ_congr (mulZ (diagZ oneZ n) B n n) (turnZ (diagZ oneZ n) n n) B (diagZ oneZ n) n n n p hp e1 (fun i hi => turn_eye n i hi)
    rw [q.1, q.2]
    exact eye_right B n n p hB hp
  have hf : ∀ p, p < n * n → Fx (mulZ (mulZ (diagZ oneZ n) B n n) (turnZ (diagZ oneZ n) n n) n n p) := fun p hp => by rw [(e2 p hp).1]; exact hB p hp
  refine ⟨fun p hp => ?_, ?_⟩
  · rw [even_idem _ n p hp hf ?_, (e2 p hp).1]
    intro i k hi hk
    rw [(e2 _ (place_in _ _ _ _ hi hk)).1, (e2 _ (place_in _ _ _ _ hk hi)).1]
    exact hs i k hi hk
  · rw [orC_of _ _ (fun p hp => (eye_left B n n p hB hp).2), orC_of _ _ (fun p hp => (e2 p hp).2), even_cut _ n _ (Nat.le_refl _) hf]
    rfl
/-- What stands at a place of a matrix that a list changed. -/
theorem rankZ_at (A K : Nat → Int) (s : Int) (n i k : Nat) (hi : i < n) (hk : k < n) : rankZ A K s n (i * n + k) = rkF A K s n (min i k) (max i k) := by
  unfold rankZ pairZ2 pairV
  rw [place_div i k n hk, place_mod i k n hk, if_pos (by omega)]
theorem m2_neg (s t : Int) (hs : Fx s) (ht : Fx t) : m2N (-s) t = -(m2N s t) := by
  have hs' : Fx (-s) := by unfold Fx at *; omega
  unfold m2N
  rw [(mul_one s hs).1, (mul_one (-s) hs').1]
  unfold mulN
  rw [tk_of _ hs, tk_of _ hs', tk_of _ ht, Int.neg_mul, rdiv_neg _ _ (by omega), fitI_neg]
theorem m2N_fx (a b : Int) : Fx (m2N a b) := fit_Fx _
theorem s2_fx (a b : Int) (ha : Fx a) (hb : Fx b) : s2N a b = fitI (a + b) ∧ s2C a b = fitB (a + b) := by
  have e := add_nought a ha
  unfold s2N s2C
  rw [e.1, e.2.1, Bool.false_or]
  unfold addN addC
  rw [tk_of _ ha, tk_of _ hb, cutB_of _ _ _ ha hb]
  exact ⟨rfl, rfl⟩
/-- What a list added it takes away, where nothing is cut. -/
theorem rank_back (A K : Nat → Int) (s : Int) (n : Nat) (hs : Fx s) (hA : ∀ p, p < n * n → Fx (A p)) (hy : symP A n) (hc : orC (upC (rkC A K s n) 0 n) (n * n) = false) (p : Nat) (hp : p < n * n) : rankZ (rankZ A K s n) K (-s) n p = A p := by
  have nc : ∀ a b, a ≤ b → b < n → s2C (A (a * n + b)) (m2N s (m2N (K a) (K b))) = false := fun a b hab hb => by
    have hn : ¬ (orC (upC (rkC A K s n) 0 n) (n * n) = true) := by rw [hc]; decide
    rw [orC_iff] at hn
    by_cases g : s2C (A (a * n + b)) (m2N s (m2N (K a) (K b))) = true
    · exfalso
      refine hn ⟨a * n + b, place_in _ _ _ _ (by omega) hb, ?_⟩
      unfold upC rkC
      rw [place_div _ _ _ hb, place_mod _ _ _ hb, g, decide_eq_true (show a + 0 ≤ b from hab)]
      simp
    · simpa using g
  have key : ∀ a b, a ≤ b → b < n → rkF (rankZ A K s n) K (-s) n a b = A (a * n + b) := fun a b hab hb => by
    have fa := hA _ (place_in a b n n (by omega) hb)
    have n1 := nc a b hab hb
    show s2N (rankZ A K s n (a * n + b)) (m2N (-s) (m2N (K a) (K b))) = _
    rw [rankZ_at A K s n a b (by omega) hb, Nat.min_eq_left hab, Nat.max_eq_right hab, m2_neg s _ hs (m2N_fx _ _)]
    show s2N (s2N (A (a * n + b)) (m2N s (m2N (K a) (K b)))) _ = _
    have fv := m2N_fx s (m2N (K a) (K b))
    generalize m2N s (m2N (K a) (K b)) = v at *
    generalize A (a * n + b) = x at *
    have q := s2_fx x v fa fv
    rw [q.2] at n1
    have q1 := fit_in _ n1
    have fxv : Fx (x + v) := by
      have := fit_Fx (x + v)
      rwa [q1.1] at this
    rw [q.1, q1.1]
    have fn : Fx (-v) := by unfold Fx at *; omega
    rw [(s2_fx (x + v) (-v) fxv fn).1, show x + v + -v = x by omega]
    exact (fit_inF x fa).1
  have h := place_lt p n n hp
  have e := rankZ_at (rankZ A K s n) K (-s) n (p / n) (p % n) h.1 h.2
  rw [place_eq] at e
  rw [e]
  have pe := place_eq p n
  rcases Nat.le_total (p / n) (p % n) with g | g
  · rw [Nat.min_eq_left g, Nat.max_eq_right g, key _ _ g h.2, pe]
  · rw [Nat.min_eq_right g, Nat.max_eq_left g, key _ _ g h.1, hy _ _ h.2 h.1, pe]
theorem rankZ_fx (A K : Nat → Int) (s : Int) (n p : Nat) (hp : p < n * n) : Fx (rankZ A K s n p) := by
  have h := place_lt p n n hp
  have e := rankZ_at A K s n (p / n) (p % n) h.1 h.2
  rw [place_eq] at e
  rw [e]
  exact fit_Fx _
theorem rankZ_I64 (A K : Nat → Int) (s : Int) (n p : Nat) (hp : p < n * n) : I64 (rankZ A K s n p) := Fx_I64 (rankZ_fx A K s n p hp)

end Go.Proofs.Wd

/- The laws' helpers: big, two, is, good, eye. -/
namespace Go.Proofs.Ytgahdjfkmpadoaa
open Go.RowKit Go.Shelf Go.Proofs.Wd
set_option linter.unusedVariables false
set_option linter.unusedSimpArgs false

set_option maxHeartbeats 1000000 in
theorem lawBig (R1 C1 : Int) (a1 : Option Addr) (l1 p1 : Nat) (w : World) : Calls Try.prog 8 #[.agg #[.int .i64 R1, .int .i64 C1, .slice a1 l1 p1]] w fun e w' => e = .returned (.bool (decide (200 < l1))) ∧ Grown w w' := by
  by_cases h : 200 < l1
  · have hd : decide ((200 : Int) < (l1 : Int)) = true := decide_eq_true (by omega)
    rw [decide_eq_true h]
    clear h
    go_enter Try.func8, Try.ntmps8
    go_wp2
    go_ret
    exact ⟨by simp [hd], (Grown.refl _).alloc _ _⟩
  · have hd : decide ((200 : Int) < (l1 : Int)) = false := decide_eq_false (by omega)
    rw [decide_eq_false h]
    clear h
    go_enter Try.func8, Try.ntmps8
    go_wp2
    go_ret
    exact ⟨by simp [hd], (Grown.refl _).alloc _ _⟩
set_option maxHeartbeats 1000000 in
theorem lawTwo (ao : Option Addr) (n cap : Nat) (w : World) : Calls Try.prog 15 #[.slice ao n cap] w fun e w' => e = .returned (.agg #[.int .i64 2, .int .i64 2, .slice ao n cap]) ∧ Grown w w' := by
  have G : Grown w (w.alloc (.cells #[.int .i64 0, .int .i64 0, .slice none 0 0] 24)) := (Grown.refl _).alloc _ _
  have bz := Blk.new w #[.int .i64 0, .int .i64 0, .slice none 0 0] 24
  go_enter Try.func15, Try.ntmps15
  go_wp2
  have b2 := Blk.new w #[.int .i64 2, .int .i64 2, .slice ao n cap] 24
  have g2 : Grown w (w.alloc (.cells #[.int .i64 2, .int .i64 2, .slice ao n cap] 24)) := (Grown.refl _).alloc _ _
  generalize w.alloc (.cells #[.int .i64 2, .int .i64 2, .slice ao n cap] 24) = wE at *
  have c0 : wE.cell? ⟨w.heap.size, 0, none⟩ = some (.int .i64 2) := Blk.cell b2 0
  have c1 : wE.cell? ⟨w.heap.size, 1, none⟩ = some (.int .i64 2) := Blk.cell b2 1
  have c2 : wE.cell? ⟨w.heap.size, 2, none⟩ = some (.slice ao n cap) := Blk.cell b2 2
  exact bodyPost_ret (v := .agg #[.int .i64 2, .int .i64 2, .slice ao n cap]) (by simp [results, Try.results15, go_sem, c0, c1, c2]) rfl ⟨rfl, g2⟩
set_option maxHeartbeats 2000000 in
theorem lawIs (r c : Int) (ao bo : Option Addr) (len c1 c2 : Nat) (X : Nat → Int) (hl : len ≤ 1000000) (w : World) (hr : Row w ao len X) (ht : Row w bo len X) :
    Calls Try.prog 16 #[.agg #[.int .i64 r, .int .i64 c, .slice ao len c1], .int .i64 0, .agg #[.int .i64 r, .int .i64 c, .slice bo len c2]] w fun e w' => e = .returned (.bool true) ∧ Kp w w' := by
  have G : Grown w ((w.alloc (.cells #[.int .i64 r, .int .i64 c, .slice ao len c1] 24)).alloc (.cells #[.int .i64 r, .int .i64 c, .slice bo len c2] 24)) := ((Grown.refl _).alloc _ _).alloc _ _
  have S := hide (kitSameM r c ao bo len c1 c2 X hl _ (hr.grown G) (ht.grown G))
  have HG := hide (Kp.of G)
  clear hr ht G
  go_enter Try.func16, Try.ntmps16
  go_wp2_with fail
  generalize (w.alloc (.cells #[.int .i64 r, .int .i64 c, .slice ao len c1] 24)).alloc (.cells #[.int .i64 r, .int .i64 c, .slice bo len c2] 24) = w1 at *
  refine (unhide S).mono ?_
  rintro e w2 ⟨rfl, k2⟩
  have R := hide ((unhide HG).trans k2)
  clear k2 S
  go_wp2
  go_ret
  exact ⟨rfl, unhide R⟩

/-- A matrix of the numbers of another one: those that lack are 0, what is none is the least. -/
def gdZ (A : Nat → Int) (len : Nat) : Nat → Int := fun i => if i < len then max (A i) (-9223372036854775807) else 0
theorem gdZ_fx (A : Nat → Int) (len : Nat) (hA : ∀ i, i < len → I64 (A i)) (i : Nat) : Fx (gdZ A len i) := by
  unfold gdZ
  split
  · have := hA i (by assumption)
    unfold I64 at this
    unfold Fx
    omega
  · unfold Fx; omega
def GdI (w : World) (box : Array Value) (n nn L : Nat) (Y : Nat → Int) (k : Nat) (wr : World) : Prop :=
  Blk w.heap.size box 24 wr ∧ Blk (w.heap.size + 1) #[.int .i64 0, .int .i64 0, .slice none 0 0] 24 wr ∧ Blk L (ints nn (soFar Y (List.range k))) 3 wr ∧ Blk (L + 1) #[.int .i64 n, .int .i64 n, .slice (some ⟨L, 0, none⟩) nn nn] 24 wr ∧ Kp w wr ∧ w.heap.size + 2 ≤ L

set_option maxRecDepth 20000 in
set_option maxHeartbeats 8000000 in
theorem lawGood (R1 C1 : Int) (a1 : Option Addr) (l1 p1 : Nat) (A : Nat → Int) (hA : ∀ i, i < l1 → I64 (A i)) (size : Int) (hs : I64 size) (n : Nat) (hn : (n : Int) = 1 + size % 6) (w : World) (ra : Row w a1 l1 A) :
    Calls Try.prog 17 #[.agg #[.int .i64 R1, .int .i64 C1, .slice a1 l1 p1], .int .i64 size] w fun e w' => CopyM n n (n * n) (gdZ A l1) w e w' := by
  have n6 : 1 ≤ n ∧ n ≤ 6 := by omega
  have hmn := mul12n n n (by omega) (by omega)
  obtain ⟨nn, hnn⟩ : ∃ q, n * n = q := ⟨_, rfl⟩
  rw [hnn] at hmn
  rw [hnn]
  have PK := hide (fun w => kitPick size 6 hs (by omega) w)
  obtain ⟨ps, hps⟩ : ∃ p, size % 6 = p := ⟨_, rfl⟩
  rw [hps] at PK hn
  have wn : wrap64 (1 + ps) = (n : Int) := by rw [← hn]; exact wrap_id _ (by omega)
  have w1 : wrap64 ((n : Int) * (n : Int)) = (nn : Int) := wrapP n n nn hnn (by omega)
  obtain ⟨Y, hY⟩ : ∃ Y, Y = gdZ A l1 := ⟨_, rfl⟩
  rw [← hY]
  have EY : Hid (∀ i, Y i = gdZ A l1 i) := fun i => by rw [hY]
  have MK := make_ints nn (by omega)
  have G : Grown w ((w.alloc (.cells #[.int .i64 R1, .int .i64 C1, .slice a1 l1 p1] 24)).alloc (.cells #[.int .i64 0, .int .i64 0, .slice none 0 0] 24)) := ((Grown.refl _).alloc _ _).alloc _ _
  have HB : Hid (Kp w ((w.alloc (.cells #[.int .i64 R1, .int .i64 C1, .slice a1 l1 p1] 24)).alloc (.cells #[.int .i64 0, .int .i64 0, .slice none 0 0] 24)) ∧ Blk w.heap.size #[.int .i64 R1, .int .i64 C1, .slice a1 l1 p1] 24 ((w.alloc (.cells #[.int .i64 R1, .int .i64 C1, .slice a1 l1 p1] 24)).alloc (.cells #[.int .i64 0, .int .i64 0, .slice none 0 0] 24)) ∧ Blk (w.heap.size + 1) #[.int .i64 0, .int .i64 0, .slice none 0 0] 24 ((w.alloc (.cells #[.int .i64 R1, .int .i64 C1, .slice a1 l1 p1] 24)).alloc (.cells #[.int .i64 0, .int .i64 0, .slice none 0 0] 24))) := ⟨Kp.of G, Blk.grown (Blk.new w _ _) ((Grown.refl _).alloc _ _), blk_new2 w _ _ _⟩
  have HR := hide ra
  have HA := hide hA
  have HN := hide (And.intro n6 hmn)
  clear hY hnn hps hn ra hA G n6 hmn hs
  go_enter Try.func17, Try.ntmps17
  go_wp2_with fail
  generalize (w.alloc (.cells #[.int .i64 R1, .int .i64 C1, .slice a1 l1 p1] 24)).alloc (.cells #[.int .i64 0, .int .i64 0, .slice none 0 0] 24) = w0 at *
  refine (unhide PK _).mono ?_
  rintro e w2 ⟨rfl, k2⟩
  have HB2 : Hid (Kp w w2 ∧ Blk w.heap.size #[.int .i64 R1, .int .i64 C1, .slice a1 l1 p1] 24 w2 ∧ Blk (w.heap.size + 1) #[.int .i64 0, .int .i64 0, .slice none 0 0] 24 w2) := ⟨(unhide HB).1.trans k2, Blk.kp (unhide HB).2.1 k2, Blk.kp (unhide HB).2.2 k2⟩
  clear k2 PK HB
  go_wp2_with fail
  have g5 : Grown w2 ((w2.alloc (.cells (ints nn (fun _ => 0)) 3)).alloc (.cells #[.int .i64 n, .int .i64 n, .slice (some ⟨w2.heap.size, 0, none⟩) nn nn] 24)) := ((Grown.refl _).alloc _ _).alloc _ _
  have b6 : Blk w2.heap.size (ints nn (fun _ => 0)) 3 ((w2.alloc (.cells (ints nn (fun _ => 0)) 3)).alloc (.cells #[.int .i64 n, .int .i64 n, .slice (some ⟨w2.heap.size, 0, none⟩) nn nn] 24)) := Blk.grown (Blk.new w2 _ _) ((Grown.refl _).alloc _ _)
  have b7 : Blk (w2.heap.size + 1) #[.int .i64 n, .int .i64 n, .slice (some ⟨w2.heap.size, 0, none⟩) nn nn] 24 ((w2.alloc (.cells (ints nn (fun _ => 0)) 3)).alloc (.cells #[.int .i64 n, .int .i64 n, .slice (some ⟨w2.heap.size, 0, none⟩) nn nn] 24)) := blk_new2 w2 _ _ _
  have ST : Hid (GdI w #[.int .i64 R1, .int .i64 C1, .slice a1 l1 p1] n nn w2.heap.size Y 0 ((w2.alloc (.cells (ints nn (fun _ => 0)) 3)).alloc (.cells #[.int .i64 n, .int .i64 n, .slice (some ⟨w2.heap.size, 0, none⟩) nn nn] 24))) := by
    have lt := Blk.lt (unhide HB2).2.2
    refine ⟨Blk.grown (unhide HB2).2.1 g5, Blk.grown (unhide HB2).2.2 g5, ?_, b7, (unhide HB2).1.grown g5, by omega⟩
    rw [show ints nn (soFar Y (List.range 0)) = ints nn (fun _ => 0) from ints_congr _ _ _ fun i _ => by simp [soFar]]
    exact b6
  simp only [wn, w1]
  clear g5 b6 b7 HB2 MK wn
  generalize (w2.alloc (.cells (ints nn (fun _ => 0)) 3)).alloc (.cells #[.int .i64 n, .int .i64 n, .slice (some ⟨w2.heap.size, 0, none⟩) nn nn] 24) = w5 at *
  generalize w2.heap.size = L at *
  go_loopw [7] (fun t wr => ∃ k : Nat, (k ≤ nn ∧ k ≤ l1) ∧ t = .int .i64 k ∧ Hid (GdI w #[.int .i64 R1, .int .i64 C1, .slice a1 l1 p1] n nn L Y k wr)) (fun t _ => nn - (intOf t).toNat)
  case atStart => exact ⟨0, ⟨Nat.zero_le _, Nat.zero_le _⟩, rfl, unhide ST⟩
  case round =>
    obtain ⟨k, hk, rfl, HI⟩ := hrel
    clear ST
    have y2 : wr.cell? ⟨w.heap.size, 2, none⟩ = some (.slice a1 l1 p1) := Blk.cell (unhide HI).1 2
    by_cases h1 : k < nn
    · by_cases h2 : k < l1
      · have d1 : decide ((k : Int) < (nn : Int)) = true := decide_eq_true (by omega)
        have d2 : decide ((k : Int) < (l1 : Int)) = true := decide_eq_true (by omega)
        obtain ⟨b, o, rfl, hc⟩ := ((unhide HR).kp (unhide HI).2.2.2.2.1).at h2
        have q2 : wr.cell? ⟨L + 1, 2, none⟩ = some (.slice (some ⟨L, 0, none⟩) nn nn) := Blk.cell (unhide HI).2.2.2.1 2
        have f1 : wr.cell? ⟨L, k, none⟩ = some (.int .i64 (soFar Y (List.range k) k)) := by rw [Blk.cell (unhide HI).2.2.1, ints_at nn _ _ h1]
        have f2 := Blk.free (unhide HI).2.2.1 k
        have B1 : Hid (k + 1 ≤ nn ∧ k + 1 ≤ l1) := ⟨h1, h2⟩
        have i0 : (0 : Int) ≤ (k : Int) := by omega
        have i1 : (k : Int) < (nn : Int) := by omega
        have i2 : (k : Int) < (l1 : Int) := by omega
        have k6 : k ≤ 1000000 := by have := (unhide HN).2; omega
        have R : Hid (GdI w #[.int .i64 R1, .int .i64 C1, .slice (some ⟨b, o, none⟩) l1 p1] n nn L Y (k + 1) (wr.setCell ⟨L, k, none⟩ (.int .i64 (Y k)))) := by
          obtain ⟨g1, g2, g3, g4, g5, g6⟩ := unhide HI
          have q : Mod L wr (wr.setCell ⟨L, k, none⟩ (.int .i64 (Y k))) := (Mod.refl _ _).setCell _ _
          refine ⟨Blk.keep g1 q (by omega), Blk.keep g2 q (by omega), ?_, Blk.keep g4 q (by omega), g5.mod q (by omega), g6⟩
          have := Blk.setI g3 k (Y k)
          rw [soFar_snoc, ← List.range_succ] at this
          exact this
        have EK : Hid (Y k = max (A k) (-9223372036854775807)) := by
          show _ = _
          rw [unhide EY k]
          unfold gdZ
          rw [if_pos h2]
        have IK := unhide HA k h2
        generalize soFar Y (List.range k) k = old at f1
        generalize A k = x at *
        generalize hyk : Y k = yk at *
        clear HI hyk hk h1 h2
        by_cases hx : x < -9223372036854775807
        · have ex : x = -9223372036854775808 := by unfold I64 at IK; omega
          have ey : yk = -9223372036854775807 := by rw [unhide EK, ex]; decide
          subst ex ey
          clear EK IK hx
          go_wp2
          refine region_G (fun w' => w'.cell? ⟨L + 1, 2, none⟩ = some (.slice (some ⟨L, 0, none⟩) nn nn) ∧ w'.cell? ⟨w.heap.size, 2, none⟩ = some (.slice (some ⟨b, o, none⟩) l1 p1) ∧ w'.cell? ⟨b, o + k, none⟩ = some (.int .i64 (-9223372036854775808))) 10 (by kernel_rfl) ⟨q2, y2, hc⟩ (fun hHeld => ?_)
          refine take_G (i := 0) (d := 32) (v := .pointer (some ⟨L + 1, 2, none⟩)) rfl rfl (by kernel_rfl) (by kernel_rfl) (by kernel_rfl) (by kernel_rfl) (by kernel_rfl) (Or.inl ⟨by rfl, ?_⟩) hHeld ?_
          · intro wS hSw
            obtain ⟨z0, z1, z2⟩ := hSw
            clear hHeld
            go_simp
          (try simp only [Act.put, List.setIfInBounds_toArray, List.set_cons_zero, List.set_cons_succ])
          refine take_G (i := 1) (d := 33) (v := .slice (some ⟨L, 0, none⟩) nn nn) rfl rfl (by kernel_rfl) (by kernel_rfl) (by kernel_rfl) (by kernel_rfl) (by kernel_rfl) (Or.inl ⟨by rfl, ?_⟩) hHeld ?_
          · intro wS hSw
            obtain ⟨z0, z1, z2⟩ := hSw
            clear hHeld
            go_simp
          (try simp only [Act.put, List.setIfInBounds_toArray, List.set_cons_zero, List.set_cons_succ])
          refine take_G (i := 2) (d := 34) (v := .int .i64 (k : Int)) rfl rfl (by kernel_rfl) (by kernel_rfl) (by kernel_rfl) (by kernel_rfl) (by kernel_rfl) (Or.inl ⟨by rfl, ?_⟩) hHeld ?_
          · intro wS hSw
            obtain ⟨z0, z1, z2⟩ := hSw
            clear hHeld
            go_simp
          (try simp only [Act.put, List.setIfInBounds_toArray, List.set_cons_zero, List.set_cons_succ])
          refine take_G (i := 3) (d := 35) (v := .pointer (some ⟨w.heap.size, 2, none⟩)) rfl rfl (by kernel_rfl) (by kernel_rfl) (by kernel_rfl) (by kernel_rfl) (by kernel_rfl) (Or.inl ⟨by rfl, ?_⟩) hHeld ?_
          · intro wS hSw
            obtain ⟨z0, z1, z2⟩ := hSw
            clear hHeld
            go_simp
          (try simp only [Act.put, List.setIfInBounds_toArray, List.set_cons_zero, List.set_cons_succ])
          refine take_G (i := 4) (d := 36) (v := .slice (some ⟨b, o, none⟩) l1 p1) rfl rfl (by kernel_rfl) (by kernel_rfl) (by kernel_rfl) (by kernel_rfl) (by kernel_rfl) (Or.inl ⟨by rfl, ?_⟩) hHeld ?_
          · intro wS hSw
            obtain ⟨z0, z1, z2⟩ := hSw
            clear hHeld
            go_simp
          (try simp only [Act.put, List.setIfInBounds_toArray, List.set_cons_zero, List.set_cons_succ])
          refine take_G (i := 5) (d := 37) (v := .int .i64 (k : Int)) rfl rfl (by kernel_rfl) (by kernel_rfl) (by kernel_rfl) (by kernel_rfl) (by kernel_rfl) (Or.inl ⟨by rfl, ?_⟩) hHeld ?_
          · intro wS hSw
            obtain ⟨z0, z1, z2⟩ := hSw
            clear hHeld
            go_simp
          (try simp only [Act.put, List.setIfInBounds_toArray, List.set_cons_zero, List.set_cons_succ])
          refine take_G (i := 6) (d := 38) (v := .pointer (some ⟨b, o + k, none⟩)) rfl rfl (by kernel_rfl) (by kernel_rfl) (by kernel_rfl) (by kernel_rfl) (by kernel_rfl) (Or.inl ⟨by rfl, ?_⟩) hHeld ?_
          · intro wS hSw
            obtain ⟨z0, z1, z2⟩ := hSw
            clear hHeld
            go_simp
          (try simp only [Act.put, List.setIfInBounds_toArray, List.set_cons_zero, List.set_cons_succ])
          refine take_G (i := 7) (d := 39) (v := .int .i64 (-9223372036854775808)) rfl rfl (by kernel_rfl) (by kernel_rfl) (by kernel_rfl) (by kernel_rfl) (by kernel_rfl) (Or.inl ⟨by rfl, ?_⟩) hHeld ?_
          · intro wS hSw
            obtain ⟨z0, z1, z2⟩ := hSw
            clear hHeld
            go_simp
          (try simp only [Act.put, List.setIfInBounds_toArray, List.set_cons_zero, List.set_cons_succ])
          refine take_G (i := 8) (d := 40) (v := .int .i64 (-9223372036854775807)) rfl rfl (by kernel_rfl) (by kernel_rfl) (by kernel_rfl) (by kernel_rfl) (by kernel_rfl) (Or.inl ⟨by rfl, ?_⟩) hHeld ?_
          · intro wS hSw
            obtain ⟨z0, z1, z2⟩ := hSw
            clear hHeld
            go_simp
          (try simp only [Act.put, List.setIfInBounds_toArray, List.set_cons_zero, List.set_cons_succ])
          refine take_G (i := 9) (d := 41) (v := .pointer (some ⟨L, k, none⟩)) rfl rfl (by kernel_rfl) (by kernel_rfl) (by kernel_rfl) (by kernel_rfl) (by kernel_rfl) (Or.inl ⟨by rfl, ?_⟩) hHeld ?_
          · intro wS hSw
            obtain ⟨z0, z1, z2⟩ := hSw
            clear hHeld
            go_simp
          (try simp only [Act.put, List.setIfInBounds_toArray, List.set_cons_zero, List.set_cons_succ])
          refine step_G (i := 10) (by kernel_rfl) (fun K hK => ?_)
          refine wpOp_of rfl rfl ?_
          unfold Oper.wp
          go_simp
          refine hK _ _ (fun h => absurd rfl h) ?_
          clear hK K
          (try simp only [Act.put, List.setIfInBounds_toArray, List.set_cons_zero, List.set_cons_succ])
          refine done_G (by kernel_rfl) ?_
          refine noPanic_normalE ?_
          have R' : Hid (GdI w #[.int .i64 R1, .int .i64 C1, .slice (some ⟨b, o, none⟩) l1 p1] n nn L Y (k + 1) (wr.setCell ⟨L, k, none⟩ (.int .i64 (-9223372036854775807))).drew) := unhide R
          clear hHeld R f1 f2 q2 y2 hc
          go_wp2
          go_roundw
          case rel => exact ⟨k + 1, unhide B1, by go_num, R'⟩
          case measure => have := unhide B1; simp [intOf]; omega
        · have ey : yk = x := by rw [unhide EK]; omega
          subst ey
          clear EK IK
          go_wp2
          refine region_G (fun w' => w'.cell? ⟨L + 1, 2, none⟩ = some (.slice (some ⟨L, 0, none⟩) nn nn) ∧ w'.cell? ⟨w.heap.size, 2, none⟩ = some (.slice (some ⟨b, o, none⟩) l1 p1) ∧ w'.cell? ⟨b, o + k, none⟩ = some (.int .i64 (yk))) 10 (by kernel_rfl) ⟨q2, y2, hc⟩ (fun hHeld => ?_)
          refine take_G (i := 0) (d := 32) (v := .pointer (some ⟨L + 1, 2, none⟩)) rfl rfl (by kernel_rfl) (by kernel_rfl) (by kernel_rfl) (by kernel_rfl) (by kernel_rfl) (Or.inl ⟨by rfl, ?_⟩) hHeld ?_
          · intro wS hSw
            obtain ⟨z0, z1, z2⟩ := hSw
            clear hHeld
            go_simp
          (try simp only [Act.put, List.setIfInBounds_toArray, List.set_cons_zero, List.set_cons_succ])
          refine take_G (i := 1) (d := 33) (v := .slice (some ⟨L, 0, none⟩) nn nn) rfl rfl (by kernel_rfl) (by kernel_rfl) (by kernel_rfl) (by kernel_rfl) (by kernel_rfl) (Or.inl ⟨by rfl, ?_⟩) hHeld ?_
          · intro wS hSw
            obtain ⟨z0, z1, z2⟩ := hSw
            clear hHeld
            go_simp
          (try simp only [Act.put, List.setIfInBounds_toArray, List.set_cons_zero, List.set_cons_succ])
          refine take_G (i := 2) (d := 34) (v := .int .i64 (k : Int)) rfl rfl (by kernel_rfl) (by kernel_rfl) (by kernel_rfl) (by kernel_rfl) (by kernel_rfl) (Or.inl ⟨by rfl, ?_⟩) hHeld ?_
          · intro wS hSw
            obtain ⟨z0, z1, z2⟩ := hSw
            clear hHeld
            go_simp
          (try simp only [Act.put, List.setIfInBounds_toArray, List.set_cons_zero, List.set_cons_succ])
          refine take_G (i := 3) (d := 35) (v := .pointer (some ⟨w.heap.size, 2, none⟩)) rfl rfl (by kernel_rfl) (by kernel_rfl) (by kernel_rfl) (by kernel_rfl) (by kernel_rfl) (Or.inl ⟨by rfl, ?_⟩) hHeld ?_
          · intro wS hSw
            obtain ⟨z0, z1, z2⟩ := hSw
            clear hHeld
            go_simp
          (try simp only [Act.put, List.setIfInBounds_toArray, List.set_cons_zero, List.set_cons_succ])
          refine take_G (i := 4) (d := 36) (v := .slice (some ⟨b, o, none⟩) l1 p1) rfl rfl (by kernel_rfl) (by kernel_rfl) (by kernel_rfl) (by kernel_rfl) (by kernel_rfl) (Or.inl ⟨by rfl, ?_⟩) hHeld ?_
          · intro wS hSw
            obtain ⟨z0, z1, z2⟩ := hSw
            clear hHeld
            go_simp
          (try simp only [Act.put, List.setIfInBounds_toArray, List.set_cons_zero, List.set_cons_succ])
          refine take_G (i := 5) (d := 37) (v := .int .i64 (k : Int)) rfl rfl (by kernel_rfl) (by kernel_rfl) (by kernel_rfl) (by kernel_rfl) (by kernel_rfl) (Or.inl ⟨by rfl, ?_⟩) hHeld ?_
          · intro wS hSw
            obtain ⟨z0, z1, z2⟩ := hSw
            clear hHeld
            go_simp
          (try simp only [Act.put, List.setIfInBounds_toArray, List.set_cons_zero, List.set_cons_succ])
          refine take_G (i := 6) (d := 38) (v := .pointer (some ⟨b, o + k, none⟩)) rfl rfl (by kernel_rfl) (by kernel_rfl) (by kernel_rfl) (by kernel_rfl) (by kernel_rfl) (Or.inl ⟨by rfl, ?_⟩) hHeld ?_
          · intro wS hSw
            obtain ⟨z0, z1, z2⟩ := hSw
            clear hHeld
            go_simp
          (try simp only [Act.put, List.setIfInBounds_toArray, List.set_cons_zero, List.set_cons_succ])
          refine take_G (i := 7) (d := 39) (v := .int .i64 (yk)) rfl rfl (by kernel_rfl) (by kernel_rfl) (by kernel_rfl) (by kernel_rfl) (by kernel_rfl) (Or.inl ⟨by rfl, ?_⟩) hHeld ?_
          · intro wS hSw
            obtain ⟨z0, z1, z2⟩ := hSw
            clear hHeld
            go_simp
          (try simp only [Act.put, List.setIfInBounds_toArray, List.set_cons_zero, List.set_cons_succ])
          refine take_G (i := 8) (d := 40) (v := .int .i64 (yk)) rfl rfl (by kernel_rfl) (by kernel_rfl) (by kernel_rfl) (by kernel_rfl) (by kernel_rfl) (Or.inl ⟨by rfl, ?_⟩) hHeld ?_
          · intro wS hSw
            obtain ⟨z0, z1, z2⟩ := hSw
            clear hHeld
            go_simp
            (try (intro hq; exfalso; omega))
          (try simp only [Act.put, List.setIfInBounds_toArray, List.set_cons_zero, List.set_cons_succ])
          refine take_G (i := 9) (d := 41) (v := .pointer (some ⟨L, k, none⟩)) rfl rfl (by kernel_rfl) (by kernel_rfl) (by kernel_rfl) (by kernel_rfl) (by kernel_rfl) (Or.inl ⟨by rfl, ?_⟩) hHeld ?_
          · intro wS hSw
            obtain ⟨z0, z1, z2⟩ := hSw
            clear hHeld
            go_simp
          (try simp only [Act.put, List.setIfInBounds_toArray, List.set_cons_zero, List.set_cons_succ])
          refine step_G (i := 10) (by kernel_rfl) (fun K hK => ?_)
          refine wpOp_of rfl rfl ?_
          unfold Oper.wp
          go_simp
          refine hK _ _ (fun h => absurd rfl h) ?_
          clear hK K
          (try simp only [Act.put, List.setIfInBounds_toArray, List.set_cons_zero, List.set_cons_succ])
          refine done_G (by kernel_rfl) ?_
          refine noPanic_normalE ?_
          have R' : Hid (GdI w #[.int .i64 R1, .int .i64 C1, .slice (some ⟨b, o, none⟩) l1 p1] n nn L Y (k + 1) (wr.setCell ⟨L, k, none⟩ (.int .i64 (yk))).drew) := unhide R
          clear hHeld R f1 f2 q2 y2 hc
          go_wp2
          go_roundw
          case rel => exact ⟨k + 1, unhide B1, by go_num, R'⟩
          case measure => have := unhide B1; simp [intOf]; omega
      · have d1 : decide ((k : Int) < (nn : Int)) = true := decide_eq_true (by omega)
        have d2 : decide ((k : Int) < (l1 : Int)) = false := decide_eq_false (by omega)
        have PE : Hid (Blk L (ints nn Y) 3 wr) := by
          have g3 := (unhide HI).2.2.1
          rwa [show ints nn (soFar Y (List.range k)) = ints nn Y from ints_congr _ _ _ fun i hi => by
            unfold soFar
            by_cases hm : i < k
            · rw [if_pos (List.mem_range.2 hm)]
            · rw [if_neg (fun h => hm (List.mem_range.1 h)), unhide EY i]
              unfold gdZ
              rw [if_neg (by omega)]] at g3
        have c0 : wr.cell? ⟨L + 1, 0, none⟩ = some (.int .i64 n) := Blk.cell (unhide HI).2.2.2.1 0
        have c1 : wr.cell? ⟨L + 1, 1, none⟩ = some (.int .i64 n) := Blk.cell (unhide HI).2.2.2.1 1
        have c2 : wr.cell? ⟨L + 1, 2, none⟩ = some (.slice (some ⟨L, 0, none⟩) nn nn) := Blk.cell (unhide HI).2.2.2.1 2
        have b3 := (unhide HI).2.1
        have e0 : wr.cell? ⟨w.heap.size + 1, 0, none⟩ = some (.int .i64 0) := Blk.cell b3 0
        have e1 : wr.cell? ⟨w.heap.size + 1, 1, none⟩ = some (.int .i64 0) := Blk.cell b3 1
        have e2 : wr.cell? ⟨w.heap.size + 1, 2, none⟩ = some (.slice none 0 0) := Blk.cell b3 2
        have ff := Blk.free b3
        have R := hide (And.intro b3 (And.intro (unhide HI).2.2.2.2.1 (unhide HI).2.2.2.2.2))
        have nl : w.heap.size + 1 ≠ L + 1 := by have := (unhide HI).2.2.2.2.2; omega
        clear HI b3 hk
        go_wp2
        obtain ⟨b3, kw, hL⟩ := unhide R
        have P := putM b3 (.int .i64 n) (.int .i64 n) (.slice (some ⟨L, 0, none⟩) nn nn)
        generalize (((wr.setCell ⟨w.heap.size + 1, 0, none⟩ (.int .i64 n)).setCell ⟨w.heap.size + 1, 1, none⟩ (.int .i64 n)).setCell ⟨w.heap.size + 1, 2, none⟩ (.slice (some ⟨L, 0, none⟩) nn nn)) = wE at *
        have c0' : wE.cell? ⟨w.heap.size + 1, 0, none⟩ = some (.int .i64 n) := Blk.cell P.1 0
        have c1' : wE.cell? ⟨w.heap.size + 1, 1, none⟩ = some (.int .i64 n) := Blk.cell P.1 1
        have c2' : wE.cell? ⟨w.heap.size + 1, 2, none⟩ = some (.slice (some ⟨L, 0, none⟩) nn nn) := Blk.cell P.1 2
        refine bodyPost_ret (v := .agg #[.int .i64 n, .int .i64 n, .slice (some ⟨L, 0, none⟩) nn nn]) (by simp [results, Try.results17, go_sem, c0', c1', c2']) rfl ?_
        exact ⟨_, _, rfl, Nat.le_refl _, (Blk.keep (unhide PE) P.2 (by omega)).row, fun U hU => off_blk (by omega), kw.mod P.2 (by omega)⟩
    · have d1 : decide ((k : Int) < (nn : Int)) = false := decide_eq_false (by omega)
      have PE : Hid (Blk L (ints nn Y) 3 wr) := by
        have g3 := (unhide HI).2.2.1
        rwa [show ints nn (soFar Y (List.range k)) = ints nn Y from ints_congr _ _ _ fun i hi => by
          unfold soFar
          by_cases hm : i < k
          · rw [if_pos (List.mem_range.2 hm)]
          · rw [if_neg (fun h => hm (List.mem_range.1 h)), unhide EY i]
            unfold gdZ
            rw [if_neg (by omega)]] at g3
      have c0 : wr.cell? ⟨L + 1, 0, none⟩ = some (.int .i64 n) := Blk.cell (unhide HI).2.2.2.1 0
      have c1 : wr.cell? ⟨L + 1, 1, none⟩ = some (.int .i64 n) := Blk.cell (unhide HI).2.2.2.1 1
      have c2 : wr.cell? ⟨L + 1, 2, none⟩ = some (.slice (some ⟨L, 0, none⟩) nn nn) := Blk.cell (unhide HI).2.2.2.1 2
      have b3 := (unhide HI).2.1
      have e0 : wr.cell? ⟨w.heap.size + 1, 0, none⟩ = some (.int .i64 0) := Blk.cell b3 0
      have e1 : wr.cell? ⟨w.heap.size + 1, 1, none⟩ = some (.int .i64 0) := Blk.cell b3 1
      have e2 : wr.cell? ⟨w.heap.size + 1, 2, none⟩ = some (.slice none 0 0) := Blk.cell b3 2
      have ff := Blk.free b3
      have R := hide (And.intro b3 (And.intro (unhide HI).2.2.2.2.1 (unhide HI).2.2.2.2.2))
      have nl : w.heap.size + 1 ≠ L + 1 := by have := (unhide HI).2.2.2.2.2; omega
      clear HI b3 hk
      go_wp2
      obtain ⟨b3, kw, hL⟩ := unhide R
      have P := putM b3 (.int .i64 n) (.int .i64 n) (.slice (some ⟨L, 0, none⟩) nn nn)
      generalize (((wr.setCell ⟨w.heap.size + 1, 0, none⟩ (.int .i64 n)).setCell ⟨w.heap.size + 1, 1, none⟩ (.int .i64 n)).setCell ⟨w.heap.size + 1, 2, none⟩ (.slice (some ⟨L, 0, none⟩) nn nn)) = wE at *
      have c0' : wE.cell? ⟨w.heap.size + 1, 0, none⟩ = some (.int .i64 n) := Blk.cell P.1 0
      have c1' : wE.cell? ⟨w.heap.size + 1, 1, none⟩ = some (.int .i64 n) := Blk.cell P.1 1
      have c2' : wE.cell? ⟨w.heap.size + 1, 2, none⟩ = some (.slice (some ⟨L, 0, none⟩) nn nn) := Blk.cell P.1 2
      refine bodyPost_ret (v := .agg #[.int .i64 n, .int .i64 n, .slice (some ⟨L, 0, none⟩) nn nn]) (by simp [results, Try.results17, go_sem, c0', c1', c2']) rfl ?_
      exact ⟨_, _, rfl, Nat.le_refl _, (Blk.keep (unhide PE) P.2 (by omega)).row, fun U hU => off_blk (by omega), kw.mod P.2 (by omega)⟩


end Go.Proofs.Ytgahdjfkmpadoaa

/- The laws' helper eye. -/
namespace Go.Proofs.Ytgahdjfkmpadoaa
open Go.RowKit Go.Shelf Go.Proofs.Wd
set_option linter.unusedVariables false
set_option linter.unusedSimpArgs false

/-- One on the diagonal, so far. -/
def eyZ (n k : Nat) : Nat → Int := fun p => if p / n = p % n ∧ p / n < k then 4294967296 else 0
theorem eyZ_zero (n : Nat) : (fun _ => (0 : Int)) = eyZ n 0 := by
  funext p
  unfold eyZ
  rw [if_neg (fun h => Nat.not_lt_zero _ h.2)]
theorem eyZ_succ (n k p : Nat) (hk : k < n) : (if p = k * n + k then 4294967296 else eyZ n k p) = eyZ n (k + 1) p := by
  by_cases e : p = k * n + k
  · rw [if_pos e, e]
    unfold eyZ
    rw [place_div k k n hk, place_mod k k n hk, if_pos ⟨rfl, Nat.lt_succ_self _⟩]
  · rw [if_neg e]
    unfold eyZ
    by_cases h : p / n = p % n ∧ p / n < k
    · rw [if_pos h, if_pos ⟨h.1, by omega⟩]
    · rw [if_neg h, if_neg]
      rintro ⟨h1, h2⟩
      have h3 : p / n = k := by
        by_cases g : p / n < k
        · exact absurd ⟨h1, g⟩ h
        · omega
      have pe := place_eq p n
      rw [← h1, h3] at pe
      exact e pe.symm
theorem eyZ_all (n p : Nat) (hp : p < n * n) : eyZ n n p = diagZ oneZ n p := by
  have h := place_lt p n n hp
  unfold eyZ diagZ oneZ
  by_cases e : p / n = p % n
  · rw [if_pos e, if_pos ⟨e, h.1⟩]
  · rw [if_neg e, if_neg (fun q => e q.1)]
def EyI (w : World) (n nn : Nat) (k : Nat) (wr : World) : Prop :=
  Blk w.heap.size #[.int .i64 0, .int .i64 0, .slice none 0 0] 24 wr ∧ Blk (w.heap.size + 1) (ints nn (eyZ n k)) 3 wr ∧ Blk (w.heap.size + 1 + 1) #[.int .i64 n, .int .i64 n, .slice (some ⟨w.heap.size + 1, 0, none⟩) nn nn] 24 wr ∧ Kp w wr

set_option maxRecDepth 20000 in
set_option maxHeartbeats 8000000 in
theorem lawEye (n : Nat) (hn : 1 ≤ n ∧ n ≤ 12) (w : World) :
    Calls Try.prog 19 #[.int .i64 (n : Int)] w fun e w' => CopyM n n (n * n) (diagZ oneZ n) w e w' := by
  have hmn := mul12n n n hn hn
  obtain ⟨nn, hnn⟩ : ∃ q, n * n = q := ⟨_, rfl⟩
  rw [hnn] at hmn
  have EZ : Hid (∀ p, p < nn → eyZ n n p = diagZ oneZ n p) := fun p hp => eyZ_all n p (by rw [hnn]; exact hp)
  have PI : Hid (∀ k, k < n → k * n + k < nn) := fun k hk => by rw [← hnn]; exact place_in k k n n hk hk
  rw [hnn]
  generalize diagZ oneZ n = Y at *
  have w1 : wrap64 ((n : Int) * (n : Int)) = (nn : Int) := wrapP n n nn hnn (by omega)
  have MK := make_ints nn (by omega)
  have HN := hide (And.intro hn hmn)
  obtain ⟨G, s3, b0, b1, b2⟩ := alloc3 w #[.int .i64 0, .int .i64 0, .slice none 0 0] 24 (ints nn (fun _ => 0)) 3 #[.int .i64 n, .int .i64 n, .slice (some ⟨w.heap.size + 1, 0, none⟩) nn nn] 24
  have ST : Hid (EyI w n nn 0 (((w.alloc (.cells #[.int .i64 0, .int .i64 0, .slice none 0 0] 24)).alloc (.cells (ints nn (fun _ => 0)) 3)).alloc (.cells #[.int .i64 n, .int .i64 n, .slice (some ⟨w.heap.size + 1, 0, none⟩) nn nn] 24))) := ⟨b0, by rw [← eyZ_zero]; exact b1, b2, Kp.of G⟩
  clear hnn hmn hn G s3 b0 b1 b2
  go_enter Try.func19, Try.ntmps19
  go_wp2_with fail
  simp only [w1]
  clear MK
  generalize (((w.alloc (.cells #[.int .i64 0, .int .i64 0, .slice none 0 0] 24)).alloc (.cells (ints nn (fun _ => 0)) 3)).alloc (.cells #[.int .i64 n, .int .i64 n, .slice (some ⟨w.heap.size + 1, 0, none⟩) nn nn] 24)) = w5 at *
  go_loopw [4] (fun t wr => ∃ k : Nat, k ≤ n ∧ t = .int .i64 k ∧ Hid (EyI w n nn k wr)) (fun t _ => n - (intOf t).toNat)
  case atStart => exact ⟨0, Nat.zero_le _, rfl, unhide ST⟩
  case round =>
    obtain ⟨k, hk, rfl, HI⟩ := hrel
    clear ST
    by_cases h1 : k < n
    · obtain ⟨mk, hmk⟩ : ∃ m, k * n = m := ⟨_, rfl⟩
      obtain ⟨p, hp⟩ : ∃ p, mk + k = p := ⟨_, rfl⟩
      have hpl : p < nn := by rw [← hp, ← hmk]; exact unhide PI k h1
      have q2 : wr.cell? ⟨w.heap.size + 1 + 1, 2, none⟩ = some (.slice (some ⟨w.heap.size + 1, 0, none⟩) nn nn) := Blk.cell (unhide HI).2.2.1 2
      have f1 : wr.cell? ⟨w.heap.size + 1, p, none⟩ = some (.int .i64 (eyZ n k p)) := by rw [Blk.cell (unhide HI).2.1, ints_at nn _ _ hpl]
      have f2 := Blk.free (unhide HI).2.1 p
      have B1 : Hid (k + 1 ≤ n) := h1
      have nb := unhide HN
      have mk6 : mk ≤ 1000000 := by omega
      have p6 : p ≤ 1000000 := by omega
      have k6 : k ≤ 1000000 := by omega
      have i0 : (0 : Int) ≤ (p : Int) := by omega
      have i1 : (p : Int) < (nn : Int) := by omega
      have wa : wrap64 ((k : Int) * (n : Int)) = (mk : Int) := wrapP k n mk hmk mk6
      have wb : wrap64 ((mk : Int) + (k : Int)) = (p : Int) := wrapA mk k p hp p6
      have R : Hid (EyI w n nn (k + 1) (wr.setCell ⟨w.heap.size + 1, p, none⟩ (.int .i64 4294967296))) := by
        obtain ⟨g1, g2, g3, g4⟩ := unhide HI
        have q : Mod (w.heap.size + 1) wr (wr.setCell ⟨w.heap.size + 1, p, none⟩ (.int .i64 4294967296)) := (Mod.refl _ _).setCell _ _
        refine ⟨Blk.keep g1 q (by omega), ?_, Blk.keep g3 q (by omega), g4.mod q (by omega)⟩
        have := Blk.setI g2 p 4294967296
        rwa [ints_congr nn _ (eyZ n (k + 1)) (fun i _ => by
          have e := eyZ_succ n k i h1
          rw [hmk, hp] at e
          exact e)] at this
      generalize eyZ n k p = old at f1
      clear HI hmk hp hpl nb hk mk6 p6
      go_wp2
      clear wa wb
      go_roundw
      case rel => exact ⟨k + 1, unhide B1, by go_num, R⟩
      case measure => have := unhide B1; simp [intOf]; omega
    · obtain rfl : k = n := by omega
      have PE : Hid (Blk (w.heap.size + 1) (ints nn Y) 3 wr) := by
        have g3 := (unhide HI).2.1
        rwa [ints_congr nn _ _ (fun i hi => unhide EZ i hi)] at g3
      have c0 : wr.cell? ⟨w.heap.size + 1 + 1, 0, none⟩ = some (.int .i64 k) := Blk.cell (unhide HI).2.2.1 0
      have c1 : wr.cell? ⟨w.heap.size + 1 + 1, 1, none⟩ = some (.int .i64 k) := Blk.cell (unhide HI).2.2.1 1
      have c2 : wr.cell? ⟨w.heap.size + 1 + 1, 2, none⟩ = some (.slice (some ⟨w.heap.size + 1, 0, none⟩) nn nn) := Blk.cell (unhide HI).2.2.1 2
      have b3 := (unhide HI).1
      have e0 : wr.cell? ⟨w.heap.size, 0, none⟩ = some (.int .i64 0) := Blk.cell b3 0
      have e1 : wr.cell? ⟨w.heap.size, 1, none⟩ = some (.int .i64 0) := Blk.cell b3 1
      have e2 : wr.cell? ⟨w.heap.size, 2, none⟩ = some (.slice none 0 0) := Blk.cell b3 2
      have ff := Blk.free b3
      have R := hide (And.intro b3 (unhide HI).2.2.2)
      clear HI b3 hk
      go_wp2
      obtain ⟨b3, kw⟩ := unhide R
      have P := putM b3 (.int .i64 k) (.int .i64 k) (.slice (some ⟨w.heap.size + 1, 0, none⟩) nn nn)
      generalize (((wr.setCell ⟨w.heap.size, 0, none⟩ (.int .i64 k)).setCell ⟨w.heap.size, 1, none⟩ (.int .i64 k)).setCell ⟨w.heap.size, 2, none⟩ (.slice (some ⟨w.heap.size + 1, 0, none⟩) nn nn)) = wE at *
      have c0' : wE.cell? ⟨w.heap.size, 0, none⟩ = some (.int .i64 k) := Blk.cell P.1 0
      have c1' : wE.cell? ⟨w.heap.size, 1, none⟩ = some (.int .i64 k) := Blk.cell P.1 1
      have c2' : wE.cell? ⟨w.heap.size, 2, none⟩ = some (.slice (some ⟨w.heap.size + 1, 0, none⟩) nn nn) := Blk.cell P.1 2
      refine bodyPost_ret (v := .agg #[.int .i64 k, .int .i64 k, .slice (some ⟨w.heap.size + 1, 0, none⟩) nn nn]) (by simp [results, Try.results19, go_sem, c0', c1', c2']) rfl ?_
      exact ⟨_, _, rfl, Nat.le_refl _, (Blk.keep (unhide PE) P.2 (by omega)).row, fun U hU => off_blk (by omega), kw.mod P.2 (by omega)⟩


end Go.Proofs.Ytgahdjfkmpadoaa

/- Laws of stage 8 with one unit under way. -/
namespace Go.Proofs.Ytgahdjfkmpadoaa
open Go.RowKit Go.Shelf Go.Proofs.Wd
set_option linter.unusedVariables false
set_option linter.unusedSimpArgs false

/-- What Even and Rank come to, reckoned without choice. -/
def evQ (A : Nat → Int) (n : Nat) : Nat → Int := fun p => if p / n = p % n then A p else halfN (A (min (p / n) (p % n) * n + max (p / n) (p % n))) (A (max (p / n) (p % n) * n + min (p / n) (p % n)))
theorem evenZ_q (A : Nat → Int) (n p : Nat) (hp : p < n * n) : evenZ A n p = evQ A n p := by
  have h := place_lt p n n hp
  have e := evenZ_at A n (p / n) (p % n) h.1 h.2
  rw [place_eq] at e
  exact e
def rkQ (A K : Nat → Int) (s : Int) (n : Nat) : Nat → Int := fun p => rkF A K s n (min (p / n) (p % n)) (max (p / n) (p % n))
theorem rankZ_q (A K : Nat → Int) (s : Int) (n p : Nat) (hp : p < n * n) : rankZ A K s n p = rkQ A K s n p := by
  have h := place_lt p n n hp
  have e := rankZ_at A K s n (p / n) (p % n) h.1 h.2
  rw [place_eq] at e
  exact e
/-- Made symmetric, so it is. -/
theorem isB_sym (n len : Nat) (Z : Nat → Int) (hn : 1 ≤ n ∧ n ≤ 12) (hl : len = n * n) (h : symP Z n) : isB n n len Z = true :=
  isB_yes ⟨by omega, by omega, by rw [hl, Int.natCast_mul]⟩ (fun a c h1 h2 => h a c h2 (by omega))

section
variable {w : World} {U : Nat} {P : Bool → Prop} {D : Int} {bx : List (Nat × Array Value)} {rows : List (Option Addr × Nat × (Nat → Int))} {wx w' : World}
/-- A matrix that the unit reckoned. -/
theorem KS.toldS {F : Nat} {args : Array Value} {r c err : Int} {len : Nat} {Z : Nat → Int} {G : Bool} {d : Int} (D' : Int) (h : KS w U P D bx rows wx) (hD : D ≤ 1000000000) (hd : 0 ≤ d ∧ D + d ≤ D') (hG : ∀ c, P c → P (c || G))
    (m : ∀ c0 n0, 0 ≤ n0 ∧ n0 < 1000000000000000000 → UC U c0 n0 wx → Calls Try.prog F args wx fun e w' => SymP r c len Z err (UX U (c0 || G) n0 d wx) wx e w') :
    Calls Try.prog F args wx fun e w' => ∃ ao cap, e = .returned (.tuple #[.agg #[.int .i64 r, .int .i64 c, .slice ao len cap], .int .i64 err]) ∧ len ≤ cap ∧ KS w U P D' bx ((ao, len, Z) :: rows) w' := by
  obtain ⟨c0, n0, h1, h2, h3, h4⟩ := h.1
  refine (m c0 n0 ⟨h2, by omega⟩ h4).mono ?_
  rintro e w' ⟨ao, cap, B, rfl, hc, hB, ho, ⟨k, k1, k2, hu⟩, hm⟩
  have t := h.2.mk (U := U) (by simp) hm
  refine ⟨ao, cap, rfl, hc, ⟨_, _, hG _ h1, by omega, by omega, hu⟩, t.row ?_ (fun e he => ?_)⟩
  · rcases ho with ho | ⟨rfl, ho⟩
    · exact Or.inl ho
    · exact ho.row
  · rcases ho with ho | ⟨rfl, ho⟩
    · exact fun hl => absurd hl (by omega)
    · exact off_blk (by have := (h.2.2.1 e he).2; omega)
/-- What no unit reckoned. -/
theorem KS.toldSK {r c err : Int} {len : Nat} {Z : Nat → Int} {e : Ending} (h : KS w U P D bx rows wx) (hv : SymP r c len Z err (Kp wx) wx e w') : ∃ ao cap, e = .returned (.tuple #[.agg #[.int .i64 r, .int .i64 c, .slice ao len cap], .int .i64 err]) ∧ len ≤ cap ∧ KS w U P D bx ((ao, len, Z) :: rows) w' := by
  obtain ⟨ao, cap, B, rfl, hc, hB, ho, hm⟩ := hv
  have t := h.kp hm
  refine ⟨ao, cap, rfl, hc, t.1, t.2.row ?_ (fun e he => ?_)⟩
  · rcases ho with ho | ⟨rfl, ho⟩
    · exact Or.inl ho
    · exact ho.row
  · rcases ho with ho | ⟨rfl, ho⟩
    · exact fun hl => absurd hl (by omega)
    · exact off_blk (by have := (h.2.2.1 e he).2; omega)
/-- A number that the unit reckoned. -/
theorem KS.toldN {F : Nat} {args : Array Value} {x err : Int} {G : Bool} {d : Int} (D' : Int) (h : KS w U P D bx rows wx) (hD : D ≤ 1000000000) (hd : 0 ≤ d ∧ D + d ≤ D') (hG : ∀ c, P c → P (c || G))
    (m : ∀ c0 n0, 0 ≤ n0 ∧ n0 < 1000000000000000000 → UC U c0 n0 wx → Calls Try.prog F args wx fun e w' => e = .returned (.tuple #[.int .i64 x, .int .i64 err]) ∧ UX U (c0 || G) n0 d wx w') :
    Calls Try.prog F args wx fun e w' => e = .returned (.tuple #[.int .i64 x, .int .i64 err]) ∧ KS w U P D' bx rows w' := by
  obtain ⟨c0, n0, h1, h2, h3, h4⟩ := h.1
  refine (m c0 n0 ⟨h2, by omega⟩ h4).mono ?_
  rintro e w' ⟨rfl, ⟨k, k1, k2, hu⟩, hm⟩
  exact ⟨rfl, ⟨_, _, hG _ h1, by omega, by omega, hu⟩, h.2.mk (U := U) (by simp) hm⟩
theorem KS.more (h : KS w U P D bx rows wx) {D' : Int} (hD : D ≤ D') : KS w U P D' bx rows wx := let ⟨c, n, h1, h2, h3, h4⟩ := h.1; ⟨⟨c, n, h1, h2, Int.le_trans h3 hD, h4⟩, h.2⟩
end

/-- The calls, over rows. -/
theorem evenR (U n : Nat) (hn : 1 ≤ n ∧ n ≤ 12) (len : Nat) (hl : len = n * n) (a1 : Option Addr) (p1 : Nat) (A : Nat → Int) (hA : ∀ j, j < len → I64 (A j)) (w : World) (ra : Row w a1 len A ∧ Off U len a1) (c0 : Bool) (n0 : Int) (hn0 : 0 ≤ n0 ∧ n0 < 1000000000000000000) (h : UC U c0 n0 w) :
    Calls Try.prog 10 #[.pointer (some ⟨U, 0, none⟩), .agg #[.int .i64 n, .int .i64 n, .slice a1 len p1]] w fun e w' => SymP n n len (evenZ A n) 0 (UX U (c0 || orC (upC (evC A n) 1 n) len) n0 144 w) w e w' := by
  have k1 := mul12n n n hn hn
  obtain ⟨b, o, rfl, za⟩ := ra.1.some (by omega)
  exact symEven_ok U c0 n0 ⟨hn0.1, by omega⟩ n len p1 b o A hn hl hA w h za (off_at ra.2 (by omega))
theorem rankR (U n : Nat) (hn : 1 ≤ n ∧ n ≤ 12) (len : Nat) (hl : len = n * n) (a1 xo : Option Addr) (p1 xc : Nat) (A K0 : Nat → Int) (s : Int) (hs : I64 s) (hA : ∀ j, j < len → I64 (A j)) (hK : ∀ j, j < n → I64 (K0 j)) (w : World) (ra : Row w a1 len A ∧ Off U len a1) (rk : Row w xo n K0 ∧ Off U n xo) (c0 : Bool) (n0 : Int) (hn0 : 0 ≤ n0 ∧ n0 < 1000000000000000000) (h : UC U c0 n0 w) :
    Calls Try.prog 12 #[.pointer (some ⟨U, 0, none⟩), .agg #[.int .i64 n, .int .i64 n, .slice a1 len p1], .slice xo n xc, .int .i64 s] w fun e w' => SymP n n len (rankZ A K0 s n) 0 (UX U (c0 || orC (upC (rkC A K0 s n) 0 n) len) n0 864 w) w e w' := by
  have k1 := mul12n n n hn hn
  obtain ⟨b, o, rfl, za⟩ := ra.1.some (by omega)
  obtain ⟨kb, ko, rfl, zk⟩ := rk.1.some (by omega)
  exact symRank_ok U c0 n0 ⟨hn0.1, by omega⟩ n len p1 b o A hn hl hA w h za (off_at ra.2 (by omega)) kb ko xc K0 s hs hK zk (off_at rk.2 (by omega))
theorem sandR (U r m : Nat) (hr : 1 ≤ r ∧ r ≤ 12) (hm : 1 ≤ m ∧ m ≤ 12) (l1 l2 : Nat) (hl1 : l1 = r * m) (hl2 : l2 = m * m) (a1 a2 : Option Addr) (p1 p2 : Nat) (hp : l1 ≤ p1) (A B : Nat → Int) (hA : ∀ j, j < l1 → I64 (A j)) (hB : ∀ j, j < l2 → I64 (B j)) (w : World) (ra : Row w a1 l1 A ∧ Off U l1 a1) (rb : Row w a2 l2 B ∧ Off U l2 a2) (c0 : Bool) (n0 : Int) (hn0 : 0 ≤ n0 ∧ n0 < 1000000000000000000) (h : UC U c0 n0 w) :
    Calls Try.prog 11 #[.pointer (some ⟨U, 0, none⟩), .agg #[.int .i64 r, .int .i64 m, .slice a1 l1 p1], .agg #[.int .i64 m, .int .i64 m, .slice a2 l2 p2]] w fun e w' => SymP r r (r * r) (evenZ (mulZ (mulZ A B m m) (turnZ A r m) m r) r) 0 (UX U (c0 || (orC (mulG A B m m) (r * m) || orC (mulG (mulZ A B m m) (turnZ A r m) m r) (r * r) || orC (upC (evC (mulZ (mulZ A B m m) (turnZ A r m) m r) r) 1 r) (r * r))) n0 10000 w) w e w' := by
  have := symSandwich_ok U c0 n0 hn0 r m a1 a2 l1 p1 l2 p2 A B hr hm hl1 hl2 hp hA hB w h ra.1 ra.2 rb.1 rb.2
  simp only [Bool.or_assoc] at this ⊢
  exact this
/-- Refused. -/
theorem SymP.ux {U : Nat} {c0 : Bool} {n0 : Int} {r c err : Int} {len : Nat} {Z : Nat → Int} {w : World} {e : Ending} {w' : World} (d : Int) (hd : 0 ≤ d) (h : SymP r c len Z err (fun w' => UC U c0 n0 w' ∧ Mk U w w') w e w') : SymP r c len Z err (UX U (c0 || false) n0 d w) w e w' := by
  obtain ⟨ao, cap, B, h1, h2, h3, h4, h5, h6⟩ := h
  exact ⟨ao, cap, B, h1, h2, h3, h4, ⟨n0, Int.le_refl _, by omega, by rw [Bool.or_false]; exact h5⟩, h6⟩

end Go.Proofs.Ytgahdjfkmpadoaa

/- The laws' helper awake of stage 8. -/
namespace Go.Proofs.Ytgahdjfkmpadoaa
open Go.RowKit Go.Shelf Go.Proofs.Wd
set_option linter.unusedVariables false
set_option linter.unusedSimpArgs false

theorem ixI64 (l : List Int) (h : ∀ x ∈ l, -9223372036854775808 ≤ x ∧ x ≤ 9223372036854775807) (n : Nat) (hn : l.length = n) : ∀ i, i < n → I64 (ix l i) := by
  intro i hi
  have : ix l i = l[i] := by simp [ix, hn, hi]
  rw [this]
  have q := h l[i] (List.getElem_mem _)
  unfold I64
  omega
theorem aw1 : ∀ i, i < 4 → evenZ (ix [1, 2, 5, 4]) 2 i = ix [1, 4, 4, 4] i := fun i hi =>
  (evenZ_q _ 2 i hi).trans ((show ∀ i, i < 4 → evQ (ix [1, 2, 5, 4]) 2 i = ix [1, 4, 4, 4] i by decide +kernel) i hi)
theorem aw1c : orC (upC (evC (ix [1, 2, 5, 4]) 2) 1 2) 4 = false := by decide +kernel
theorem aw2 : ∀ i, i < 4 → evenZ (mulZ (mulZ (ix [4294967296, 4294967296, 0, 4294967296]) (ix [4294967296, 0, 0, 4294967296]) 2 2) (turnZ (ix [4294967296, 4294967296, 0, 4294967296]) 2 2) 2 2) 2 i = ix [8589934592, 4294967296, 4294967296, 4294967296] i := fun i hi =>
  (evenZ_q _ 2 i hi).trans ((show ∀ i, i < 4 → evQ (mulZ (mulZ (ix [4294967296, 4294967296, 0, 4294967296]) (ix [4294967296, 0, 0, 4294967296]) 2 2) (turnZ (ix [4294967296, 4294967296, 0, 4294967296]) 2 2) 2 2) 2 i = ix [8589934592, 4294967296, 4294967296, 4294967296] i by decide +kernel) i hi)
theorem aw2c : (orC (mulG (ix [4294967296, 4294967296, 0, 4294967296]) (ix [4294967296, 0, 0, 4294967296]) 2 2) (2 * 2) || orC (mulG (mulZ (ix [4294967296, 4294967296, 0, 4294967296]) (ix [4294967296, 0, 0, 4294967296]) 2 2) (turnZ (ix [4294967296, 4294967296, 0, 4294967296]) 2 2) 2 2) (2 * 2) || orC (upC (evC (mulZ (mulZ (ix [4294967296, 4294967296, 0, 4294967296]) (ix [4294967296, 0, 0, 4294967296]) 2 2) (turnZ (ix [4294967296, 4294967296, 0, 4294967296]) 2 2) 2 2) 2) 1 2) (2 * 2)) = false := by decide +kernel
theorem aw3 : isB 2 2 4 (ix [1, 4, 4, 4]) = true := isB_yes (n := 2) ⟨by omega, by omega, by decide⟩ (fun a c h1 h2 => by
  obtain ⟨rfl, rfl⟩ : a = 1 ∧ c = 0 := by omega
  decide)
theorem aw4 : isB 2 2 4 (ix [1, 2, 5, 4]) = false := isB_not (n := 2) (a := 1) (c := 0) (by omega) (by omega) (by decide)


set_option maxRecDepth 20000 in
set_option maxHeartbeats 8000000 in
theorem lawSymAwake (w : World) : Calls Try.prog 9 #[] w fun e w' => e = .returned (.bool true) ∧ Kp w w' := by
  have N1 := hide (unitNew w)
  have hU := Nat.le_refl w.heap.size
  generalize e : w.heap.size = U at N1 hU
  replace hU : w.heap.size ≤ U := by omega
  have HE := hide hU
  clear e hU
  go_enter Try.func9, Try.ntmps9
  go_wp2_with fail
  refine (unhide N1).mono ?_
  rintro e w1 ⟨rfl, h1, g1⟩
  have S1 : Hid (KS w U (fun c => c = false) 0 [] [] w1) := KS.start (unhide HE) h1 g1 rfl
  clear h1 g1 N1
  have S2 := hide ((unhide S1).lit [1, 2, 5, 4])
  go_wp2_with fail
  generalize hw2 : w1.alloc (.cells #[.int .i64 1, .int .i64 2, .int .i64 5, .int .i64 4] 3) = w2 at *
  have S2' : Hid (KS w U (fun c => c = false) 0 [] [(some ⟨w1.heap.size, 0, none⟩, 4, ix [1, 2, 5, 4])] w2) := by rw [← hw2]; exact unhide S2
  clear hw2 S2 S1
  generalize w1.heap.size = L1 at *
  refine (lawTwo _ 4 4 w2).mono ?_
  rintro e w3 ⟨rfl, g3⟩
  have S3 := hide ((unhide S2').kp (Kp.of g3))
  clear g3 S2'
  go_wp2_with fail
  refine (KS.toldS 144 (unhide S3) (by omega) (by decide) (fun c hc => by subst hc; exact aw1c) (fun c0 n0 hn hu => evenR U 2 (by omega) 4 rfl (some ⟨L1, 0, none⟩) 4 (ix [1, 2, 5, 4]) (ixI64 _ (by simp) 4 rfl) w3 ((unhide S3).row (by simp)) c0 n0 hn hu)).mono ?_
  rintro e w4 ⟨a1, p1, rfl, hp1, S4⟩
  have S5 := hide ((S4.congr aw1).box #[.int .i64 2, .int .i64 2, .slice a1 4 p1])
  have HP1 := hide hp1
  clear S4 S3 hp1
  generalize hw5 : w4.alloc (.cells #[.int .i64 2, .int .i64 2, .slice a1 4 p1] 24) = w5 at S5
  have L5 := hide ((unhide S5).lit [4294967296, 4294967296, 0, 4294967296])
  go_wp2_with fail
  clear hw5
  generalize hw6 : w5.alloc (.cells #[.int .i64 4294967296, .int .i64 4294967296, .int .i64 0, .int .i64 4294967296] 3) = w6 at *
  have S6 : Hid (KS w U (fun c => c = false) 144 [(w4.heap.size, #[.int .i64 2, .int .i64 2, .slice a1 4 p1])] [(some ⟨w5.heap.size, 0, none⟩, 4, ix [4294967296, 4294967296, 0, 4294967296]), (a1, 4, ix [1, 4, 4, 4]), (some ⟨L1, 0, none⟩, 4, ix [1, 2, 5, 4])] w6) := by rw [← hw6]; exact unhide L5
  clear hw6 L5 S5
  refine (lawTwo _ 4 4 w6).mono ?_
  rintro e w7 ⟨rfl, g7⟩
  have S7 := hide ((unhide S6).kp (Kp.of g7))
  clear g7 S6
  have L7 := hide ((unhide S7).lit [4294967296, 0, 0, 4294967296])
  go_wp2_with fail
  generalize hw8 : w7.alloc (.cells #[.int .i64 4294967296, .int .i64 0, .int .i64 0, .int .i64 4294967296] 3) = w8 at *
  have S8 : Hid (KS w U (fun c => c = false) 144 [(w4.heap.size, #[.int .i64 2, .int .i64 2, .slice a1 4 p1])] [(some ⟨w7.heap.size, 0, none⟩, 4, ix [4294967296, 0, 0, 4294967296]), (some ⟨w5.heap.size, 0, none⟩, 4, ix [4294967296, 4294967296, 0, 4294967296]), (a1, 4, ix [1, 4, 4, 4]), (some ⟨L1, 0, none⟩, 4, ix [1, 2, 5, 4])] w8) := by rw [← hw8]; exact unhide L7
  clear hw8 L7 S7
  generalize w7.heap.size = L2 at *
  generalize w5.heap.size = L3 at *
  refine (lawTwo _ 4 4 w8).mono ?_
  rintro e w9 ⟨rfl, g9⟩
  have S9 := hide ((unhide S8).kp (Kp.of g9))
  clear g9 S8
  go_wp2_with fail
  refine (KS.toldS 10144 (unhide S9) (by omega) (by decide) (fun c hc => by subst hc; exact aw2c) (fun c0 n0 hn hu => sandR U 2 2 (by omega) (by omega) 4 4 rfl rfl (some ⟨L3, 0, none⟩) (some ⟨L2, 0, none⟩) 4 4 (by omega) (ix [4294967296, 4294967296, 0, 4294967296]) (ix [4294967296, 0, 0, 4294967296]) (ixI64 _ (by simp) 4 rfl) (ixI64 _ (by simp) 4 rfl) w9 ((unhide S9).row (by simp)) ((unhide S9).row (by simp)) c0 n0 hn hu)).mono ?_
  rintro e w10 ⟨a2, p2, rfl, hp2, S10⟩
  have S11 := hide ((S10.congr aw2).box #[.int .i64 2, .int .i64 2, .slice a2 4 p2])
  clear S10 S9 hp2
  simp only [show 2 * 2 = 4 from rfl] at S11 ⊢
  go_wp2_with fail
  generalize w10.alloc (.cells #[.int .i64 2, .int .i64 2, .slice a2 4 p2] 24) = w11 at *
  have CW : Hid (∀ wx, Kp w11 wx → wx.cell? ⟨w4.heap.size, 0, none⟩ = some (.int .i64 2) ∧ wx.cell? ⟨w4.heap.size, 1, none⟩ = some (.int .i64 2) ∧ wx.cell? ⟨w4.heap.size, 2, none⟩ = some (.slice a1 4 p1) ∧ wx.cell? ⟨w10.heap.size, 0, none⟩ = some (.int .i64 2) ∧ wx.cell? ⟨w10.heap.size, 1, none⟩ = some (.int .i64 2) ∧ wx.cell? ⟨w10.heap.size, 2, none⟩ = some (.slice a2 4 p2)) := fun wx k => by
    have h := (unhide S11).kp k
    obtain ⟨x0, x1, x2⟩ := h.cells (b := w4.heap.size) (x := .int .i64 2) (y := .int .i64 2) (z := .slice a1 4 p1) (by simp)
    exact ⟨x0, x1, x2, h.cells (b := w10.heap.size) (x := .int .i64 2) (y := .int .i64 2) (z := .slice a2 4 p2) (by simp)⟩
  have Rc : Hid (∀ wx, Kp w11 wx → Row wx a1 4 (ix [1, 4, 4, 4])) := fun wx k => (((unhide S11).kp k).row (ao := a1) (len := 4) (Z := ix [1, 4, 4, 4]) (by simp)).1
  have Rd : Hid (∀ wx, Kp w11 wx → Row wx a2 4 (ix [8589934592, 4294967296, 4294967296, 4294967296])) := fun wx k => (((unhide S11).kp k).row (ao := a2) (len := 4) (Z := ix [8589934592, 4294967296, 4294967296, 4294967296]) (by simp)).1
  obtain ⟨x1, x2, x3, x4, x5, x6⟩ := unhide CW w11 (Kp.refl _)
  have hz1 : w4.heap.size < w11.heap.size := heap_gt x1
  have hz2 : w10.heap.size < w11.heap.size := heap_gt x4
  have KD : Hid (Kp w11 (w11.alloc (.cells #[.int .i64 1, .int .i64 4, .int .i64 4, .int .i64 4] 3)).drew) := (Kp.refl w11).alloc _ _
  have RD : Hid (Row (w11.alloc (.cells #[.int .i64 1, .int .i64 4, .int .i64 4, .int .i64 4] 3)).drew (some ⟨w11.heap.size, 0, none⟩) 4 (ix [1, 4, 4, 4])) := row_lit (l := [1, 4, 4, 4]) (Blk.new w11 _ _)
  have KW := hide (unhide S11).2.1
  clear S11
  have T1 := hide (fun a n c w => lawTwo a n c w)
  have T2 := hide (fun a n c w => lawTwo a n c w)
  have T3 := hide (fun a n c w => lawTwo a n c w)
  have I1 := hide (fun w r => symIsAny 2 2 a1 4 p1 (ix [1, 4, 4, 4]) w r)
  rw [aw3] at I1
  have I2 := hide (fun b w r => symIsAny 2 2 (some ⟨b, 0, none⟩) 4 4 (ix [1, 2, 5, 4]) w r)
  rw [aw4] at I2
  go_region_held3 (fun w' => w'.cell? ⟨w4.heap.size, 0, none⟩ = some (.int .i64 2) ∧ w'.cell? ⟨w4.heap.size, 1, none⟩ = some (.int .i64 2) ∧ w'.cell? ⟨w4.heap.size, 2, none⟩ = some (.slice a1 4 p1) ∧ w'.cell? ⟨w10.heap.size, 0, none⟩ = some (.int .i64 2) ∧ w'.cell? ⟨w10.heap.size, 1, none⟩ = some (.int .i64 2) ∧ w'.cell? ⟨w10.heap.size, 2, none⟩ = some (.slice a2 4 p2))
      (simp [go_sem, *])
      (first
        | (go_at_call 15; refine (unhide T1 _ _ _ _).mono ?_; clear T1; rintro e w12 ⟨rfl, g12⟩; have K12 : Hid (Kp w11 w12) := ((unhide KD).grown g12); have R12 := hide ((unhide RD).grown g12); obtain ⟨y1, y2, y3, y4, y5, y6⟩ := unhide CW w12 (unhide K12); have hya := heap_gt y1; have hyb := heap_gt y4; clear g12 KD RD)
        | (go_at_call 16; refine (lawIs 2 2 a1 (some ⟨w11.heap.size, 0, none⟩) 4 p1 4 (ix [1, 4, 4, 4]) (by omega) _ (unhide Rc _ (unhide K12)) (unhide R12)).mono ?_; clear R12; rintro e w13 ⟨rfl, k13⟩; have K13 : Hid (Kp w11 w13) := ((unhide K12).trans k13); obtain ⟨z1, z2, z3, z4, z5, z6⟩ := unhide CW w13 (unhide K13); have hza := heap_gt z1; have hzb := heap_gt z4; have KE : Hid (Kp w11 (w13.alloc (.cells #[.int .i64 8589934592, .int .i64 4294967296, .int .i64 4294967296, .int .i64 4294967296] 3)) ∧ Row (w13.alloc (.cells #[.int .i64 8589934592, .int .i64 4294967296, .int .i64 4294967296, .int .i64 4294967296] 3)) (some ⟨w13.heap.size, 0, none⟩) 4 (ix [8589934592, 4294967296, 4294967296, 4294967296])) := ⟨(unhide K13).alloc _ _, row_lit (l := [8589934592, 4294967296, 4294967296, 4294967296]) (Blk.new w13 _ _)⟩; clear k13)
        | (go_at_call 15; refine (unhide T2 _ _ _ _).mono ?_; clear T2; rintro e w14 ⟨rfl, g14⟩; have K14 : Hid (Kp w11 w14) := ((unhide KE).1.grown g14); have R14 := hide ((unhide KE).2.grown g14); obtain ⟨v1, v2, v3, v4, v5, v6⟩ := unhide CW w14 (unhide K14); have hva := heap_gt v1; have hvb := heap_gt v4; clear g14 KE)
        | (go_at_call 16; refine (lawIs 2 2 a2 (some ⟨w13.heap.size, 0, none⟩) 4 p2 4 (ix [8589934592, 4294967296, 4294967296, 4294967296]) (by omega) _ (unhide Rd _ (unhide K14)) (unhide R14)).mono ?_; clear R14; rintro e w15 ⟨rfl, k15⟩; have K15 : Hid (Kp w11 w15) := ((unhide K14).trans k15); obtain ⟨t1, t2, t3, t4, t5, t6⟩ := unhide CW w15 (unhide K15); have hta := heap_gt t1; have htb := heap_gt t4; clear k15)
        | (go_at_call 18; refine (unhide I1 _ (unhide Rc _ (unhide K15))).mono ?_; clear I1; rintro e w16 ⟨rfl, k16⟩; have K16 : Hid (Kp w11 w16) := ((unhide K15).trans k16); obtain ⟨s1, s2, s3, s4, s5, s6⟩ := unhide CW w16 (unhide K16); have hsa := heap_gt s1; have hsb := heap_gt s4; have KF : Hid (Kp w11 (w16.alloc (.cells #[.int .i64 1, .int .i64 2, .int .i64 5, .int .i64 4] 3)) ∧ Row (w16.alloc (.cells #[.int .i64 1, .int .i64 2, .int .i64 5, .int .i64 4] 3)) (some ⟨w16.heap.size, 0, none⟩) 4 (ix [1, 2, 5, 4])) := ⟨(unhide K16).alloc _ _, row_lit (l := [1, 2, 5, 4]) (Blk.new w16 _ _)⟩; clear k16)
        | (go_at_call 15; refine (unhide T3 _ _ _ _).mono ?_; clear T3; rintro e w17 ⟨rfl, g17⟩; have K17 : Hid (Kp w11 w17) := ((unhide KF).1.grown g17); have R17 := hide ((unhide KF).2.grown g17); obtain ⟨r1, r2, r3, r4, r5, r6⟩ := unhide CW w17 (unhide K17); have hra := heap_gt r1; have hrb := heap_gt r4; clear g17 KF)
        | (go_at_call 18; refine (unhide I2 _ _ (unhide R17)).mono ?_; clear I2 R17; rintro e w18 ⟨rfl, k18⟩; have K18 : Hid (Kp w11 w18) := ((unhide K17).trans k18); obtain ⟨q1, q2, q3, q4, q5, q6⟩ := unhide CW w18 (unhide K18); have hqa := heap_gt q1; have hqb := heap_gt q4; clear k18))
  go_wp2
  go_ret
  exact ⟨rfl, (unhide KW).trans (unhide K18)⟩


end Go.Proofs.Ytgahdjfkmpadoaa

/- SymKnown. -/
namespace Go.Proofs.Ytgahdjfkmpadoaa
open Go.RowKit Go.Shelf Go.Proofs.Wd
set_option linter.unusedVariables false
set_option linter.unusedSimpArgs false

theorem kn1 : ∀ i, i < 4 → rankZ (ix [0, 0, 0, 0]) (ix [4294967296, 8589934592]) 2147483648 2 i = ix [2147483648, 4294967296, 4294967296, 8589934592] i := fun i hi =>
  (rankZ_q _ _ _ 2 i hi).trans ((show ∀ i, i < 4 → rkQ (ix [0, 0, 0, 0]) (ix [4294967296, 8589934592]) 2147483648 2 i = ix [2147483648, 4294967296, 4294967296, 8589934592] i by decide +kernel) i hi)
theorem kn1c : orC (upC (rkC (ix [0, 0, 0, 0]) (ix [4294967296, 8589934592]) 2147483648 2) 0 2) 4 = false := by decide +kernel
theorem kn2 : thN addN 0 (dgL (ix [2147483648, 4294967296, 4294967296, 8589934592]) 2) 2 = 10737418240 ∧ thC addN addC 0 (dgL (ix [2147483648, 4294967296, 4294967296, 8589934592]) 2) 2 = false := by decide +kernel
theorem kn3 : ¬ sqM 1 2 2 1 := fun h => by have := h.2.2; omega
theorem kn4 : ¬ sqM 1 1 1 0 := fun h => by have := h.2.1; omega
theorem traceR (U n : Nat) (hn : 1 ≤ n ∧ n ≤ 12) (len : Nat) (hl : len = n * n) (a1 : Option Addr) (p1 : Nat) (A : Nat → Int) (hA : ∀ j, j < len → I64 (A j)) (w : World) (ra : Row w a1 len A ∧ Off U len a1) (c0 : Bool) (n0 : Int) (hn0 : 0 ≤ n0 ∧ n0 < 1000000000000000000) (h : UC U c0 n0 w) :
    Calls Try.prog 13 #[.pointer (some ⟨U, 0, none⟩), .agg #[.int .i64 n, .int .i64 n, .slice a1 len p1]] w fun e w' => e = .returned (.tuple #[.int .i64 (thN addN 0 (dgL A n) n), .int .i64 0]) ∧ UX U (c0 || thC addN addC 0 (dgL A n) n) n0 144 w w' := by
  have k1 := mul12n n n hn hn
  obtain ⟨b, o, rfl, za⟩ := ra.1.some (by omega)
  exact symTrace_ok U c0 n0 ⟨hn0.1, by omega⟩ n len p1 b o A hn hl hA w h za (off_at ra.2 (by omega))

set_option maxRecDepth 20000 in
set_option maxHeartbeats 8000000 in
theorem lawSymKnown (w : World) : Calls Try.prog 4 #[] w fun e w' => e = .returned (.bool true) ∧ Kp w w' := by
  have N1 := hide (unitNew w)
  have hU := Nat.le_refl w.heap.size
  generalize e : w.heap.size = U at N1 hU
  replace hU : w.heap.size ≤ U := by omega
  have HE := hide hU
  clear e hU
  go_enter Try.func4, Try.ntmps4
  go_wp2_with fail
  refine (unhide N1).mono ?_
  rintro e w1 ⟨rfl, h1, g1⟩
  have S1 : Hid (KS w U (fun c => c = false) 0 [] [] w1) := KS.start (unhide HE) h1 g1 rfl
  clear h1 g1 N1
  have S2 := hide ((unhide S1).lit [0, 0, 0, 0])
  go_wp2_with fail
  generalize hw2 : w1.alloc (.cells #[.int .i64 0, .int .i64 0, .int .i64 0, .int .i64 0] 3) = w2 at *
  have S2' : Hid (KS w U (fun c => c = false) 0 [] [(some ⟨w1.heap.size, 0, none⟩, 4, ix [0, 0, 0, 0])] w2) := by rw [← hw2]; exact unhide S2
  clear hw2 S2 S1
  generalize w1.heap.size = L1 at *
  refine (lawTwo _ 4 4 w2).mono ?_
  rintro e w3 ⟨rfl, g3⟩
  have S3 := hide ((unhide S2').kp (Kp.of g3))
  clear g3 S2'
  have S4 := hide ((unhide S3).lit [4294967296, 8589934592])
  go_wp2_with fail
  generalize hw4 : w3.alloc (.cells #[.int .i64 4294967296, .int .i64 8589934592] 3) = w4 at *
  have S4' : Hid (KS w U (fun c => c = false) 0 [] [(some ⟨w3.heap.size, 0, none⟩, 2, ix [4294967296, 8589934592]), (some ⟨L1, 0, none⟩, 4, ix [0, 0, 0, 0])] w4) := by rw [← hw4]; exact unhide S4
  clear hw4 S4 S3
  generalize w3.heap.size = L2 at *
  refine (KS.toldS 864 (unhide S4') (by omega) (by decide) (fun c hc => by subst hc; exact kn1c) (fun c0 n0 hn hu => rankR U 2 (by omega) 4 rfl (some ⟨L1, 0, none⟩) (some ⟨L2, 0, none⟩) 4 2 (ix [0, 0, 0, 0]) (ix [4294967296, 8589934592]) 2147483648 (by unfold I64; omega) (ixI64 _ (by simp) 4 rfl) (ixI64 _ (by simp) 2 rfl) w4 ((unhide S4').row (by simp)) ((unhide S4').row (by simp)) c0 n0 hn hu)).mono ?_
  rintro e w5 ⟨a1, p1, rfl, hp1, S5⟩
  have S6 := hide ((S5.congr kn1).box #[.int .i64 2, .int .i64 2, .slice a1 4 p1])
  clear S5 S4' hp1
  generalize hw6 : w5.alloc (.cells #[.int .i64 2, .int .i64 2, .slice a1 4 p1] 24) = w6 at S6
  obtain ⟨x0, x1, x2⟩ := (unhide S6).cells (b := w5.heap.size) (x := .int .i64 2) (y := .int .i64 2) (z := .slice a1 4 p1) (by simp)
  go_wp2_with fail
  clear hw6
  refine (KS.toldN 1008 (unhide S6) (by omega) (by decide) (fun c hc => by subst hc; exact kn2.2) (fun c0 n0 hn hu => traceR U 2 (by omega) 4 rfl a1 p1 (ix [2147483648, 4294967296, 4294967296, 8589934592]) (ixI64 _ (by simp) 4 rfl) w6 ((unhide S6).row (by simp)) c0 n0 hn hu)).mono ?_
  rw [kn2.1]
  rintro e w7 ⟨rfl, S7'⟩
  have S7 := hide S7'
  clear S7' S6 x0 x1 x2
  have S8 := hide ((unhide S7).lit [1, 2])
  go_wp2_with fail
  generalize hw8 : w7.alloc (.cells #[.int .i64 1, .int .i64 2] 3) = w8 at *
  have S8' : Hid (KS w U (fun c => c = false) 1008 [(w5.heap.size, #[.int .i64 2, .int .i64 2, .slice a1 4 p1])] [(some ⟨w7.heap.size, 0, none⟩, 2, ix [1, 2]), (a1, 4, ix [2147483648, 4294967296, 4294967296, 8589934592]), (some ⟨L2, 0, none⟩, 2, ix [4294967296, 8589934592]), (some ⟨L1, 0, none⟩, 4, ix [0, 0, 0, 0])] w8) := by rw [← hw8]; exact unhide S8
  clear hw8 S8 S7
  generalize w7.heap.size = L3 at *
  refine (KS.toldS 1008 (G := false) (d := 0) (unhide S8') (by omega) (by decide) (fun c hc => by subst hc; rfl) (fun c0 n0 hn hu => (symEven_bad U c0 n0 ⟨hn.1, by omega⟩ 1 2 (some ⟨L3, 0, none⟩) 2 2 (ix []) kn3 w8 hu).mono (fun e w' h => SymP.ux 0 (by omega) h))).mono ?_
  rintro e w9 ⟨a2, p2, rfl, hp2, S9⟩
  have S10 := hide (S9.box #[.int .i64 0, .int .i64 0, .slice a2 0 p2])
  clear S9 S8' hp2
  generalize hw10 : w9.alloc (.cells #[.int .i64 0, .int .i64 0, .slice a2 0 p2] 24) = w10 at S10
  have S11 := hide ((unhide S10).lit [1])
  go_wp2_with fail
  clear hw10
  generalize hw11 : w10.alloc (.cells #[.int .i64 1] 3) = w11 at *
  have S11' := hide (show KS w U (fun c => c = false) 1008 _ _ w11 from by rw [← hw11]; exact unhide S11)
  clear hw11 S11 S10
  generalize w10.heap.size = L4 at *
  refine (KS.toldS 1008 (G := false) (d := 0) (unhide S11') (by omega) (by decide) (fun c hc => by subst hc; rfl) (fun c0 n0 hn hu => (symRank_bad U c0 n0 ⟨hn.1, by omega⟩ 1 1 (some ⟨L4, 0, none⟩) 1 1 none 0 0 1 (ix []) kn4 w11 hu).mono (fun e w' h => SymP.ux 0 (by omega) h))).mono ?_
  rintro e w12 ⟨a3, p3, rfl, hp3, S12⟩
  have S13 := hide (S12.box #[.int .i64 0, .int .i64 0, .slice a3 0 p3])
  clear S12 S11' hp3
  generalize hw13 : w12.alloc (.cells #[.int .i64 0, .int .i64 0, .slice a3 0 p3] 24) = w13 at S13
  have S14 := hide ((unhide S13).lit [1, 2, 5, 4])
  go_wp2_with fail
  clear hw13
  generalize hw14 : w13.alloc (.cells #[.int .i64 1, .int .i64 2, .int .i64 5, .int .i64 4] 3) = w14 at *
  have S14' := hide (show KS w U (fun c => c = false) 1008 _ _ w14 from by rw [← hw14]; exact unhide S14)
  clear hw14 S14 S13
  generalize w13.heap.size = L5 at *
  refine (lawTwo _ 4 4 w14).mono ?_
  rintro e w15 ⟨rfl, g15⟩
  have S15 := hide ((unhide S14').kp (Kp.of g15))
  clear g15 S14'
  go_wp2_with fail
  refine (symEven_none none 2 2 (some ⟨L5, 0, none⟩) 4 4 (ix []) w15 (Or.inl rfl)).mono ?_
  intro e w16 hv
  obtain ⟨a4, p4, rfl, _, S16⟩ := (unhide S15).toldSK hv
  have S17 := hide (S16.box #[.int .i64 0, .int .i64 0, .slice a4 0 p4])
  clear S16 S15 hv
  go_wp2_with fail
  generalize w16.alloc (.cells #[.int .i64 0, .int .i64 0, .slice a4 0 p4] 24) = w17 at *
  have CW : Hid (∀ wx, Kp w17 wx → wx.cell? ⟨w5.heap.size, 0, none⟩ = some (.int .i64 2) ∧ wx.cell? ⟨w5.heap.size, 1, none⟩ = some (.int .i64 2) ∧ wx.cell? ⟨w5.heap.size, 2, none⟩ = some (.slice a1 4 p1)) := fun wx k =>
    ((unhide S17).kp k).cells (b := w5.heap.size) (x := .int .i64 2) (y := .int .i64 2) (z := .slice a1 4 p1) (by simp)
  have Rc : Hid (∀ wx, Kp w17 wx → Row wx a1 4 (ix [2147483648, 4294967296, 4294967296, 8589934592])) := fun wx k => (((unhide S17).kp k).row (ao := a1) (len := 4) (Z := ix [2147483648, 4294967296, 4294967296, 8589934592]) (by simp)).1
  obtain ⟨x1, x2, x3⟩ := unhide CW w17 (Kp.refl _)
  have hz1 : w5.heap.size < w17.heap.size := heap_gt x1
  have KW := hide (unhide S17).2.1
  clear S17
  go_region_held3 (fun w' => w'.cell? ⟨w5.heap.size, 0, none⟩ = some (.int .i64 2) ∧ w'.cell? ⟨w5.heap.size, 1, none⟩ = some (.int .i64 2) ∧ w'.cell? ⟨w5.heap.size, 2, none⟩ = some (.slice a1 4 p1))
      (simp [go_sem, *])
      (first
        | (go_at_call 9; refine (lawSymAwake _).mono ?_; rintro e w18 ⟨rfl, k18⟩; have K18 : Hid (Kp w17 w18) := k18; obtain ⟨y1, y2, y3⟩ := unhide CW w18 (unhide K18); have hya := heap_gt y1; have KE : Hid (Kp w17 (w18.alloc (.cells #[.int .i64 2147483648, .int .i64 4294967296, .int .i64 4294967296, .int .i64 8589934592] 3)) ∧ Row (w18.alloc (.cells #[.int .i64 2147483648, .int .i64 4294967296, .int .i64 4294967296, .int .i64 8589934592] 3)) (some ⟨w18.heap.size, 0, none⟩) 4 (ix [2147483648, 4294967296, 4294967296, 8589934592])) := ⟨(unhide K18).alloc _ _, row_lit (l := [2147483648, 4294967296, 4294967296, 8589934592]) (Blk.new w18 _ _)⟩; clear k18)
        | (go_at_call 15; refine (lawTwo _ 4 4 _).mono ?_; rintro e w19 ⟨rfl, g19⟩; have K19 : Hid (Kp w17 w19) := ((unhide KE).1.grown g19); have R19 := hide ((unhide KE).2.grown g19); obtain ⟨z1, z2, z3⟩ := unhide CW w19 (unhide K19); have hza := heap_gt z1; clear g19 KE)
        | (go_at_call 16; refine (lawIs 2 2 a1 (some ⟨w18.heap.size, 0, none⟩) 4 p1 4 (ix [2147483648, 4294967296, 4294967296, 8589934592]) (by omega) _ (unhide Rc _ (unhide K19)) (unhide R19)).mono ?_; clear R19; rintro e w20 ⟨rfl, k20⟩; have K20 : Hid (Kp w17 w20) := ((unhide K19).trans k20); obtain ⟨t1, t2, t3⟩ := unhide CW w20 (unhide K20); have hta := heap_gt t1; clear k20))
  go_wp2
  go_ret
  exact ⟨rfl, (unhide KW).trans (unhide K20)⟩


end Go.Proofs.Ytgahdjfkmpadoaa

/- A region that draws its order, 'x, y := f(..), g(..)': what it reads stays, its calls make new memory, its boxes are made and filled. -/
namespace Go.Proofs.Ytgahdjfkmpadoaa
open Go.RowKit Go.Shelf Go.Proofs.Wd
set_option linter.unusedVariables false
set_option linter.unusedSimpArgs false

/-- What an operation is: a value that is known ahead; a call; a box that is made; a box that is filled with what a call told. -/
inductive OpK where
  | pure (d : Nat) (v : Value)
  | call (d : Nat) (G : Value → World → Prop)
  | alloc (d : Nat) (cs : Array Value) (T : TypeId)
  | store (ia ic : Nat) (fl : Value → Array Value)
  | same (d j : Nat)
def OpK.dst : OpK → Option Nat
  | .pure d _ => some d
  | .call d _ => some d
  | .alloc d _ _ => some d
  | .store _ _ _ => none
  | .same d _ => some d
def OpK.val (vals : Nat → Value) (addr : Nat → Nat) (i : Nat) : OpK → Value
  | .pure _ v => v
  | .call _ _ => vals i
  | .alloc _ _ _ => .pointer (some ⟨addr i, 0, none⟩)
  | .store _ _ _ => undef
  | .same _ j => vals j
def OpK.isStore (ia : Nat) : OpK → Bool
  | .store i _ _ => i == ia
  | _ => false
/-- It hangs on these blocks alone. -/
def Dep (Bs : List Nat) (F : World → Prop) : Prop := ∀ w w' : World, (∀ k ∈ Bs, w'.heap[k]? = w.heap[k]?) → F w → F w'
def apartD (KL : List OpK) : Bool := (List.range KL.length).all fun i => (List.range KL.length).all fun j => i == j || ((KL[i]?).bind OpK.dst).isNone || ((KL[i]?).bind OpK.dst) != ((KL[j]?).bind OpK.dst)
def onlyStore (KL : List OpK) (ia i : Nat) : Bool := (List.range KL.length).all fun j => !(((KL[j]?).map (OpK.isStore ia)).getD false) || j == i
theorem len_of {α : Type} {l : List α} {i : Nat} {x : α} (h : l[i]? = some x) : i < l.length := (List.getElem?_eq_some_iff.1 h).1
theorem apartD_spec {KL : List OpK} (h : apartD KL = true) {i j : Nat} {k k' : OpK} {d : Nat} (hi : KL[i]? = some k) (hj : KL[j]? = some k') (di : k.dst = some d) (dj : k'.dst = some d) : i = j := by
  unfold apartD at h
  rw [List.all_eq_true] at h
  have h1 := h i (List.mem_range.2 (len_of hi))
  rw [List.all_eq_true] at h1
  have h2 := h1 j (List.mem_range.2 (len_of hj))
  rw [hi, hj] at h2
  simpa [di, dj] using h2
theorem onlyStore_spec {KL : List OpK} {ia i : Nat} (h : onlyStore KL ia i = true) {j ic : Nat} {fl : Value → Array Value} (hj : KL[j]? = some (.store ia ic fl)) : j = i := by
  unfold onlyStore at h
  rw [List.all_eq_true] at h
  have h1 := h j (List.mem_range.2 (len_of hj))
  rw [hj] at h1
  simpa [OpK.isStore] using h1

/-- What is known of the operations that one waits for. -/
def KnJ (a : Act) (w : World) : OpK → Prop
  | .pure d v => a.tmps[d]? = some v
  | .call d G => ∃ v, a.tmps[d]? = some v ∧ G v w
  | .alloc d _ _ => ∃ A, a.tmps[d]? = some (.pointer (some ⟨A, 0, none⟩))
  | .store _ _ _ => True
  | .same d _ => ∃ v, a.tmps[d]? = some v
def Kn (KL : List OpK) (aft : Array Edge) (a : Act) (w : World) : Prop := ∀ j k, waits aft j = true → KL[j]? = some k → KnJ a w k
theorem Kn.pure {KL : List OpK} {aft : Array Edge} {a : Act} {w : World} (h : Kn KL aft a w) (j : Nat) (d : Nat) (v : Value) (hw : waits aft j = true) (hk : KL[j]? = some (.pure d v)) : a.tmps[d]? = some v := h j _ hw hk
theorem Kn.call {KL : List OpK} {aft : Array Edge} {a : Act} {w : World} (h : Kn KL aft a w) (j : Nat) (d : Nat) (G : Value → World → Prop) (hw : waits aft j = true) (hk : KL[j]? = some (.call d G)) : ∃ v, a.tmps[d]? = some v ∧ G v w := h j _ hw hk

/-- What each operation must do. -/
def OpOK (ops : Array Oper) (Q : Exit → Act → World → Prop) (KL : List OpK) (a0 : Act) (S : World → Prop) (H : Nat) (i : Nat) (aft : Array Edge) : OpK → Prop
  | .pure d v => ∀ (a : Act) (w : World) (K : Act → World → Prop), Sl (KL.filterMap OpK.dst) a0 a → Kn KL aft a w → S w → K (a.put (some d) v) w → wpOp Try.prog ops Q i K a w
  | .call d G => ∀ (a : Act) (w : World) (K : Act → World → Prop), Sl (KL.filterMap OpK.dst) a0 a → Kn KL aft a w → S w → H ≤ w.heap.size → (∀ v w' Bs, Kp w w' → (∀ k ∈ Bs, w.heap.size ≤ k ∧ k < w'.heap.size) → Dep Bs (G v) → G v w' → K (a.put (some d) v) w') → wpOp Try.prog ops Q i K a w
  | .alloc d cs T => ∀ (a : Act) (w : World) (K : Act → World → Prop), K (a.put (some d) (.pointer (some ⟨w.heap.size, 0, none⟩))) (w.alloc (.cells cs T)) → wpOp Try.prog ops Q i K a w
  | .store ia ic fl => ∃ da cs T dc G, KL[ia]? = some (.alloc da cs T) ∧ KL[ic]? = some (.call dc G) ∧ waits aft ia = true ∧ waits aft ic = true ∧ onlyStore KL ia i = true ∧
      ∀ (a : Act) (w : World) (K : Act → World → Prop) A v, a.tmps[da]? = some (.pointer (some ⟨A, 0, none⟩)) → a.tmps[dc]? = some v → G v w → Blk A cs T w → (∀ w', Mk A w w' → Blk A (fl v) T w' → K a w') → wpOp Try.prog ops Q i K a w
  | .same d j => ∃ dj G, KL[j]? = some (.call dj G) ∧ waits aft j = true ∧ ∀ (a : Act) (w : World) (K : Act → World → Prop) v, a.tmps[dj]? = some v → K (a.put (some d) v) w → wpOp Try.prog ops Q i K a w

/-- What is known of an operation that has come up. -/
def Item (KL : List OpK) (listed : Array Bool) (vals : Nat → Value) (addr : Nat → Nat) (gs : Nat → List Nat) (H : Nat) (a : Act) (w : World) (i : Nat) : OpK → Prop
  | .pure d v => a.tmps[d]? = some v
  | .call d G => a.tmps[d]? = some (vals i) ∧ G (vals i) w ∧ Dep (gs i) (G (vals i)) ∧ ∀ k ∈ gs i, k < w.heap.size ∧ ∀ j d cs T, KL[j]? = some (.alloc d cs T) → listed.getD j false = true → addr j ≠ k
  | .alloc d cs T => a.tmps[d]? = some (.pointer (some ⟨addr i, 0, none⟩)) ∧ H ≤ addr i ∧ addr i < w.heap.size ∧ (∀ j d cs T, j ≠ i → KL[j]? = some (.alloc d cs T) → listed.getD j false = true → addr j ≠ addr i) ∧ ((∀ s ic fl, KL[s]? = some (.store i ic fl) → listed.getD s false = false) → Blk (addr i) cs T w)
  | .store ia ic fl => ∀ d cs T, KL[ia]? = some (.alloc d cs T) → listed.getD ia false = true ∧ listed.getD ic false = true ∧ Blk (addr ia) (fl (vals ic)) T w
  | .same d j => a.tmps[d]? = some (vals j) ∧ listed.getD j false = true
/-- What is known in the end. -/
def FinI (KL : List OpK) (vals : Nat → Value) (addr : Nat → Nat) (H : Nat) (w : World) (i : Nat) : OpK → Prop
  | .pure d v => True
  | .call d G => G (vals i) w
  | .alloc d cs T => H ≤ addr i ∧ addr i < w.heap.size
  | .store ia ic fl => ∀ d cs T, KL[ia]? = some (.alloc d cs T) → Blk (addr ia) (fl (vals ic)) T w
  | .same _ _ => True
def putsL (vals : Nat → Value) (addr : Nat → Nat) : Nat → List OpK → List (Nat × Value)
  | _, [] => []
  | i, k :: ks => match k.dst with
    | some d => (d, k.val vals addr i) :: putsL vals addr (i + 1) ks
    | none => putsL vals addr (i + 1) ks
theorem putsL_mem {vals : Nat → Value} {addr : Nat → Nat} : ∀ {i0 : Nat} {ks : List OpK} {p : Nat × Value}, p ∈ putsL vals addr i0 ks → ∃ (i : Nat) (k : OpK), ks[i]? = some k ∧ k.dst = some p.1 ∧ p.2 = k.val vals addr (i0 + i)
  | _, [], _, h => by cases h
  | i0, k :: ks, p, h => by
    unfold putsL at h
    cases hd : k.dst with
    | none =>
      rw [hd] at h
      obtain ⟨i, k', h1, h2, h3⟩ := putsL_mem h
      exact ⟨i + 1, k', by rw [List.getElem?_cons_succ]; exact h1, h2, by rw [h3, Nat.add_assoc, Nat.add_comm 1 i]⟩
    | some d =>
      rw [hd] at h
      rcases List.mem_cons.1 h with rfl | h
      · exact ⟨0, k, rfl, hd, rfl⟩
      · obtain ⟨i, k', h1, h2, h3⟩ := putsL_mem h
        exact ⟨i + 1, k', by rw [List.getElem?_cons_succ]; exact h1, h2, by rw [h3, Nat.add_assoc, Nat.add_comm 1 i]⟩
theorem putsL_fst {vals : Nat → Value} {addr : Nat → Nat} : ∀ (i0 : Nat) (ks : List OpK), (putsL vals addr i0 ks).map Prod.fst = ks.filterMap OpK.dst
  | _, [] => rfl
  | i0, k :: ks => by
    unfold putsL
    cases hd : k.dst with
    | none => simp [hd, putsL_fst (i0 + 1) ks]
    | some d => simp [hd, putsL_fst (i0 + 1) ks]
theorem fold_put : ∀ (l : List (Nat × Value)) (t : Array Value), (∀ p ∈ l, p.1 < t.size) → (∀ p ∈ l, ∀ q ∈ l, p.1 = q.1 → p.2 = q.2) → ∀ k, (l.foldl (fun t p => t.setIfInBounds p.1 p.2) t)[k]? = t[k]? ∧ k ∉ l.map Prod.fst ∨ ∃ p ∈ l, p.1 = k ∧ (l.foldl (fun t p => t.setIfInBounds p.1 p.2) t)[k]? = some p.2
  | [], t, _, _, k => Or.inl ⟨rfl, by simp⟩
  | p :: l, t, hs, hf, k => by
    rcases fold_put l (t.setIfInBounds p.1 p.2) (fun q hq => by rw [Array.size_setIfInBounds]; exact hs q (List.mem_cons_of_mem _ hq)) (fun q hq r hr => hf q (List.mem_cons_of_mem _ hq) r (List.mem_cons_of_mem _ hr)) k with ⟨h1, h2⟩ | ⟨q, hq, e, h⟩
    · by_cases hk : p.1 = k
      · refine Or.inr ⟨p, List.mem_cons_self, hk, ?_⟩
        show (l.foldl _ (t.setIfInBounds p.1 p.2))[k]? = _
        rw [h1, ← hk, Array.getElem?_setIfInBounds_self_of_lt (hs p List.mem_cons_self)]
      · refine Or.inl ⟨?_, ?_⟩
        · show (l.foldl _ (t.setIfInBounds p.1 p.2))[k]? = _
          rw [h1, Array.getElem?_setIfInBounds_ne hk]
        · simp only [List.map_cons, List.mem_cons, not_or]
          exact ⟨fun e => hk e.symm, h2⟩
    · exact Or.inr ⟨q, List.mem_cons_of_mem _ hq, e, h⟩

theorem count_set : ∀ (l : List Bool) (i : Nat), l[i]? = some false → (l.set i true).count false + 1 = l.count false
  | [], _, h => by simp at h
  | b :: l, 0, h => by
    simp at h
    subst h
    simp
  | b :: l, i + 1, h => by
    have ih := count_set l i (by simpa using h)
    cases b <;> simp [List.count_cons] <;> omega
theorem count_zero {l : List Bool} (h : l.count false = 0) {i : Nat} {b : Bool} (hi : l[i]? = some b) : b = true := by
  cases b with
  | true => rfl
  | false => exact absurd (List.mem_of_getElem? hi) (List.count_eq_zero.1 h)
theorem getD_ne {l : Array Bool} {i j : Nat} {b : Bool} (h : i ≠ j) : (l.setIfInBounds i true).getD j b = l.getD j b := by
  rw [Array.getD_eq_getD_getElem?, Array.getD_eq_getD_getElem?, Array.getElem?_setIfInBounds_ne h]

def JM (KL : List OpK) (a0 : Act) (S : World → Prop) (H : Nat) (n : Nat) (listed : Array Bool) (a : Act) (w : World) : Prop :=
  listed.size = KL.length ∧ n = listed.toList.count false ∧ Sl (KL.filterMap OpK.dst) a0 a ∧ S w ∧ H ≤ w.heap.size ∧ ∃ vals addr gs, ∀ i k, KL[i]? = some k → listed.getD i false = true → Item KL listed vals addr gs H a w i k

theorem mem_dst {KL : List OpK} {i d : Nat} {k : OpK} (h : KL[i]? = some k) (hd : k.dst = some d) : d ∈ KL.filterMap OpK.dst := List.mem_filterMap.2 ⟨k, List.mem_of_getElem? h, hd⟩
theorem Item.kn {KL : List OpK} {listed : Array Bool} {vals : Nat → Value} {addr : Nat → Nat} {gs : Nat → List Nat} {H : Nat} {a : Act} {w : World} {i : Nat} {k : OpK} (h : Item KL listed vals addr gs H a w i k) : KnJ a w k := by
  cases k with
  | pure d v => exact h
  | call d G => exact ⟨_, h.1, h.2.1⟩
  | alloc d cs T => exact ⟨_, h.1⟩
  | store ia ic fl => trivial
  | same d j => exact ⟨_, h.1⟩

/-- The world has grown: what is known of the others stays. -/
theorem Item.grow {KL : List OpK} {listed : Array Bool} {vals : Nat → Value} {addr : Nat → Nat} {gs : Nat → List Nat} {H : Nat} {a : Act} {w w' : World} {i j d : Nat} {k : OpK} {v : Value} {vals' : Nat → Value} {addr' : Nat → Nat} {gs' : Nat → List Nat} {ki : OpK} (hd : apartD KL = true)
    (hi : KL[i]? = some ki) (hdi : ki.dst = some d) (hl : listed.getD i true = false) (kk : Kp w w')
    (ev : ∀ x, x ≠ i → vals' x = vals x) (ea : ∀ x, x ≠ i → addr' x = addr x) (eg : ∀ x, x ≠ i → gs' x = gs x) (ei : ∀ d cs T, ki = .alloc d cs T → w.heap.size ≤ addr' i)
    (hj : KL[j]? = some k) (hji : j ≠ i) (hlj : listed.getD j false = true) (h : Item KL listed vals addr gs H a w j k) :
    Item KL (listed.setIfInBounds i true) vals' addr' gs' H (a.put (some d) v) w' j k := by
  have ne : ∀ d', k.dst = some d' → d ≠ d' := fun d' e e' => hji (apartD_spec hd hj hi e (by rw [hdi, e']))
  have li : listed.getD i false = false := by
    cases hx : listed.getD i false with
    | false => rfl
    | true =>
      rw [Array.getD_eq_getD_getElem?] at hx hl
      cases he : listed[i]? with
      | none => rw [he] at hx; cases hx
      | some b => rw [he] at hx hl; simp at hx hl; rw [hx] at hl; cases hl
  cases k with
  | pure d' v' => exact (put_ne (ne d' rfl)).trans h
  | call d' G =>
    obtain ⟨h1, h2, h3, h4⟩ := h
    show _ ∧ _ ∧ _ ∧ _
    rw [ev j hji, eg j hji]
    refine ⟨(put_ne (ne d' rfl)).trans h1, h3 w w' (fun x hx => kk.2.2.1 x (h4 x hx).1) h2, h3, fun x hx => ⟨Nat.lt_of_lt_of_le (h4 x hx).1 kk.2.2.2, fun m d1 cs T hm hml => ?_⟩⟩
    by_cases hmi : m = i
    · subst hmi
      rw [hi] at hm
      have := ei d1 cs T (Option.some.inj hm)
      have := (h4 x hx).1
      omega
    · rw [ea m hmi]
      exact (h4 x hx).2 m d1 cs T hm (by rwa [getD_ne (Ne.symm hmi)] at hml)
  | alloc d' cs T =>
    obtain ⟨h1, h2, h3, h4, h5⟩ := h
    show _ ∧ _ ∧ _ ∧ _ ∧ _
    rw [ea j hji]
    refine ⟨(put_ne (ne d' rfl)).trans h1, h2, Nat.lt_of_lt_of_le h3 kk.2.2.2, fun m d1 cs1 T1 hmj hm hml => ?_, fun hs => Blk.kp (h5 fun s ic fl hs1 => ?_) kk⟩
    · by_cases hmi : m = i
      · subst hmi
        rw [hi] at hm
        have := ei d1 cs1 T1 (Option.some.inj hm)
        omega
      · rw [ea m hmi]
        exact h4 m d1 cs1 T1 hmj hm (by rwa [getD_ne (Ne.symm hmi)] at hml)
    · by_cases hsi : s = i
      · subst hsi; exact li
      · have := hs s ic fl hs1
        rwa [getD_ne (Ne.symm hsi)] at this
  | store ia ic fl =>
    intro d1 cs T ha
    obtain ⟨h1, h2, h3⟩ := h d1 cs T ha
    have na : ia ≠ i := fun e => by rw [e, li] at h1; cases h1
    have nc : ic ≠ i := fun e => by rw [e, li] at h2; cases h2
    rw [getD_ne (Ne.symm na), getD_ne (Ne.symm nc), ea ia na, ev ic nc]
    exact ⟨h1, h2, Blk.kp h3 kk⟩
  | same d' m =>
    obtain ⟨h1, h2⟩ := h
    have nm : m ≠ i := fun e => by rw [e, li] at h2; cases h2
    show _ ∧ _
    rw [ev m nm, getD_ne (Ne.symm nm)]
    exact ⟨(put_ne (ne d' rfl)).trans h1, h2⟩

/-- A fresh block is filled: what is known of the others stays. -/
theorem Item.fill {KL : List OpK} {listed : Array Bool} {vals : Nat → Value} {addr : Nat → Nat} {gs : Nat → List Nat} {H : Nat} {a : Act} {w w' : World} {i j ia ic : Nat} {fl : Value → Array Value} {k : OpK}
    (hi : KL[i]? = some (.store ia ic fl)) (ho : onlyStore KL ia i = true) {da : Nat} {cs : Array Value} {T : TypeId} (hia : KL[ia]? = some (.alloc da cs T)) (hla : listed.getD ia false = true) (hisz : i < listed.size) (kk : Mk (addr ia) w w')
    (hst : ∀ (j ia' ic' : Nat) (fl' : Value → Array Value), KL[j]? = some (OpK.store ia' ic' fl') → ∃ (da : Nat) (cs : Array Value) (T : TypeId), KL[ia']? = some (OpK.alloc da cs T)) (hA : Item KL listed vals addr gs H a w ia (.alloc da cs T))
    (hj : KL[j]? = some k) (hji : j ≠ i) (h : Item KL listed vals addr gs H a w j k) :
    Item KL (listed.setIfInBounds i true) vals addr gs H a w' j k := by
  have nia : ∀ m d1 cs1 T1, KL[m]? = some (.alloc d1 cs1 T1) → i ≠ m := fun m d1 cs1 T1 hm e => by rw [← e, hi] at hm; cases hm
  cases k with
  | pure d' v' => exact h
  | call d' G =>
    obtain ⟨h1, h2, h3, h4⟩ := h
    refine ⟨h1, h3 w w' (fun x hx => kk.2.2.1 x (h4 x hx).1 (Ne.symm ((h4 x hx).2 ia _ _ _ hia hla))) h2, h3, fun x hx => ⟨Nat.lt_of_lt_of_le (h4 x hx).1 kk.2.2.2, fun m d1 cs T hm hml => ?_⟩⟩
    exact (h4 x hx).2 m d1 cs T hm (by rwa [getD_ne (nia _ _ _ _ hm)] at hml)
  | alloc d' cs' T' =>
    obtain ⟨h1, h2, h3, h4, h5⟩ := h
    refine ⟨h1, h2, Nat.lt_of_lt_of_le h3 kk.2.2.2, fun m d1 cs1 T1 hmj hm hml => h4 m d1 cs1 T1 hmj hm (by rwa [getD_ne (nia _ _ _ _ hm)] at hml), fun hs => ?_⟩
    by_cases hja : j = ia
    · subst hja
      have := hs i ic fl hi
      rw [Array.getD_eq_getD_getElem?, Array.getElem?_setIfInBounds_self_of_lt hisz] at this
      cases this
    · refine Blk.mk (h5 fun s ic' fl' hs1 => ?_) kk (fun e => h4 ia _ _ _ (Ne.symm hja) hia hla e.symm)
      have := hs s ic' fl' hs1
      by_cases hsi : s = i
      · subst hsi
        rw [hi] at hs1
        cases hs1
        exact absurd rfl hja
      · rwa [getD_ne (Ne.symm hsi)] at this
  | store ia' ic' fl' =>
    intro d1 cs1 T1 ha
    obtain ⟨h1, h2, h3⟩ := h d1 cs1 T1 ha
    have na : ia' ≠ ia := fun e => by
      subst e
      exact hji (onlyStore_spec ho hj)
    refine ⟨by rwa [getD_ne (nia _ _ _ _ ha)], ?_, Blk.mk h3 kk (hA.2.2.2.1 ia' _ _ _ na ha h1)⟩
    by_cases hc : i = ic'
    · subst hc
      rw [Array.getD_eq_getD_getElem?, Array.getElem?_setIfInBounds_self_of_lt hisz]
      rfl
    · rwa [getD_ne hc]
  | same d' m =>
    obtain ⟨h1, h2⟩ := h
    refine ⟨h1, ?_⟩
    by_cases hc : i = m
    · subst hc
      rw [Array.getD_eq_getD_getElem?, Array.getElem?_setIfInBounds_self_of_lt hisz]
      rfl
    · rwa [getD_ne hc]

theorem getD_false {l : Array Bool} {i : Nat} (h : l.getD i true = false) : i < l.size ∧ l[i]? = some false := by
  rw [Array.getD_eq_getD_getElem?] at h
  cases he : l[i]? with
  | none => rw [he] at h; cases h
  | some b =>
    rw [he] at h
    simp at h
    subst h
    exact ⟨(Array.getElem?_eq_some_iff.1 he).1, rfl⟩
theorem listed_cases {l : Array Bool} {i j : Nat} (h : (l.setIfInBounds i true).getD j false = true) : j = i ∨ l.getD j false = true := by
  by_cases hj : i = j
  · exact Or.inl hj.symm
  · rw [getD_ne hj] at h
    exact Or.inr h

set_option maxHeartbeats 1000000 in
theorem regM {ops : Array Oper} {Q : Exit → Act → World → Prop} {id : Nat} {a0 : Act} {w : World} (KL : List OpK) (S : World → Prop)
    (hm : Try.prog.follows .mixedOrders = true) (hs : ops.size = KL.length) (hbk : backs ops = true) (hd : apartD KL = true) (hz : ∀ d ∈ KL.filterMap OpK.dst, d < a0.tmps.size)
    (hst : ∀ (j ia' ic' : Nat) (fl' : Value → Array Value), KL[j]? = some (OpK.store ia' ic' fl') → ∃ (da : Nat) (cs : Array Value) (T : TypeId), KL[ia']? = some (OpK.alloc da cs T))
    (hop : ∀ i o k, ops[i]? = some o → KL[i]? = some k → OpOK ops Q KL a0 S w.heap.size i o.after k)
    (hS : S w.drew) (hSk : ∀ a b, Kp a b → S a → S b) (hSm : ∀ A a b, w.heap.size ≤ A → Mk A a b → S a → S b)
    (fin : ∀ (vals : Nat → Value) (addr : Nat → Nat) (w' : World), S w' → w.heap.size ≤ w'.heap.size → (∀ i k, KL[i]? = some k → FinI KL vals addr w.heap.size w' i k) →
      Q .normal ⟨(putsL vals addr 0 KL).foldl (fun t p => t.setIfInBounds p.1 p.2) a0.tmps, a0.defers⟩ w') :
    (Code.region id ops true).wp Try.prog Q a0 w := by
  refine wp_region_any hm ?_
  refine wpAny_inv (JM KL a0 S w.heap.size) ?_ ?_ ops.size _ _ _ ?_
  · rintro listed a w1 ⟨j1, j2, sl, hx, hH, vals, addr, gs, it⟩
    have all : ∀ i k, KL[i]? = some k → listed.getD i false = true := fun i k hk => by
      have hi : i < listed.size := by rw [j1]; exact len_of hk
      have e : listed.toList[i]? = some listed[i] := by simp [hi]
      rw [Array.getD_eq_getD_getElem?, Array.getElem?_eq_getElem hi]
      exact count_zero j2.symm e
    refine ⟨?_, ?_⟩
    · apply List.eq_nil_iff_forall_not_mem.2
      intro i hi
      obtain ⟨h1, h2, _⟩ := ready_mem hi
      obtain ⟨hi', h3⟩ := getD_false h2
      have h4 := all i KL[i] (by rw [List.getElem?_eq_getElem])
      rw [Array.getD_eq_getD_getElem?, h3] at h4
      cases h4
    · have ea : a = ⟨(putsL vals addr 0 KL).foldl (fun t p => t.setIfInBounds p.1 p.2) a0.tmps, a0.defers⟩ := by
        obtain ⟨t, df⟩ := a
        obtain ⟨s1, s2, s3⟩ := sl
        have ed : df = a0.defers := s1
        subst ed
        congr 1
        apply Array.ext_getElem?
        intro x
        rcases fold_put (putsL vals addr 0 KL) a0.tmps (fun p hp => hz _ (by rw [← putsL_fst (vals := vals) (addr := addr) 0 KL]; exact List.mem_map_of_mem hp)) (fun p hp q hq e => by
          obtain ⟨i, k, h1, h2, h3⟩ := putsL_mem hp
          obtain ⟨i', k', h1', h2', h3'⟩ := putsL_mem hq
          obtain rfl := apartD_spec hd h1 h1' h2 (by rw [h2', e])
          rw [h1] at h1'
          cases h1'
          rw [h3, h3']) x with ⟨h1, h2⟩ | ⟨p, hp, rfl, h⟩
        · rw [h1]
          rw [putsL_fst] at h2
          exact s3 x h2
        · rw [h]
          obtain ⟨i, k, h1, h2, h3⟩ := putsL_mem hp
          have I := it i k h1 (all i k h1)
          rw [h3, Nat.zero_add]
          cases k with
          | pure d v => cases h2; exact I
          | call d G => cases h2; exact I.1
          | alloc d cs T => cases h2; exact I.1
          | store ia ic fl => cases h2
          | same d j => cases h2; exact I.1
      rw [ea]
      refine fin vals addr w1 hx hH fun i k hk => ?_
      have I := it i k hk (all i k hk)
      cases k with
      | pure d v => trivial
      | call d G => exact I.2.1
      | alloc d cs T => exact ⟨I.2.1, I.2.2.1⟩
      | store ia ic fl => exact fun d cs T ha => (I d cs T ha).2.2
      | same d j => trivial
  · rintro n listed a w1 ⟨j1, j2, sl, hx, hH, vals, addr, gs, it⟩
    refine ⟨?_, fun i hi => ?_⟩
    · have : ∃ i : Nat, listed.toList[i]? = some false := by
        have : false ∈ listed.toList := List.count_pos_iff.1 (by omega)
        exact List.mem_iff_getElem?.1 this
      obtain ⟨i, hi⟩ := this
      have hi' : listed[i]? = some false := by simpa using hi
      have hlt := (Array.getElem?_eq_some_iff.1 hi').1
      exact ready_ne hbk (by rw [hs, j1]) i i (Nat.le_refl _) (by omega) (by rw [Array.getD_eq_getD_getElem?, hi']; rfl)
    · obtain ⟨hi1, hl, hwt⟩ := ready_mem hi
      obtain ⟨hisz, hlf⟩ := getD_false hl
      obtain ⟨o, ho⟩ : ∃ o, ops[i]? = some o := ⟨ops[i], by simp [hi1]⟩
      obtain ⟨k, hk⟩ : ∃ k, KL[i]? = some k := ⟨KL[i], by rw [List.getElem?_eq_getElem]⟩
      have hok := hop i o k ho hk
      have kn : Kn KL o.after a w1 := fun j kj hw hkj => (it j kj hkj (ready_waits hi ho hw)).kn
      have hcount : n = (listed.setIfInBounds i true).toList.count false := by
        have := count_set listed.toList i (by simpa using hlf)
        rw [Array.toList_setIfInBounds]
        omega
      have hsz' : (listed.setIfInBounds i true).size = KL.length := by rw [Array.size_setIfInBounds, j1]
      have lnot : ∀ j, listed.getD j false = true → j ≠ i := fun j hj e => by
        subst e
        rw [Array.getD_eq_getD_getElem?, hlf] at hj
        cases hj
      cases k with
      | pure d v =>
        refine hok a w1 _ sl kn hx ⟨hsz', hcount, sl.put _ _ (mem_dst hk rfl), hx, hH, vals, addr, gs, fun j kj hkj hlj => ?_⟩
        by_cases hji : j = i
        · subst hji
          rw [hk] at hkj
          cases hkj
          exact put_same (by rw [sl.2.1]; exact hz _ (mem_dst hk rfl))
        · have hlj' := (listed_cases hlj).resolve_left hji
          exact (it j kj hkj hlj').grow hd hk rfl hl (Kp.refl _) (fun _ _ => rfl) (fun _ _ => rfl) (fun _ _ => rfl) (fun _ _ _ e => by cases e) hkj hji hlj'
      | call d G =>
        refine hok a w1 _ sl kn hx hH fun v w2 Bs kk hB hdep hG => ⟨hsz', hcount, sl.put _ _ (mem_dst hk rfl), hSk _ _ kk hx, Nat.le_trans hH kk.2.2.2, fun x => if x = i then v else vals x, addr, fun x => if x = i then Bs else gs x, fun j kj hkj hlj => ?_⟩
        by_cases hji : j = i
        · subst hji
          rw [hk] at hkj
          cases hkj
          show _ ∧ _ ∧ _ ∧ _
          simp only [if_pos]
          refine ⟨put_same (by rw [sl.2.1]; exact hz _ (mem_dst hk rfl)), hG, hdep, fun x hx => ⟨(hB x hx).2, fun m d1 cs T hm hml => ?_⟩⟩
          have hmi : m ≠ j := fun e => by subst e; rw [hk] at hm; cases hm
          have hml' := (listed_cases hml).resolve_left hmi
          have := (it m _ hm hml').2.2.1
          have := (hB x hx).1
          omega
        · have hlj' := (listed_cases hlj).resolve_left hji
          exact (it j kj hkj hlj').grow hd hk rfl hl kk (fun x hx => if_neg hx) (fun _ _ => rfl) (fun x hx => if_neg hx) (fun _ _ _ e => by cases e) hkj hji hlj'
      | alloc d cs T =>
        have kk : Kp w1 (w1.alloc (.cells cs T)) := (Kp.refl _).alloc _ _
        refine hok a w1 _ ⟨hsz', hcount, sl.put _ _ (mem_dst hk rfl), hSk _ _ kk hx, Nat.le_trans hH kk.2.2.2, vals, fun x => if x = i then w1.heap.size else addr x, gs, fun j kj hkj hlj => ?_⟩
        by_cases hji : j = i
        · subst hji
          rw [hk] at hkj
          cases hkj
          show _ ∧ _ ∧ _ ∧ _ ∧ _
          simp only [if_pos]
          refine ⟨put_same (by rw [sl.2.1]; exact hz _ (mem_dst hk rfl)), hH, by simp, fun m d1 cs1 T1 hmj hm hml => ?_, fun _ => Blk.new w1 _ _⟩
          rw [if_neg hmj]
          have := (it m _ hm ((listed_cases hml).resolve_left hmj)).2.2.1
          omega
        · have hlj' := (listed_cases hlj).resolve_left hji
          exact (it j kj hkj hlj').grow hd hk rfl hl kk (fun _ _ => rfl) (fun x hx => if_neg hx) (fun _ _ => rfl) (fun _ _ _ e => by rw [if_pos rfl]; exact Nat.le_refl _) hkj hji hlj'
      | store ia ic fl =>
        obtain ⟨da, cs, T, dc, G, h1, h2, w1', w2', h5, h6⟩ := hok
        have la := ready_waits hi ho w1'
        have lc := ready_waits hi ho w2'
        have Ia := it ia _ h1 la
        have Ic := it ic _ h2 lc
        refine h6 a w1 _ (addr ia) (vals ic) Ia.1 Ic.1 Ic.2.1 (Ia.2.2.2.2 fun s ic' fl' hs1 => ?_) fun w2 mk bl => ⟨hsz', hcount, sl, hSm _ _ _ Ia.2.1 mk hx, Nat.le_trans hH mk.2.2.2, vals, addr, gs, fun j kj hkj hlj => ?_⟩
        · obtain rfl := onlyStore_spec h5 hs1
          rw [Array.getD_eq_getD_getElem?, hlf]; rfl
        · by_cases hji : j = i
          · subst hji
            rw [hk] at hkj
            cases hkj
            intro d1 cs1 T1 ha
            rw [h1] at ha
            cases ha
            exact ⟨by rw [getD_ne (Ne.symm (lnot _ la))]; exact la, by rw [getD_ne (Ne.symm (lnot _ lc))]; exact lc, bl⟩
          · have hlj' := (listed_cases hlj).resolve_left hji
            exact Item.fill hk h5 h1 la hisz mk hst Ia hkj hji (it j kj hkj hlj')
      | same d m =>
        obtain ⟨dm, G, h1, w1', h6⟩ := hok
        have lm := ready_waits hi ho w1'
        have Im := it m _ h1 lm
        refine h6 a w1 _ (vals m) Im.1 ⟨hsz', hcount, sl.put _ _ (mem_dst hk rfl), hx, hH, vals, addr, gs, fun j kj hkj hlj => ?_⟩
        by_cases hji : j = i
        · subst hji
          rw [hk] at hkj
          cases hkj
          exact ⟨put_same (by rw [sl.2.1]; exact hz _ (mem_dst hk rfl)), by rw [getD_ne (Ne.symm (lnot _ lm))]; exact lm⟩
        · have hlj' := (listed_cases hlj).resolve_left hji
          exact (it j kj hkj hlj').grow hd hk rfl hl (Kp.refl _) (fun _ _ => rfl) (fun _ _ => rfl) (fun _ _ => rfl) (fun _ _ _ e => by cases e) hkj hji hlj'
  · refine ⟨by rw [Array.size_replicate, hs], by simp, Sl.refl _ _, hS, Nat.le_refl _, fun _ => undef, fun _ => 0, fun _ => [], fun i k hk hl => ?_⟩
    rw [Array.getD_eq_getD_getElem?] at hl
    by_cases hi : i < ops.size
    · simp [hi] at hl
    · simp [hi] at hl

end Go.Proofs.Ytgahdjfkmpadoaa

/- 'x, y := CopyMat(..), ..': the kinds of operations that such regions hold (RegM), and what stays beside them. -/
namespace Go.Proofs.Ytgahdjfkmpadoaa
open Go.RowKit Go.Shelf Go.Proofs.Wd
set_option linter.unusedVariables false
set_option linter.unusedSimpArgs false

def aggOf : Value → Array Value
  | .agg cs => cs
  | _ => #[]
/-- A matrix that was made; it lies beside all below H. -/
def GM (r c : Int) (n : Nat) (Z : Nat → Int) (H : Nat) (v : Value) (w : World) : Prop := ∃ ao cap, v = .agg #[.int .i64 r, .int .i64 c, .slice ao n cap] ∧ n ≤ cap ∧ Row w ao n Z ∧ ∀ U, U < H → Off U n ao
/-- A list that was made. -/
def GI (n : Nat) (Z : Nat → Int) (H : Nat) (v : Value) (w : World) : Prop := ∃ ao cap, v = .slice ao n cap ∧ n ≤ cap ∧ Row w ao n Z ∧ ∀ U, U < H → Off U n ao
theorem row_dep {ao : Option Addr} {n : Nat} {Z : Nat → Int} {w w' : World} (row : Row w' ao n Z) (off : ∀ U, U < w.heap.size → Off U n ao) : ∃ Bs : List Nat, (∀ k ∈ Bs, w.heap.size ≤ k ∧ k < w'.heap.size) ∧ Dep Bs (fun wx => Row wx ao n Z) := by
  by_cases hn : n = 0
  · exact ⟨[], fun _ h => absurd h List.not_mem_nil, fun _ _ _ _ => Or.inl hn⟩
  · rcases row with h0 | ⟨b, o, rfl, hc⟩
    · exact absurd h0 hn
    · refine ⟨[b], fun k hk => ?_, fun w1 w2 he h => ?_⟩
      · rcases List.mem_singleton.1 hk with rfl
        refine ⟨Nat.le_of_not_lt fun hlt => off k hlt (by omega) _ rfl rfl, heap_gt (hc 0 (by omega))⟩
      · rcases h with h0 | ⟨b', o', e, hc'⟩
        · exact absurd h0 hn
        · cases e
          exact Or.inr ⟨b, o, rfl, fun i hi => (World.cell?_of_block (he b (by simp))).trans (hc' i hi)⟩
theorem copyM_dep {r c : Int} {n H : Nat} {Z : Nat → Int} {w w' : World} {e : Ending} (h : CopyM r c n Z w e w') (hH : H ≤ w.heap.size) : ∃ v Bs, e = .returned v ∧ Kp w w' ∧ (∀ k ∈ Bs, w.heap.size ≤ k ∧ k < w'.heap.size) ∧ Dep Bs (GM r c n Z H v) ∧ GM r c n Z H v w' := by
  obtain ⟨ao, cap, rfl, hc, row, off, kp⟩ := h
  obtain ⟨Bs, h1, h2⟩ := row_dep row off
  refine ⟨_, Bs, rfl, kp, h1, fun w1 w2 he hg => ?_, ao, cap, rfl, hc, row, fun U hU => off U (by omega)⟩
  obtain ⟨ao', cap', e, h3, h4, h5⟩ := hg
  cases e
  exact ⟨ao, cap, rfl, h3, h2 w1 w2 he h4, h5⟩
theorem copyQ_dep {n H : Nat} {Z : Nat → Int} {w w' : World} {e : Ending} (h : CopyQ n Z w e w') (hH : H ≤ w.heap.size) : ∃ v Bs, e = .returned v ∧ Kp w w' ∧ (∀ k ∈ Bs, w.heap.size ≤ k ∧ k < w'.heap.size) ∧ Dep Bs (GI n Z H v) ∧ GI n Z H v w' := by
  obtain ⟨ao, cap, rfl, hc, row, off, kp⟩ := h
  obtain ⟨Bs, h1, h2⟩ := row_dep row off
  refine ⟨_, Bs, rfl, kp, h1, fun w1 w2 he hg => ?_, ao, cap, rfl, hc, row, fun U hU => off U (by omega)⟩
  obtain ⟨ao', cap', e, h3, h4, h5⟩ := hg
  cases e
  exact ⟨ao, cap, rfl, h3, h2 w1 w2 he h4, h5⟩

section
variable {ops : Array Oper} {Q : Exit → Act → World → Prop} {KL : List OpK} {a0 : Act} {S : World → Prop} {H i d k j : Nat} {T : TypeId} {pos : String} {aft : Array Edge}
theorem okLoad {B : Nat} {v0 v1 v2 : Value} (hi : ops[i]? = some ⟨some d, .load 24 (.tmp k), T, pos, aft, none⟩) (hk : (KL.filterMap OpK.dst).contains k = false) (g : a0.tmps[k]? = some (.pointer (some ⟨B, 0, none⟩))) (hb : ∀ w, S w → Blk B #[v0, v1, v2] 24 w) : OpOK ops Q KL a0 S H i aft (.pure d (.agg #[v0, v1, v2])) :=
  fun a w K sl kn hs h => wpOp_load hi ((sl.2.2 k (by simpa using hk)).trans g) (hb w hs) h
theorem okMove {v : Value} (hi : ops[i]? = some ⟨some d, .move (.tmp k), T, pos, aft, none⟩) (hk : (KL.filterMap OpK.dst).contains k = false) (g : a0.tmps[k]? = some v) : OpOK ops Q KL a0 S H i aft (.pure d v) := by
  intro a w K sl kn hs h
  refine wpOp_of hi rfl ?_
  have ev := (sl.2.2 k (by simpa using hk)).trans g
  unfold Oper.wp
  simp [go_sem, ev]
  exact h
theorem okCall1 {f dj : Nat} {vj : Value} {T1 : TypeId} {G : Value → World → Prop} (hi : ops[i]? = some ⟨some d, .call ⟨.value (.func f), #[.tmp dj], #[T1]⟩, T, pos, aft, none⟩) (hj : KL[j]? = some (.pure dj vj)) (hw : waits aft j = true) (hf : ∀ w, Sem.run Try.prog (callFunc f #[vj]) w = .ok (.enter f #[vj]) w)
    (hc : ∀ w, S w → H ≤ w.heap.size → Calls Try.prog f #[vj] w fun e w' => ∃ v Bs, e = .returned v ∧ Kp w w' ∧ (∀ k ∈ Bs, w.heap.size ≤ k ∧ k < w'.heap.size) ∧ Dep Bs (G v) ∧ G v w') : OpOK ops Q KL a0 S H i aft (.call d G) := by
  intro a w K sl kn hs hH h
  refine wpOp_of hi rfl ?_
  have ev := kn.pure j dj vj hw hj
  unfold Oper.wp
  simp [go_sem, ev, hf]
  refine (hc w hs hH).mono ?_
  rintro e w' ⟨v, Bs, rfl, h1, h2, h3, h4⟩
  exact h v w' Bs h1 h2 h3 h4
theorem okAlloc (hi : ops[i]? = some ⟨some d, .alloc 24, T, pos, aft, none⟩) : OpOK ops Q KL a0 S H i aft (.alloc d #[.int .i64 0, .int .i64 0, .slice none 0 0] 24) :=
  fun a w K h => wpOp_alloc hi h
theorem okStore {da dc ia ic : Nat} {r c : Int} {n H' : Nat} {Z : Nat → Int} (hi : ops[i]? = some ⟨none, .store 24 (.tmp da) (.tmp dc), T, pos, aft, none⟩) (h1 : KL[ia]? = some (.alloc da #[.int .i64 0, .int .i64 0, .slice none 0 0] 24)) (h2 : KL[ic]? = some (.call dc (GM r c n Z H'))) (w1 : waits aft ia = true) (w2 : waits aft ic = true) (ho : onlyStore KL ia i = true) : OpOK ops Q KL a0 S H i aft (.store ia ic aggOf) := by
  refine ⟨_, _, _, _, _, h1, h2, w1, w2, ho, fun a w K A v ha hv hG hB h => ?_⟩
  obtain ⟨ao, cap, rfl, _⟩ := hG
  exact wpOp_store hi ha hv hB fun w' m b => h w' (Mk.of m) b
theorem okSame {dj : Nat} {G : Value → World → Prop} (hi : ops[i]? = some ⟨some d, .assign (.tmp dj), T, pos, aft, none⟩) (hj : KL[j]? = some (.call dj G)) (hw : waits aft j = true) : OpOK ops Q KL a0 S H i aft (.same d j) := by
  refine ⟨_, _, hj, hw, fun a w K v hv h => ?_⟩
  refine wpOp_of hi rfl ?_
  unfold Oper.wp
  simp [go_sem, hv]
  exact h
end

/-- Each operation of a region, one behind the other. -/
def OpsOK (ops : Array Oper) (Q : Exit → Act → World → Prop) (KL : List OpK) (a0 : Act) (S : World → Prop) (H : Nat) : Nat → List Oper → List OpK → Prop
  | _, [], _ => True
  | _, _ :: _, [] => False
  | i, o :: os, k :: ks => OpOK ops Q KL a0 S H i o.after k ∧ OpsOK ops Q KL a0 S H (i + 1) os ks
theorem OpsOK.hop {ops : Array Oper} {Q : Exit → Act → World → Prop} {KL : List OpK} {a0 : Act} {S : World → Prop} {H : Nat} : ∀ {i0 : Nat} {os : List Oper} {ks : List OpK}, OpsOK ops Q KL a0 S H i0 os ks → ∀ (i : Nat) (o : Oper) (k : OpK), os[i]? = some o → ks[i]? = some k → OpOK ops Q KL a0 S H (i0 + i) o.after k
  | _, [], _, _, i, o, k, ho, _ => by simp at ho
  | _, _ :: _, [], h, _, _, _, _, _ => h.elim
  | i0, o' :: os, k' :: ks, h, 0, o, k, ho, hk => by
    simp at ho hk
    subst ho hk
    exact h.1
  | i0, o' :: os, k' :: ks, h, i + 1, o, k, ho, hk => by
    have := OpsOK.hop h.2 i o k (by simpa using ho) (by simpa using hk)
    rwa [show i0 + (i + 1) = i0 + 1 + i from by omega]
theorem regN {ops : Array Oper} {Q : Exit → Act → World → Prop} {id : Nat} {a0 : Act} {w : World} (KL : List OpK) (S : World → Prop)
    (hm : Try.prog.follows .mixedOrders = true) (hs : ops.size = KL.length) (hbk : backs ops = true) (hd : apartD KL = true) (hz : (KL.filterMap OpK.dst).all (fun d => decide (d < a0.tmps.size)) = true)
    (hst : KL.all (fun k => match k with | .store ia _ _ => (match KL[ia]? with | some (.alloc _ _ _) => true | _ => false) | _ => true) = true)
    (hop : OpsOK ops Q KL a0 S w.heap.size 0 ops.toList KL)
    (hS : S w.drew) (hSk : ∀ a b, Kp a b → S a → S b) (hSm : ∀ A a b, w.heap.size ≤ A → Mk A a b → S a → S b)
    (fin : ∀ (vals : Nat → Value) (addr : Nat → Nat) (w' : World), S w' → w.heap.size ≤ w'.heap.size → (∀ i k, KL[i]? = some k → FinI KL vals addr w.heap.size w' i k) →
      Q .normal ⟨(putsL vals addr 0 KL).foldl (fun t p => t.setIfInBounds p.1 p.2) a0.tmps, a0.defers⟩ w') :
    (Code.region id ops true).wp Try.prog Q a0 w := by
  refine regM KL S hm hs hbk hd (fun d hd => by simpa using List.all_eq_true.1 hz d hd) (fun j ia ic fl hj => ?_) (fun i o k ho hk => ?_) hS hSk hSm fin
  · have h := List.all_eq_true.1 hst _ (List.mem_of_getElem? hj)
    simp only at h
    cases hk : KL[ia]? with
    | none => rw [hk] at h; cases h
    | some k =>
      rw [hk] at h
      cases k with
      | alloc d cs T => exact ⟨d, cs, T, rfl⟩
      | pure _ _ => cases h
      | call _ _ => cases h
      | store _ _ _ => cases h
      | same _ _ => cases h
  · have := hop.hop i o k (by simpa using ho) hk
    rwa [Nat.zero_add] at this

/-- What stays beside: boxes and lists, and X. -/
def SL (H : Nat) (w0 : World) (E : List Nat) (bx : List (Nat × Array Value)) (rows : List (Option Addr × Nat × (Nat → Int))) (X : World → Prop) (wx : World) : Prop :=
  LS w0 E bx rows wx ∧ X wx ∧ (∀ A, H ≤ A → OffR A bx rows) ∧ (∀ e ∈ E, e < H) ∧ w0.heap.size ≤ H
section
variable {w0 a b : World} {E : List Nat} {bx : List (Nat × Array Value)} {rows : List (Option Addr × Nat × (Nat → Int))} {X : World → Prop} {H A : Nat}
theorem LS.mkOff (h : LS w0 E bx rows a) (m : Mk A a b) (hw : w0.heap.size ≤ A) (f : OffR A bx rows) : LS w0 E bx rows b :=
  ⟨h.1.mk m hw, fun e he => ⟨(h.2.1 e he).1, Nat.lt_of_lt_of_le (h.2.1 e he).2 m.2.2.2⟩, fun x hx => ⟨Blk.mk (h.2.2.1 x hx).1 m (f.1 x hx), (h.2.2.1 x hx).2⟩, fun r hr => ⟨(h.2.2.2 r hr).1.mk m (f.2 r hr), (h.2.2.2 r hr).2⟩⟩
theorem SL.of (h : LS w0 E bx rows a) (hx : X a) : SL a.heap.size w0 E bx rows X a := ⟨h, hx, fun A hA => h.fresh hA, fun e he => (h.2.1 e he).2, h.1.2.2.2⟩
theorem SL.kp (hX : ∀ a b, Kp a b → X a → X b) (k : Kp a b) (h : SL H w0 E bx rows X a) : SL H w0 E bx rows X b := ⟨h.1.kp k, hX a b k h.2.1, h.2.2⟩
theorem SL.mk (hX : ∀ A a b, H ≤ A → Mk A a b → X a → X b) (hA : H ≤ A) (m : Mk A a b) (h : SL H w0 E bx rows X a) : SL H w0 E bx rows X b := ⟨h.1.mkOff m (Nat.le_trans h.2.2.2.2 hA) (h.2.2.1 A hA), hX A a b hA m h.2.1, h.2.2⟩
theorem LS.boxA {cs : Array Value} (h : LS w0 E bx rows a) (hb : Blk A cs 24 a) (hA : A ∉ E) : LS w0 E ((A, cs) :: bx) rows a :=
  ⟨h.1, h.2.1, fun x hx => by
    rcases List.mem_cons.1 hx with rfl | hx
    · exact ⟨hb, hA⟩
    · exact h.2.2.1 x hx, h.2.2.2⟩
end

end Go.Proofs.Ytgahdjfkmpadoaa

/- copy of a list's numbers into a new list. -/
namespace Go.Proofs.Ytgahdjfkmpadoaa
open Go.RowKit Go.Shelf Go.Proofs.Wd
set_option linter.unusedVariables false
set_option linter.unusedSimpArgs false

/-- The numbers of a list, as many as there are; 0 behind them. -/
def cpZ (X : Nat → Int) (xl : Nat) : Nat → Int := fun i => if i < xl then X i else 0
theorem cpZ_I64 (X : Nat → Int) (xl : Nat) (h : ∀ i, i < xl → I64 (X i)) (i : Nat) : I64 (cpZ X xl i) := by
  unfold cpZ
  split
  · exact h i (by assumption)
  · unfold I64; omega
theorem splice_cp (n m xl : Nat) (X : Nat → Int) (hm : m = Nat.min xl n) : splice (ints n (fun _ => 0)).toList 0 ((List.range m).map fun i => Value.int .i64 (X i)) = (ints n (cpZ X xl)).toList := by
  apply List.ext_getElem?
  intro i
  have E : ∀ (Z : Nat → Int), (ints n Z).toList[i]? = (ints n Z)[i]? := fun Z => by simp
  have hmn : m ≤ n := by rw [hm]; exact Nat.min_le_right _ _
  rw [E]
  unfold splice
  simp only [List.take_zero, List.nil_append, Nat.zero_add, List.length_map, List.length_range]
  by_cases h1 : i < m
  · rw [List.getElem?_append_left (by simpa using h1), List.getElem?_map, List.getElem?_range h1, ints_at n _ i (by omega)]
    have : i < xl := Nat.lt_of_lt_of_le h1 (by rw [hm]; exact Nat.min_le_left _ _)
    unfold cpZ
    rw [if_pos this]
    rfl
  · rw [List.getElem?_append_right (by simp; omega), List.getElem?_drop]
    simp only [List.length_map, List.length_range]
    rw [show m + (i - m) = i by omega, E]
    by_cases h3 : i < n
    · rw [ints_at n _ i h3, ints_at n _ i h3]
      have : ¬ i < xl := fun h => h1 (by rw [hm]; exact Nat.lt_min.2 ⟨h, h3⟩)
      unfold cpZ
      rw [if_neg this]
    · rw [ints_none n _ i h3, ints_none n _ i h3]
theorem run_copy_some (w : World) (ty : TypeId) (g n xl xc : Nat) (a : Addr) (X : Nat → Int) (hb : Blk g (ints n (fun _ => 0)) 3 w) (hx : ∀ j, j < xl → w.cell? (a.add j) = some (.int .i64 (X j))) :
    ∃ w' v, (Builtin.copy_ #[22, 22] ty #[.slice (some ⟨g, 0, none⟩) n n, .slice (some a) xl xc]).run Try.prog w = .ok (.int .i64 v) w' ∧ Blk g (ints n (cpZ X xl)) 3 w' ∧ Mod g w w' := by
  obtain ⟨m, hm⟩ : ∃ m, m = Nat.min xl n := ⟨_, rfl⟩
  have hmn : m ≤ n := by rw [hm]; exact Nat.min_le_right _ _
  have hmx : m ≤ xl := by rw [hm]; exact Nat.min_le_left _ _
  have hl : ((List.range m).map fun i => Value.int .i64 (X i)).length = m := by simp
  have := run_copy_row (P := Try.prog) w 22 22 ty 3 g 0 n n a xl xc (ints n (fun _ => 0)) 3 ((List.range m).map fun i => Value.int .i64 (X i)) Try.underlying22 infoSize hb (by rw [hl]; exact hm)
    (fun j v hv => by
      rw [List.getElem?_map] at hv
      by_cases hj : j < m
      · rw [List.getElem?_range hj] at hv
        simp at hv
        subst hv
        exact hx j (by omega)
      · rw [List.getElem?_eq_none (by simpa using hj)] at hv
        simp at hv)
    (by rw [hl, ints_size]; omega) (fun v hv => by
      obtain ⟨i, _, rfl⟩ := List.mem_map.1 hv
      rfl)
  refine ⟨_, _, this, ?_, Mod.setRow _ _ _⟩
  have e := splice_cp n m xl X hm
  unfold splice at e
  rw [hl] at e
  have e2 := setRow_heap w g (ints n (fun _ => 0)) ((ints n (fun _ => 0)).toList.take 0 ++ ((List.range m).map fun i => Value.int .i64 (X i)) ++ (ints n (fun _ => 0)).toList.drop (0 + m)).toArray 3 (0, 0) hb
  rw [hl]
  rw [List.append_assoc, e] at e2
  rw [List.append_assoc, e]
  exact e2
theorem run_copy_none (w : World) (ty : TypeId) (g n : Nat) (X : Nat → Int) (hb : Blk g (ints n (fun _ => 0)) 3 w) :
    ∃ w' v, (Builtin.copy_ #[22, 22] ty #[.slice (some ⟨g, 0, none⟩) n n, .slice none 0 0]).run Try.prog w = .ok (.int .i64 v) w' ∧ Blk g (ints n (cpZ X 0)) 3 w' ∧ Mod g w w' := by
  refine ⟨w, 0, ?_, ?_, Mod.refl _ _⟩
  · cases hq : Try.prog.info? 3 with
    | none => have := infoSize; rw [hq] at this; cases this
    | some i =>
      have hi : i.size = 1 := by have := infoSize; rw [hq] at this; simpa using this
      simp [Builtin.copy_, run_underlying Try.underlying22, Builtin.lenOf, Builtin.firstCells, sizeOf, typeInfo, hq, hi]
      rfl
  · rw [show ints n (cpZ X 0) = ints n (fun _ => 0) from ints_congr _ _ _ fun i _ => by unfold cpZ; rw [if_neg (by omega)]]
    exact hb
theorem run_copy_list (w : World) (ty : TypeId) (g n xl xc : Nat) (xo : Option Addr) (X : Nat → Int) (hb : Blk g (ints n (fun _ => 0)) 3 w) (hr : Row w xo xl X) (hn : xo = none → xl = 0 ∧ xc = 0) :
    ∃ w' v, (Builtin.copy_ #[22, 22] ty #[.slice (some ⟨g, 0, none⟩) n n, .slice xo xl xc]).run Try.prog w = .ok (.int .i64 v) w' ∧ Blk g (ints n (cpZ X xl)) 3 w' ∧ Mod g w w' := by
  cases xo with
  | none =>
    obtain ⟨rfl, rfl⟩ := hn rfl
    exact run_copy_none w ty g n X hb
  | some a =>
    refine run_copy_some w ty g n xl xc a X hb (fun j hj => ?_)
    obtain ⟨b, o, e, hc⟩ := hr.at hj
    cases e
    rw [Go.WideShapes.add_plain]
    exact hc

section
variable {w : World} {U : Nat} {P : Bool → Prop} {D : Int} {bx : List (Nat × Array Value)} {rows : List (Option Addr × Nat × (Nat → Int))} {a b : World} {A : Nat}
theorem KS.mkOff (h : KS w U P D bx rows a) (m : Mk A a b) (hw : w.heap.size ≤ A) (hU : A ≠ U) (f : OffR A bx rows) : KS w U P D bx rows b := by
  obtain ⟨⟨c, n, h1, h2, h3, h4⟩, h5⟩ := h
  exact ⟨⟨c, n, h1, h2, h3, Blk.mk h4 m (Ne.symm hU)⟩, h5.mkOff m hw f⟩
theorem KS.boxA {cs : Array Value} (h : KS w U P D bx rows a) (hb : Blk A cs 24 a) (hU : A ≠ U) : KS w U P D ((A, cs) :: bx) rows a := ⟨h.1, h.2.boxA hb (by simpa using hU)⟩
theorem KS.rowA {ao : Option Addr} {len : Nat} {Z : Nat → Int} (h : KS w U P D bx rows a) (r : Row a ao len Z) (ho : Off U len ao) : KS w U P D bx ((ao, len, Z) :: rows) a := ⟨h.1, h.2.row r (fun e he => by simp at he; subst he; exact ho)⟩
end

end Go.Proofs.Ytgahdjfkmpadoaa

/- SymEven. -/
namespace Go.Proofs.Ytgahdjfkmpadoaa
open Go.RowKit Go.Shelf Go.Proofs.Wd
set_option linter.unusedVariables false
set_option linter.unusedSimpArgs false


section
variable {w : World} {U : Nat} {P : Bool → Prop} {D : Int} {bx : List (Nat × Array Value)} {rows : List (Option Addr × Nat × (Nat → Int))} {wx w' : World}
/-- What lies elsewhere than the next box. -/
theorem KS.offs (h : KS w U P D bx rows wx) : OffR wx.heap.size bx rows := ⟨fun x hx => by have := Blk.lt (h.2.2.2.1 x hx).1; omega, fun r hr => (h.2.2.2.2 r hr).1.off (Nat.le_refl _)⟩
theorem OffR.row {A : Nat} {ao : Option Addr} {len : Nat} {Z : Nat → Int} (h : OffR A bx rows) (o : Off A len ao) : OffR A bx ((ao, len, Z) :: rows) := ⟨h.1, fun r hr => by
  simp only [List.mem_cons] at hr
  rcases hr with rfl | hr
  · exact o
  · exact h.2 r hr⟩
theorem KS.putHead {A : Nat} {x y z : Value} (h : KS w U P D ((A, #[x, y, z]) :: bx) rows wx) (hw : w.heap.size ≤ A) (f : OffR A bx rows) (x' y' z' : Value) : KS w U P D ((A, #[x', y', z']) :: bx) rows (((wx.setCell ⟨A, 0, none⟩ x').setCell ⟨A, 1, none⟩ y').setCell ⟨A, 2, none⟩ z') := by
  obtain ⟨b1, b2⟩ := h.2.2.2.1 (A, #[x, y, z]) List.mem_cons_self
  have hU : A ≠ U := by simpa using b2
  have P := putM b1 x' y' z'
  have h' : KS w U _ D bx rows wx := ⟨h.1, h.2.1, h.2.2.1, fun x hx => h.2.2.2.1 x (List.mem_cons_of_mem _ hx), h.2.2.2.2⟩
  exact (h'.mkOff (Mk.of P.2) hw hU f).boxA P.1 hU
/-- A matrix that the unit reckoned, and where it lies. -/
theorem KS.toldSF {F : Nat} {args : Array Value} {r c err : Int} {len : Nat} {Z : Nat → Int} {G : Bool} {d : Int} (D' : Int) (h : KS w U P D bx rows wx) (hD : D ≤ 1000000000) (hd : 0 ≤ d ∧ D + d ≤ D') (hG : ∀ c, P c → P (c || G))
    (m : ∀ c0 n0, 0 ≤ n0 ∧ n0 < 1000000000000000000 → UC U c0 n0 wx → Calls Try.prog F args wx fun e w' => SymP r c len Z err (UX U (c0 || G) n0 d wx) wx e w') :
    Calls Try.prog F args wx fun e w' => ∃ ao cap, e = .returned (.tuple #[.agg #[.int .i64 r, .int .i64 c, .slice ao len cap], .int .i64 err]) ∧ len ≤ cap ∧ (∀ A, A < wx.heap.size → Off A len ao) ∧ KS w U P D' bx ((ao, len, Z) :: rows) w' := by
  obtain ⟨c0, n0, h1, h2, h3, h4⟩ := h.1
  refine (m c0 n0 ⟨h2, by omega⟩ h4).mono ?_
  rintro e w' ⟨ao, cap, B, rfl, hc, hB, ho, ⟨k, k1, k2, hu⟩, hm⟩
  have t := h.2.mk (U := U) (by simp) hm
  refine ⟨ao, cap, rfl, hc, fun A hA => ?_, ⟨_, _, hG _ h1, by omega, by omega, hu⟩, t.row ?_ (fun e he => ?_)⟩
  · rcases ho with ho | ⟨rfl, ho⟩
    · exact fun hl => absurd hl (by omega)
    · exact off_blk (by omega)
  · rcases ho with ho | ⟨rfl, ho⟩
    · exact Or.inl ho
    · exact ho.row
  · rcases ho with ho | ⟨rfl, ho⟩
    · exact fun hl => absurd hl (by omega)
    · exact off_blk (by have := (h.2.2.1 e he).2; omega)
end
/-- Moved by One. -/
theorem sand_eye' (n nn : Nat) (B : Nat → Int) (hl : nn = n * n) (hB : ∀ p, p < n * n → Fx (B p)) (hs : symP B n) : ∀ p, p < nn → evenZ (mulZ (mulZ (diagZ oneZ n) B n n) (turnZ (diagZ oneZ n) n n) n n) n p = B p := fun p hp => (sand_eye B n hB hs).1 p (by rw [← hl]; exact hp)
theorem sandOne (U n nn : Nat) (hn : 1 ≤ n ∧ n ≤ 12) (hl : nn = n * n) (a1 a2 : Option Addr) (p1 p2 : Nat) (hp : nn ≤ p1) (B : Nat → Int) (hB : ∀ p, p < n * n → Fx (B p)) (hs : symP B n) (w : World) (ra : Row w a1 nn (diagZ oneZ n) ∧ Off U nn a1) (rb : Row w a2 nn B ∧ Off U nn a2) (c0 : Bool) (n0 : Int) (hn0 : 0 ≤ n0 ∧ n0 < 1000000000000000000) (h : UC U c0 n0 w) :
    Calls Try.prog 11 #[.pointer (some ⟨U, 0, none⟩), .agg #[.int .i64 n, .int .i64 n, .slice a1 nn p1], .agg #[.int .i64 n, .int .i64 n, .slice a2 nn p2]] w fun e w' => SymP n n nn (evenZ (mulZ (mulZ (diagZ oneZ n) B n n) (turnZ (diagZ oneZ n) n n) n n) n) 0 (UX U (c0 || false) n0 10000 w) w e w' := by
  have := sandR U n n hn hn nn nn hl hl a1 a2 p1 p2 hp (diagZ oneZ n) B (by rw [hl]; exact diagZ_I64 oneZ n (fun i _ => by unfold oneZ I64; omega)) (fun j hj => Fx_I64 (hB j (by rw [← hl]; exact hj))) w ra rb c0 n0 hn0 h
  rw [(sand_eye B n hB hs).2, ← hl] at this
  exact this


set_option maxRecDepth 20000 in
set_option maxHeartbeats 8000000 in
theorem lawSymEven_not (R1 C1 size : Int) (hz : I64 size) (a1 : Option Addr) (l1 p1 : Nat) (A : Nat → Int) (iA : ∀ i, i < l1 → I64 (A i)) (w : World) (ra : Row w a1 l1 A) (hc : 200 < l1) : Calls Try.prog 5 #[.agg #[.int .i64 R1, .int .i64 C1, .slice a1 l1 p1], .int .i64 size] w fun e w' => e = .returned (.bool true) ∧ Kp w w' := by
  have HC := hide hc
  clear hc iA ra hz
  have LA := hide (fun w => lawBig R1 C1 a1 l1 p1 w)
  have B0 : Hid (Blk w.heap.size #[.int .i64 R1, .int .i64 C1, .slice a1 l1 p1] 24 (w.alloc (.cells #[.int .i64 R1, .int .i64 C1, .slice a1 l1 p1] 24)) ∧ Kp w (w.alloc (.cells #[.int .i64 R1, .int .i64 C1, .slice a1 l1 p1] 24))) := ⟨Blk.new w _ _, (Kp.refl w).alloc _ _⟩
  go_enter Try.func5, Try.ntmps5
  go_wp2_with fail
  generalize (w.alloc (.cells #[.int .i64 R1, .int .i64 C1, .slice a1 l1 p1] 24)) = w0 at *
  refine (lawSymKnown w0).mono ?_
  rintro e w1 ⟨rfl, k1⟩
  have B1 : Hid (Blk w.heap.size #[.int .i64 R1, .int .i64 C1, .slice a1 l1 p1] 24 w1 ∧ Kp w w1) := ⟨Blk.kp (unhide B0).1 k1, (unhide B0).2.trans k1⟩
  clear k1 B0
  go_wp2_with fail
  refine (unitNew w1).mono ?_
  rintro e w2 ⟨rfl, u2, g2⟩
  have U2 := hide u2
  have B2 : Hid (Blk w.heap.size #[.int .i64 R1, .int .i64 C1, .slice a1 l1 p1] 24 w2 ∧ Kp w w2 ∧ w.heap.size + 1 ≤ w1.heap.size ∧ w1.heap.size < w2.heap.size) := ⟨Blk.grown (unhide B1).1 g2, (unhide B1).2.grown g2, (by have := Blk.lt (unhide B1).1; omega), Blk.lt u2⟩
  clear u2 g2 B1
  generalize w1.heap.size = U at *
  have x0 : w2.cell? ⟨w.heap.size, 0, none⟩ = some (.int .i64 R1) := Blk.cell (unhide B2).1 0
  have x1 : w2.cell? ⟨w.heap.size, 1, none⟩ = some (.int .i64 C1) := Blk.cell (unhide B2).1 1
  have x2 : w2.cell? ⟨w.heap.size, 2, none⟩ = some (.slice a1 l1 p1) := Blk.cell (unhide B2).1 2

  rw [decide_eq_true (unhide HC)] at LA
  go_wp2_with fail
  refine (unhide LA _).mono ?_
  rintro e w3 ⟨rfl, g3⟩
  have KZ := hide ((unhide B2).2.1.grown g3)
  clear g3 B2 LA U2 x0 x1 x2
  go_wp2
  go_ret
  exact ⟨rfl, unhide KZ⟩

set_option maxRecDepth 20000 in
set_option maxHeartbeats 32000000 in
theorem lawSymEven_ok (R1 C1 size : Int) (hz : I64 size) (a1 : Option Addr) (l1 p1 : Nat) (A : Nat → Int) (iA : ∀ i, i < l1 → I64 (A i)) (w : World) (ra : Row w a1 l1 A) (hc : l1 ≤ 200) : Calls Try.prog 5 #[.agg #[.int .i64 R1, .int .i64 C1, .slice a1 l1 p1], .int .i64 size] w fun e w' => e = .returned (.bool true) ∧ Kp w w' := by
  have HC := hide hc
  obtain ⟨n, hn⟩ : ∃ n : Nat, (n : Int) = 1 + size % 6 := ⟨(1 + size % 6).toNat, by omega⟩
  have n6 : 1 ≤ n ∧ n ≤ 6 := by omega
  have GF := hide (fun w r => lawGood R1 C1 a1 l1 p1 A iA size hz n hn w r)
  obtain ⟨nn, hnn⟩ : ∃ q, n * n = q := ⟨_, rfl⟩
  rw [hnn] at GF
  have HN := hide (And.intro n6 (And.intro hnn.symm (show nn ≤ 144 by have := mul12n n n (by omega) (by omega); omega)))
  have FM : Hid (∀ p, p < n * n → Fx (gdZ A l1 p)) := fun i _ => gdZ_fx A l1 iA i
  generalize gdZ A l1 = ZM at *
  have HR := hide ra
  clear hc iA ra hz hn n6 hnn
  have LA := hide (fun w => lawBig R1 C1 a1 l1 p1 w)
  have B0 : Hid (Blk w.heap.size #[.int .i64 R1, .int .i64 C1, .slice a1 l1 p1] 24 (w.alloc (.cells #[.int .i64 R1, .int .i64 C1, .slice a1 l1 p1] 24)) ∧ Kp w (w.alloc (.cells #[.int .i64 R1, .int .i64 C1, .slice a1 l1 p1] 24))) := ⟨Blk.new w _ _, (Kp.refl w).alloc _ _⟩
  go_enter Try.func5, Try.ntmps5
  go_wp2_with fail
  generalize (w.alloc (.cells #[.int .i64 R1, .int .i64 C1, .slice a1 l1 p1] 24)) = w0 at *
  refine (lawSymKnown w0).mono ?_
  rintro e w1 ⟨rfl, k1⟩
  have B1 : Hid (Blk w.heap.size #[.int .i64 R1, .int .i64 C1, .slice a1 l1 p1] 24 w1 ∧ Kp w w1) := ⟨Blk.kp (unhide B0).1 k1, (unhide B0).2.trans k1⟩
  clear k1 B0
  go_wp2_with fail
  refine (unitNew w1).mono ?_
  rintro e w2 ⟨rfl, u2, g2⟩
  have U2 := hide u2
  have B2 : Hid (Blk w.heap.size #[.int .i64 R1, .int .i64 C1, .slice a1 l1 p1] 24 w2 ∧ Kp w w2 ∧ w.heap.size + 1 ≤ w1.heap.size ∧ w1.heap.size < w2.heap.size) := ⟨Blk.grown (unhide B1).1 g2, (unhide B1).2.grown g2, (by have := Blk.lt (unhide B1).1; omega), Blk.lt u2⟩
  clear u2 g2 B1
  generalize w1.heap.size = U at *
  have x0 : w2.cell? ⟨w.heap.size, 0, none⟩ = some (.int .i64 R1) := Blk.cell (unhide B2).1 0
  have x1 : w2.cell? ⟨w.heap.size, 1, none⟩ = some (.int .i64 C1) := Blk.cell (unhide B2).1 1
  have x2 : w2.cell? ⟨w.heap.size, 2, none⟩ = some (.slice a1 l1 p1) := Blk.cell (unhide B2).1 2

  rw [decide_eq_false (by have := unhide HC; omega)] at LA
  go_wp2_with fail
  refine (unhide LA _).mono ?_
  rintro e w3 ⟨rfl, g3⟩
  have B3 : Hid (Blk w.heap.size #[.int .i64 R1, .int .i64 C1, .slice a1 l1 p1] 24 w3 ∧ KS w U (fun c => c = false) 0 [] [(a1, l1, A)] w3 ∧ w.heap.size + 1 ≤ U) := by
    obtain ⟨b1, k2, hU, lU⟩ := unhide B2
    have kw := k2.grown g3
    have ks : KS w U (fun c => c = false) 0 [] [] w3 := ⟨⟨false, 0, rfl, by omega, by omega, Blk.grown (unhide U2) g3⟩, kw, fun e he => (by simp at he; subst he; exact ⟨by omega, Blk.lt (Blk.grown (unhide U2) g3)⟩), fun _ h => absurd h List.not_mem_nil, fun _ h => absurd h List.not_mem_nil⟩
    exact ⟨Blk.grown b1 g3, ks.rowA ((unhide HR).kp kw) ((unhide HR).off (by omega)), hU⟩
  clear g3 LA B2 U2 x0 x1 x2
  have x0 : w3.cell? ⟨w.heap.size, 0, none⟩ = some (.int .i64 R1) := Blk.cell (unhide B3).1 0
  have x1 : w3.cell? ⟨w.heap.size, 1, none⟩ = some (.int .i64 C1) := Blk.cell (unhide B3).1 1
  have x2 : w3.cell? ⟨w.heap.size, 2, none⟩ = some (.slice a1 l1 p1) := Blk.cell (unhide B3).1 2
  go_wp2_with fail
  refine (unhide GF w3 ((unhide B3).2.1.row (ao := a1) (len := l1) (Z := A) (by simp)).1).mono ?_
  rintro e w4 ⟨a3, p3, rfl, hp3, r3, o3, k4⟩
  have b4 := Blk.kp (unhide B3).1 k4
  have e0 : w4.cell? ⟨w.heap.size, 0, none⟩ = some (.int .i64 R1) := Blk.cell b4 0
  have e1 : w4.cell? ⟨w.heap.size, 1, none⟩ = some (.int .i64 C1) := Blk.cell b4 1
  have e2 : w4.cell? ⟨w.heap.size, 2, none⟩ = some (.slice a1 l1 p1) := Blk.cell b4 2
  have ff := Blk.free b4
  have PM := putM b4 (.int .i64 n) (.int .i64 n) (.slice a3 nn p3)
  have S5 : Hid (KS w U (fun c => c = false) 0 [(w.heap.size, #[.int .i64 n, .int .i64 n, .slice a3 nn p3])] [(a3, nn, ZM), (a1, l1, A)] (((w4.setCell ⟨w.heap.size, 0, none⟩ (.int .i64 n)).setCell ⟨w.heap.size, 1, none⟩ (.int .i64 n)).setCell ⟨w.heap.size, 2, none⟩ (.slice a3 nn p3)) ∧ nn ≤ p3) := by
    obtain ⟨b1, ks, hU⟩ := unhide B3
    have lu : U < w3.heap.size := (ks.2.2.1 U (by simp)).2
    have lb := Blk.lt b1
    refine ⟨(KS.mkOff ((ks.kp k4).rowA r3 (o3 U lu)) (Mk.of PM.2) (Nat.le_refl _) (by omega) ⟨fun x h => absurd h List.not_mem_nil, fun r hr => ?_⟩).boxA PM.1 (by omega), hp3⟩
    simp only [List.mem_cons, List.not_mem_nil, or_false] at hr
    rcases hr with rfl | rfl
    · exact o3 _ lb
    · exact (unhide HR).off (Nat.le_refl _)
  clear hp3 r3 o3 k4 b4 PM B3 GF x0 x1 x2 HR
  have HP3 := hide (unhide S5).2
  have S6 := hide (unhide S5).1
  clear S5
  generalize hw5 : ((w4.setCell ⟨w.heap.size, 0, none⟩ (.int .i64 n)).setCell ⟨w.heap.size, 1, none⟩ (.int .i64 n)).setCell ⟨w.heap.size, 2, none⟩ (.slice a3 nn p3) = w5 at S6
  obtain ⟨x0, x1, x2⟩ := (unhide S6).cells (b := w.heap.size) (x := .int .i64 n) (y := .int .i64 n) (z := .slice a3 nn p3) (by simp)
  have n12 : 1 ≤ n ∧ n ≤ 12 := by have := (unhide HN).1; omega
  have CE : Hid (orC (upC (evC ZM n) 1 n) nn = false) := even_cut ZM n nn (by have := (unhide HN).2.1; omega) (unhide FM)
  have FE : Hid ((∀ p, p < n * n → Fx (evenZ ZM n p)) ∧ symP (evenZ ZM n) n ∧ ∀ i k, i < n → k < n → min (ZM (i * n + k)) (ZM (k * n + i)) ≤ evenZ ZM n (i * n + k) ∧ evenZ ZM n (i * n + k) ≤ max (ZM (i * n + k)) (ZM (k * n + i))) := ⟨fun p hp => even_fx _ n p hp (unhide FM), even_sym _ n, fun i k hi hk => ⟨(even_between ZM n i k hi hk (unhide FM)).1, (even_between ZM n i k hi hk (unhide FM)).2.1⟩⟩
  go_wp2_with fail
  clear hw5 e0 e1 e2 ff
  refine (KS.toldS 144 (unhide S6) (by omega) (by omega) (fun c hc => by subst hc; exact unhide CE) (fun c0 n0 hn hu => evenR U n n12 nn (unhide HN).2.1 a3 p3 ZM (fun j hj => Fx_I64 (unhide FM j (by rw [← (unhide HN).2.1]; exact hj))) w5 ((unhide S6).row (by simp)) c0 n0 hn hu)).mono ?_
  generalize evenZ ZM n = ZA at *
  rintro e w6 ⟨a4, p4, rfl, hp4, S7⟩
  have HP4 := hide hp4
  have S8 := hide (S7.box #[.int .i64 n, .int .i64 n, .slice a4 nn p4])
  clear S7 S6 hp4 x0 x1 x2
  generalize hw7 : w6.alloc (.cells #[.int .i64 n, .int .i64 n, .slice a4 nn p4] 24) = w7 at S8
  obtain ⟨y0, y1, y2⟩ := (unhide S8).cells (b := w6.heap.size) (x := .int .i64 n) (y := .int .i64 n) (z := .slice a4 nn p4) (by simp)
  have IA := hide (symIsAny n n a4 nn p4 ZA w7 ((unhide S8).row (ao := a4) (len := nn) (Z := ZA) (by simp)).1)
  rw [isB_sym n nn ZA n12 (unhide HN).2.1 (unhide FE).2.1] at IA
  clear n12
  go_wp2_with fail
  clear hw7
  refine (unhide IA).mono ?_
  rintro e w8 ⟨rfl, k8⟩
  have S9 := hide ((unhide S8).kp k8)
  clear k8 IA S8 y0 y1 y2
  generalize w6.heap.size = Ba at *
  obtain ⟨x0, x1, x2⟩ := (unhide S9).cells (b := w.heap.size) (x := .int .i64 n) (y := .int .i64 n) (z := .slice a3 nn p3) (by simp)
  obtain ⟨y0, y1, y2⟩ := (unhide S9).cells (b := Ba) (x := .int .i64 n) (y := .int .i64 n) (z := .slice a4 nn p4) (by simp)
  go_wp2_with fail
  clear x0 x1 x2 y0 y1 y2
  go_loopw [9] (fun t wr => ∃ i : Nat, i ≤ n ∧ t = .int .i64 i ∧ Hid (KS w U (fun c => c = false) 144 [(Ba, #[.int .i64 n, .int .i64 n, .slice a4 nn p4]), (w.heap.size, #[.int .i64 n, .int .i64 n, .slice a3 nn p3])] [(a4, nn, ZA), (a3, nn, ZM), (a1, l1, A)] wr)) (fun t _ => n - (intOf t).toNat)
  case atStart => exact ⟨0, Nat.zero_le _, rfl, unhide S9⟩
  case round =>
    obtain ⟨i, hin, rfl, HI⟩ := hrel
    clear S9
    obtain ⟨x0, x1, x2⟩ := (unhide HI).cells (b := w.heap.size) (x := .int .i64 n) (y := .int .i64 n) (z := .slice a3 nn p3) (by simp)
    by_cases hlt : i < n
    · have di : decide ((i : Int) < (n : Int)) = true := decide_eq_true (by omega)
      have B1 : Hid (i + 1 ≤ n) := hlt
      have i6 : i ≤ 1000000 := by have := (unhide HN).1; omega
      clear hin
      go_wp2_with fail
      clear x0 x1 x2 di
      go_loopw [10] (fun t wr => ∃ k : Nat, k ≤ n ∧ t = .int .i64 k ∧ Hid (KS w U (fun c => c = false) 144 [(Ba, #[.int .i64 n, .int .i64 n, .slice a4 nn p4]), (w.heap.size, #[.int .i64 n, .int .i64 n, .slice a3 nn p3])] [(a4, nn, ZA), (a3, nn, ZM), (a1, l1, A)] wr)) (fun t _ => n - (intOf t).toNat)
      case atStart => exact ⟨0, Nat.zero_le _, rfl, unhide HI⟩
      case round =>
        obtain ⟨k, hkn, rfl, HK⟩ := hrel
        clear HI
        obtain ⟨x0, x1, x2⟩ := (unhide HK).cells (b := w.heap.size) (x := .int .i64 n) (y := .int .i64 n) (z := .slice a3 nn p3) (by simp)
        obtain ⟨y0, y1, y2⟩ := (unhide HK).cells (b := Ba) (x := .int .i64 n) (y := .int .i64 n) (z := .slice a4 nn p4) (by simp)
        by_cases hk : k < n
        · have dk : decide ((k : Int) < (n : Int)) = true := decide_eq_true (by omega)
          obtain ⟨mi, hmi⟩ : ∃ m, i * n = m := ⟨_, rfl⟩
          obtain ⟨p, hp⟩ : ∃ p, mi + k = p := ⟨_, rfl⟩
          obtain ⟨mk, hmk⟩ : ∃ m, k * n = m := ⟨_, rfl⟩
          obtain ⟨q, hq⟩ : ∃ q, mk + i = q := ⟨_, rfl⟩
          have hpl : p < nn := by
            have h1 := place_in i k n n (unhide B1) hk
            rw [← (unhide HN).2.1, hmi, hp] at h1
            exact h1
          have hql : q < nn := by
            have h1 := place_in k i n n hk (unhide B1)
            rw [← (unhide HN).2.1, hmk, hq] at h1
            exact h1
          have BT := (unhide FE).2.2 i k (unhide B1) hk
          rw [hmi, hp, hmk, hq] at BT
          obtain ⟨b3, o3, hr3, c3⟩ := ((unhide HK).row (ao := a3) (len := nn) (Z := ZM) (by simp)).1.some (by omega)
          obtain ⟨b4, o4, hr4, c4⟩ := ((unhide HK).row (ao := a4) (len := nn) (Z := ZA) (by simp)).1.some (by omega)
          rw [hr3] at x2
          rw [hr4] at y2
          have v1 := c3 p hpl
          have v2 := c3 q hql
          have v3 := c4 p hpl
          generalize ZM p = x at *
          generalize ZM q = y at *
          generalize ZA p = z at *
          have B2 : Hid (k + 1 ≤ n) := hk
          have n144 := (unhide HN).2.2
          have k6 : k ≤ 1000000 := by have := (unhide HN).1; omega
          have j0 : (0 : Int) ≤ (p : Int) := by omega
          have j1 : (p : Int) < (nn : Int) := by omega
          have j2 : (0 : Int) ≤ (q : Int) := by omega
          have j3 : (q : Int) < (nn : Int) := by omega
          have mi6 : mi ≤ 1000000 := by omega
          have mk6 : mk ≤ 1000000 := by omega
          have wa : IntKind.i64.wrap ((i : Int) * (n : Int)) = (mi : Int) := wrapPi i n mi hmi mi6
          have wb : IntKind.i64.wrap ((mi : Int) + (k : Int)) = (p : Int) := wrapAi mi k p hp (by omega)
          have wc : IntKind.i64.wrap ((k : Int) * (n : Int)) = (mk : Int) := wrapPi k n mk hmk mk6
          have wd : IntKind.i64.wrap ((mk : Int) + (i : Int)) = (q : Int) := wrapAi mk i q hq (by omega)
          have wa' : wrap64 ((i : Int) * (n : Int)) = (mi : Int) := wrapP i n mi hmi mi6
          have wb' : wrap64 ((mi : Int) + (k : Int)) = (p : Int) := wrapA mi k p hp (by omega)
          have wc' : wrap64 ((k : Int) * (n : Int)) = (mk : Int) := wrapP k n mk hmk mk6
          have wd' : wrap64 ((mk : Int) + (i : Int)) = (q : Int) := wrapA mk i q hq (by omega)
          have HBT := hide BT
          clear hmi hp hmk hq hpl hql c3 c4 hr3 hr4 BT hkn
          go_wp2
          clear dk
          go_quiet (fail)
          clear x0 x1 x2 y0 y1 y2 v1 v2 v3 wa wb wc wd wa' wb' wc' wd'
          have S10 : Hid (KS w U (fun c => c = false) 144 [(Ba, #[.int .i64 n, .int .i64 n, .slice a4 nn p4]), (w.heap.size, #[.int .i64 n, .int .i64 n, .slice a3 nn p3])] [(a4, nn, ZA), (a3, nn, ZM), (a1, l1, A)] (wr.drewN nq)) := (unhide HK).kp (Kp.refl _)
          clear HK
          generalize wr.drewN nq = wq at *
          rcases (show x < y ∨ y ≤ x by omega) with hxy | hxy
          · have BT := unhide HBT
            have q1 : ¬ z < x := by omega
            have q2 : ¬ y < z := by omega
            have d1 : decide (z < x) = false := decide_eq_false q1
            have d2 : decide (y < z) = false := decide_eq_false q2
            clear BT HBT
            go_wp2
            all_goals go_roundw
            all_goals first | exact ⟨k + 1, unhide B2, by go_num, S10⟩ | (have := unhide B2; simp [intOf]; omega)
          · have BT := unhide HBT
            have q1 : ¬ z < y := by omega
            have q2 : ¬ x < z := by omega
            have d1 : decide (z < y) = false := decide_eq_false q1
            have d2 : decide (x < z) = false := decide_eq_false q2
            clear BT HBT
            go_wp2
            all_goals go_roundw
            all_goals first | exact ⟨k + 1, unhide B2, by go_num, S10⟩ | (have := unhide B2; simp [intOf]; omega)
        · obtain rfl : k = n := by omega
          have dk : decide ((k : Int) < (k : Int)) = false := decide_eq_false (by omega)
          have SK : Hid (KS w U (fun c => c = false) 144 [(Ba, #[.int .i64 k, .int .i64 k, .slice a4 nn p4]), (w.heap.size, #[.int .i64 k, .int .i64 k, .slice a3 nn p3])] [(a4, nn, ZA), (a3, nn, ZM), (a1, l1, A)] wr) := unhide HK
          clear HK y0 y1 y2
          go_wp2
          go_roundw
          case rel => exact ⟨i + 1, unhide B1, by go_num, SK⟩
          case measure => have := unhide B1; simp [intOf]; omega
    · obtain rfl : i = n := by omega
      have di : decide ((i : Int) < (i : Int)) = false := decide_eq_false (by omega)
      have S10 : Hid (KS w U (fun c => c = false) 144 [(Ba, #[.int .i64 i, .int .i64 i, .slice a4 nn p4]), (w.heap.size, #[.int .i64 i, .int .i64 i, .slice a3 nn p3])] [(a4, nn, ZA), (a3, nn, ZM), (a1, l1, A)] wr) := unhide HI
      clear HI
      obtain ⟨y0, y1, y2⟩ := (unhide S10).cells (b := Ba) (x := .int .i64 i) (y := .int .i64 i) (z := .slice a4 nn p4) (by simp)
      have n12 : 1 ≤ i ∧ i ≤ 12 := by have := (unhide HN).1; omega
      have IZ : Hid (∀ j, j < nn → I64 (ZA j)) := fun j hj => Fx_I64 ((unhide FE).1 j (by rw [← (unhide HN).2.1]; exact hj))
      have E1 : Hid (∀ p, p < nn → evenZ ZA i p = ZA p) := fun p hp => even_idem ZA i p (by rw [← (unhide HN).2.1]; exact hp) (unhide FE).1 (unhide FE).2.1
      have C1' : Hid (orC (upC (evC ZA i) 1 i) nn = false) := even_cut ZA i nn (by have := (unhide HN).2.1; omega) (unhide FE).1
      go_wp2_with fail
      refine (KS.toldS 288 (unhide S10) (by omega) (by omega) (fun c hc => by subst hc; exact unhide C1') (fun c0 n0 hn hu => evenR U i n12 nn (unhide HN).2.1 a4 p4 ZA (unhide IZ) wr ((unhide S10).row (by simp)) c0 n0 hn hu)).mono ?_
      rintro e w10 ⟨a5, p5, rfl, hp5, S11⟩
      have S12 := hide ((S11.congr (unhide E1)).box #[.int .i64 i, .int .i64 i, .slice a5 nn p5])
      clear S11 S10 hp5 y0 y1 y2 x0 x1 x2 E1 C1' n12 di
      generalize hw11 : w10.alloc (.cells #[.int .i64 i, .int .i64 i, .slice a5 nn p5] 24) = w11 at S12
      obtain ⟨x0, x1, x2⟩ := (unhide S12).cells (b := w.heap.size) (x := .int .i64 i) (y := .int .i64 i) (z := .slice a3 nn p3) (by simp)
      obtain ⟨y0, y1, y2⟩ := (unhide S12).cells (b := Ba) (x := .int .i64 i) (y := .int .i64 i) (z := .slice a4 nn p4) (by simp)
      go_wp2_with fail
      clear hw11
      generalize w10.heap.size = B5 at *
      have LE : Hid (∀ w, Calls Try.prog 19 #[.int .i64 (i : Int)] w fun e w' => CopyM i i nn (diagZ oneZ i) w e w') := by
        have := lawEye i (by have := (unhide HN).1; omega)
        rw [← (unhide HN).2.1] at this
        exact this
      refine region_cut (T := Option Addr × Nat × Option Addr × Nat × Nat) (fun a t => (((((((((((a.put (some 109) (.pointer (some ⟨U, 0, none⟩))).put (some 110) (.pointer (some ⟨w.heap.size, 0, none⟩))).put (some 111) (.int .i64 i)).put (some 113) (.agg #[.int .i64 i, .int .i64 i, .slice a4 nn p4])).put (some 112) (.agg #[.int .i64 i, .int .i64 i, .slice t.1 nn t.2.1])).put (some 114) (.tuple #[.agg #[.int .i64 i, .int .i64 i, .slice t.2.2.1 nn t.2.2.2.1], .int .i64 0])).put (some 108) (.tuple #[.agg #[.int .i64 i, .int .i64 i, .slice t.2.2.1 nn t.2.2.2.1], .int .i64 0])).put (some 115) (.agg #[.int .i64 i, .int .i64 i, .slice t.2.2.1 nn t.2.2.2.1])).put (some 116) (.int .i64 0)).put (some 16) (.pointer (some ⟨t.2.2.2.2, 0, none⟩))).put (some 17) (.int .i64 0))) (fun t wx => KS w U (fun c => c = false) 10288 ((t.2.2.2.2, #[.int .i64 i, .int .i64 i, .slice t.2.2.1 nn t.2.2.2.1]) :: [(B5, #[.int .i64 i, .int .i64 i, .slice a5 nn p5]), (Ba, #[.int .i64 i, .int .i64 i, .slice a4 nn p4]), (w.heap.size, #[.int .i64 i, .int .i64 i, .slice a3 nn p3])]) ((t.2.2.1, nn, ZA) :: (t.1, nn, diagZ oneZ i) :: [(a5, nn, ZA), (a4, nn, ZA), (a3, nn, ZM), (a1, l1, A)]) wx) ?_ ?_
      · have hh := (show w11.cell? ⟨w.heap.size, 0, none⟩ = some (.int .i64 i) ∧ w11.cell? ⟨w.heap.size, 1, none⟩ = some (.int .i64 i) ∧ w11.cell? ⟨w.heap.size, 2, none⟩ = some (.slice a3 nn p3) ∧ w11.cell? ⟨Ba, 0, none⟩ = some (.int .i64 i) ∧ w11.cell? ⟨Ba, 1, none⟩ = some (.int .i64 i) ∧ w11.cell? ⟨Ba, 2, none⟩ = some (.slice a4 nn p4) from by obtain ⟨z0, z1, z2⟩ := (unhide S12).cells (b := w.heap.size) (x := .int .i64 i) (y := .int .i64 i) (z := .slice a3 nn p3) (by simp); obtain ⟨z3, z4, z5⟩ := (unhide S12).cells (b := Ba) (x := .int .i64 i) (y := .int .i64 i) (z := .slice a4 nn p4) (by simp); exact ⟨z0, z1, z2, z3, z4, z5⟩)
        have S13 : Hid (KS w U (fun c => c = false) 288 [(B5, #[.int .i64 i, .int .i64 i, .slice a5 nn p5]), (Ba, #[.int .i64 i, .int .i64 i, .slice a4 nn p4]), (w.heap.size, #[.int .i64 i, .int .i64 i, .slice a3 nn p3])] [(a5, nn, ZA), (a4, nn, ZA), (a3, nn, ZM), (a1, l1, A)] w11.drew) := (unhide S12).kp (Kp.refl w11)
        refine region_G (fun w' => w'.cell? ⟨w.heap.size, 0, none⟩ = some (.int .i64 i) ∧ w'.cell? ⟨w.heap.size, 1, none⟩ = some (.int .i64 i) ∧ w'.cell? ⟨w.heap.size, 2, none⟩ = some (.slice a3 nn p3) ∧ w'.cell? ⟨Ba, 0, none⟩ = some (.int .i64 i) ∧ w'.cell? ⟨Ba, 1, none⟩ = some (.int .i64 i) ∧ w'.cell? ⟨Ba, 2, none⟩ = some (.slice a4 nn p4)) 11 (by kernel_rfl) (show w11.drew.cell? ⟨w.heap.size, 0, none⟩ = some (.int .i64 i) ∧ w11.drew.cell? ⟨w.heap.size, 1, none⟩ = some (.int .i64 i) ∧ w11.drew.cell? ⟨w.heap.size, 2, none⟩ = some (.slice a3 nn p3) ∧ w11.drew.cell? ⟨Ba, 0, none⟩ = some (.int .i64 i) ∧ w11.drew.cell? ⟨Ba, 1, none⟩ = some (.int .i64 i) ∧ w11.drew.cell? ⟨Ba, 2, none⟩ = some (.slice a4 nn p4) from hh) (fun hHeld => ?_)
        clear hh x0 x1 x2 y0 y1 y2
        generalize w11.drew = w12 at *
        refine take_G (i := 0) (d := 109) (v := (.pointer (some ⟨U, 0, none⟩))) rfl rfl (by kernel_rfl) (by kernel_rfl) (by kernel_rfl) (by kernel_rfl) (by kernel_rfl) (Or.inl ⟨by rfl, ?_⟩) hHeld ?_
        · intro wS hSw
          obtain ⟨z0, z1, z2, z3, z4, z5⟩ := hSw
          clear hHeld
          go_simp
        (try simp only [Act.put, List.setIfInBounds_toArray, List.set_cons_zero, List.set_cons_succ])
        refine take_G (i := 1) (d := 110) (v := (.pointer (some ⟨w.heap.size, 0, none⟩))) rfl rfl (by kernel_rfl) (by kernel_rfl) (by kernel_rfl) (by kernel_rfl) (by kernel_rfl) (Or.inl ⟨by rfl, ?_⟩) hHeld ?_
        · intro wS hSw
          obtain ⟨z0, z1, z2, z3, z4, z5⟩ := hSw
          clear hHeld
          go_simp
        (try simp only [Act.put, List.setIfInBounds_toArray, List.set_cons_zero, List.set_cons_succ])
        refine take_G (i := 2) (d := 111) (v := (.int .i64 i)) rfl rfl (by kernel_rfl) (by kernel_rfl) (by kernel_rfl) (by kernel_rfl) (by kernel_rfl) (Or.inl ⟨by rfl, ?_⟩) hHeld ?_
        · intro wS hSw
          obtain ⟨z0, z1, z2, z3, z4, z5⟩ := hSw
          clear hHeld
          go_simp
        (try simp only [Act.put, List.setIfInBounds_toArray, List.set_cons_zero, List.set_cons_succ])
        refine take_G (i := 4) (d := 113) (v := (.agg #[.int .i64 i, .int .i64 i, .slice a4 nn p4])) rfl rfl (by kernel_rfl) (by kernel_rfl) (by kernel_rfl) (by kernel_rfl) (by kernel_rfl) (Or.inl ⟨by rfl, ?_⟩) hHeld ?_
        · intro wS hSw
          obtain ⟨z0, z1, z2, z3, z4, z5⟩ := hSw
          clear hHeld
          go_simp
        (try simp only [Act.put, List.setIfInBounds_toArray, List.set_cons_zero, List.set_cons_succ])
        refine pick2_G (i := 3) (j := 9) (by kernel_rfl) (fun K hK => ?_) (fun K hK => ?_)
        · skip
          refine wpOp_of rfl rfl ?_
          unfold Oper.wp
          go_simp
          refine (unhide LE _).mono ?_
          rintro e w13 ⟨ae, ce, rfl, hce, re, oe, ke⟩
          have S14 := hide (((unhide S13).kp ke).rowA re (oe U ((unhide S13).2.2.1 U (by simp)).2))
          have HCE := hide hce
          skip
          have hHeld := (show w13.cell? ⟨w.heap.size, 0, none⟩ = some (.int .i64 i) ∧ w13.cell? ⟨w.heap.size, 1, none⟩ = some (.int .i64 i) ∧ w13.cell? ⟨w.heap.size, 2, none⟩ = some (.slice a3 nn p3) ∧ w13.cell? ⟨Ba, 0, none⟩ = some (.int .i64 i) ∧ w13.cell? ⟨Ba, 1, none⟩ = some (.int .i64 i) ∧ w13.cell? ⟨Ba, 2, none⟩ = some (.slice a4 nn p4) from by obtain ⟨z0, z1, z2⟩ := (unhide S14).cells (b := w.heap.size) (x := .int .i64 i) (y := .int .i64 i) (z := .slice a3 nn p3) (by simp); obtain ⟨z3, z4, z5⟩ := (unhide S14).cells (b := Ba) (x := .int .i64 i) (y := .int .i64 i) (z := .slice a4 nn p4) (by simp); exact ⟨z0, z1, z2, z3, z4, z5⟩)
          refine hK _ _ (fun _ => hHeld) ?_
          clear hK K S13 re oe ke hce
          (try simp only [Act.put, List.setIfInBounds_toArray, List.set_cons_zero, List.set_cons_succ])
          refine pick2_G (i := 5) (j := 9) (by kernel_rfl) (fun K hK => ?_) (fun K hK => ?_)
          · skip
            refine wpOp_of rfl rfl ?_
            unfold Oper.wp
            go_simp
            refine (KS.toldSF 10288 (unhide S14) (by omega) (by omega) (fun c hc => by subst hc; rfl) (fun c0 n0 hn hu => sandOne U i nn (by have := (unhide HN).1; omega) (unhide HN).2.1 ae a4 ce p4 (unhide HCE) ZA (unhide FE).1 (unhide FE).2.1 _ ((unhide S14).row (ao := ae) (len := nn) (Z := diagZ oneZ i) (by simp)) ((unhide S14).row (ao := a4) (len := nn) (Z := ZA) (by simp)) c0 n0 hn hu)).mono ?_
            rintro e w14 ⟨ao, cp, rfl, hcp, oo, s6⟩
            have S15 := hide (s6.congr (sand_eye' i nn ZA (unhide HN).2.1 (unhide FE).1 (unhide FE).2.1))
            skip
            have hHeld := (show w14.cell? ⟨w.heap.size, 0, none⟩ = some (.int .i64 i) ∧ w14.cell? ⟨w.heap.size, 1, none⟩ = some (.int .i64 i) ∧ w14.cell? ⟨w.heap.size, 2, none⟩ = some (.slice a3 nn p3) ∧ w14.cell? ⟨Ba, 0, none⟩ = some (.int .i64 i) ∧ w14.cell? ⟨Ba, 1, none⟩ = some (.int .i64 i) ∧ w14.cell? ⟨Ba, 2, none⟩ = some (.slice a4 nn p4) from by obtain ⟨z0, z1, z2⟩ := (unhide S15).cells (b := w.heap.size) (x := .int .i64 i) (y := .int .i64 i) (z := .slice a3 nn p3) (by simp); obtain ⟨z3, z4, z5⟩ := (unhide S15).cells (b := Ba) (x := .int .i64 i) (y := .int .i64 i) (z := .slice a4 nn p4) (by simp); exact ⟨z0, z1, z2, z3, z4, z5⟩)
            refine hK _ _ (fun _ => hHeld) ?_
            clear hK K S14 s6 hcp oo
            (try simp only [Act.put, List.setIfInBounds_toArray, List.set_cons_zero, List.set_cons_succ])
            refine take_G (i := 6) (d := 108) (v := (.tuple #[.agg #[.int .i64 i, .int .i64 i, .slice ao nn cp], .int .i64 0])) rfl rfl (by kernel_rfl) (by kernel_rfl) (by kernel_rfl) (by kernel_rfl) (by kernel_rfl) (Or.inl ⟨by rfl, ?_⟩) hHeld ?_
            · intro wS hSw
              obtain ⟨z0, z1, z2, z3, z4, z5⟩ := hSw
              clear hHeld
              go_simp
            (try simp only [Act.put, List.setIfInBounds_toArray, List.set_cons_zero, List.set_cons_succ])
            refine take_G (i := 7) (d := 115) (v := (.agg #[.int .i64 i, .int .i64 i, .slice ao nn cp])) rfl rfl (by kernel_rfl) (by kernel_rfl) (by kernel_rfl) (by kernel_rfl) (by kernel_rfl) (Or.inl ⟨by rfl, ?_⟩) hHeld ?_
            · intro wS hSw
              obtain ⟨z0, z1, z2, z3, z4, z5⟩ := hSw
              clear hHeld
              go_simp
            (try simp only [Act.put, List.setIfInBounds_toArray, List.set_cons_zero, List.set_cons_succ])
            refine take_G (i := 8) (d := 116) (v := (.int .i64 0)) rfl rfl (by kernel_rfl) (by kernel_rfl) (by kernel_rfl) (by kernel_rfl) (by kernel_rfl) (Or.inl ⟨by rfl, ?_⟩) hHeld ?_
            · intro wS hSw
              obtain ⟨z0, z1, z2, z3, z4, z5⟩ := hSw
              clear hHeld
              go_simp
            (try simp only [Act.put, List.setIfInBounds_toArray, List.set_cons_zero, List.set_cons_succ])
            refine step_G (i := 9) (by kernel_rfl) (fun K hK => ?_)
            refine wpOp_of rfl rfl ?_
            unfold Oper.wp
            go_simp
            have S16 := hide ((unhide S15).box #[.int .i64 0, .int .i64 0, .slice none 0 0])
            have hHeld := (show (w14.alloc (.cells #[.int .i64 0, .int .i64 0, .slice none 0 0] 24)).cell? ⟨w.heap.size, 0, none⟩ = some (.int .i64 i) ∧ (w14.alloc (.cells #[.int .i64 0, .int .i64 0, .slice none 0 0] 24)).cell? ⟨w.heap.size, 1, none⟩ = some (.int .i64 i) ∧ (w14.alloc (.cells #[.int .i64 0, .int .i64 0, .slice none 0 0] 24)).cell? ⟨w.heap.size, 2, none⟩ = some (.slice a3 nn p3) ∧ (w14.alloc (.cells #[.int .i64 0, .int .i64 0, .slice none 0 0] 24)).cell? ⟨Ba, 0, none⟩ = some (.int .i64 i) ∧ (w14.alloc (.cells #[.int .i64 0, .int .i64 0, .slice none 0 0] 24)).cell? ⟨Ba, 1, none⟩ = some (.int .i64 i) ∧ (w14.alloc (.cells #[.int .i64 0, .int .i64 0, .slice none 0 0] 24)).cell? ⟨Ba, 2, none⟩ = some (.slice a4 nn p4) from by obtain ⟨z0, z1, z2⟩ := (unhide S16).cells (b := w.heap.size) (x := .int .i64 i) (y := .int .i64 i) (z := .slice a3 nn p3) (by simp); obtain ⟨z3, z4, z5⟩ := (unhide S16).cells (b := Ba) (x := .int .i64 i) (y := .int .i64 i) (z := .slice a4 nn p4) (by simp); exact ⟨z0, z1, z2, z3, z4, z5⟩)
            refine hK _ _ (fun _ => hHeld) ?_
            clear hK K S16
            (try simp only [Act.put, List.setIfInBounds_toArray, List.set_cons_zero, List.set_cons_succ])
            refine step_G (i := 10) (by kernel_rfl) (fun K hK => ?_)
            refine wpOp_of rfl rfl ?_
            unfold Oper.wp
            go_simp
            have S16 := hide ((unhide S15).box #[.int .i64 i, .int .i64 i, .slice ao nn cp])
            have hHeld := (show (w14.alloc (.cells #[.int .i64 i, .int .i64 i, .slice ao nn cp] 24)).cell? ⟨w.heap.size, 0, none⟩ = some (.int .i64 i) ∧ (w14.alloc (.cells #[.int .i64 i, .int .i64 i, .slice ao nn cp] 24)).cell? ⟨w.heap.size, 1, none⟩ = some (.int .i64 i) ∧ (w14.alloc (.cells #[.int .i64 i, .int .i64 i, .slice ao nn cp] 24)).cell? ⟨w.heap.size, 2, none⟩ = some (.slice a3 nn p3) ∧ (w14.alloc (.cells #[.int .i64 i, .int .i64 i, .slice ao nn cp] 24)).cell? ⟨Ba, 0, none⟩ = some (.int .i64 i) ∧ (w14.alloc (.cells #[.int .i64 i, .int .i64 i, .slice ao nn cp] 24)).cell? ⟨Ba, 1, none⟩ = some (.int .i64 i) ∧ (w14.alloc (.cells #[.int .i64 i, .int .i64 i, .slice ao nn cp] 24)).cell? ⟨Ba, 2, none⟩ = some (.slice a4 nn p4) from by obtain ⟨z0, z1, z2⟩ := (unhide S16).cells (b := w.heap.size) (x := .int .i64 i) (y := .int .i64 i) (z := .slice a3 nn p3) (by simp); obtain ⟨z3, z4, z5⟩ := (unhide S16).cells (b := Ba) (x := .int .i64 i) (y := .int .i64 i) (z := .slice a4 nn p4) (by simp); exact ⟨z0, z1, z2, z3, z4, z5⟩)
            refine hK _ _ (fun _ => hHeld) ?_
            clear hK K
            (try simp only [Act.put, List.setIfInBounds_toArray, List.set_cons_zero, List.set_cons_succ])
            refine step_G (i := 11) (by kernel_rfl) (fun K hK => ?_)
            refine wpOp_of rfl rfl ?_
            unfold Oper.wp
            go_simp
            refine hK _ _ (fun h => absurd rfl h) ?_
            clear hK K
            (try simp only [Act.put, List.setIfInBounds_toArray, List.set_cons_zero, List.set_cons_succ])
            refine done_G (by kernel_rfl) ?_
            refine noPanic_normalE ?_
            exact ⟨rfl, (ae, ce, ao, cp, w14.heap.size), unhide S16, by simp only [Act.put, List.setIfInBounds_toArray, List.set_cons_zero, List.set_cons_succ]⟩
          · skip
            refine wpOp_of rfl rfl ?_
            unfold Oper.wp
            go_simp
            have s2 := hide ((unhide S14).box #[.int .i64 0, .int .i64 0, .slice none 0 0])
            have OF := hide ((unhide S14).offs)
            have HW : Hid (w.heap.size ≤ w13.heap.size) := (show w.heap.size ≤ w13.heap.size by have := (unhide S14).2.2.1 U (by simp); omega)
            generalize hw2 : w13.alloc (.cells #[.int .i64 0, .int .i64 0, .slice none 0 0] 24) = w14 at *
            have S15 : Hid (KS w U (fun c => c = false) 288 ((w13.heap.size, #[.int .i64 0, .int .i64 0, .slice none 0 0]) :: _) _ w14) := s2
            have HB : Hid (w13.heap.size < w14.heap.size) := Blk.lt ((unhide S15).2.2.2.1 (w13.heap.size, #[.int .i64 0, .int .i64 0, .slice none 0 0]) (by simp)).1
            clear hw2 s2
            generalize w13.heap.size = Bx at *
            have hHeld := (show w14.cell? ⟨w.heap.size, 0, none⟩ = some (.int .i64 i) ∧ w14.cell? ⟨w.heap.size, 1, none⟩ = some (.int .i64 i) ∧ w14.cell? ⟨w.heap.size, 2, none⟩ = some (.slice a3 nn p3) ∧ w14.cell? ⟨Ba, 0, none⟩ = some (.int .i64 i) ∧ w14.cell? ⟨Ba, 1, none⟩ = some (.int .i64 i) ∧ w14.cell? ⟨Ba, 2, none⟩ = some (.slice a4 nn p4) from by obtain ⟨z0, z1, z2⟩ := (unhide S15).cells (b := w.heap.size) (x := .int .i64 i) (y := .int .i64 i) (z := .slice a3 nn p3) (by simp); obtain ⟨z3, z4, z5⟩ := (unhide S15).cells (b := Ba) (x := .int .i64 i) (y := .int .i64 i) (z := .slice a4 nn p4) (by simp); exact ⟨z0, z1, z2, z3, z4, z5⟩)
            refine hK _ _ (fun _ => hHeld) ?_
            clear hK K S14
            (try simp only [Act.put, List.setIfInBounds_toArray, List.set_cons_zero, List.set_cons_succ])
            have HB2 := hide (unhide HB)
            refine step_G (i := 5) (by kernel_rfl) (fun K hK => ?_)
            refine wpOp_of rfl rfl ?_
            unfold Oper.wp
            go_simp
            refine (KS.toldSF 10288 (unhide S15) (by omega) (by omega) (fun c hc => by subst hc; rfl) (fun c0 n0 hn hu => sandOne U i nn (by have := (unhide HN).1; omega) (unhide HN).2.1 ae a4 ce p4 (unhide HCE) ZA (unhide FE).1 (unhide FE).2.1 _ ((unhide S15).row (ao := ae) (len := nn) (Z := diagZ oneZ i) (by simp)) ((unhide S15).row (ao := a4) (len := nn) (Z := ZA) (by simp)) c0 n0 hn hu)).mono ?_
            rintro e w15 ⟨ao, cp, rfl, hcp, oo, s6⟩
            have S16 := hide (s6.congr (sand_eye' i nn ZA (unhide HN).2.1 (unhide FE).1 (unhide FE).2.1))
            have e0 : w15.cell? ⟨Bx, 0, none⟩ = some (.int .i64 0) := ((unhide S16).cells (b := Bx) (x := .int .i64 0) (y := .int .i64 0) (z := .slice none 0 0) (by simp)).1
            have e1 : w15.cell? ⟨Bx, 1, none⟩ = some (.int .i64 0) := ((unhide S16).cells (b := Bx) (x := .int .i64 0) (y := .int .i64 0) (z := .slice none 0 0) (by simp)).2.1
            have e2 : w15.cell? ⟨Bx, 2, none⟩ = some (.slice none 0 0) := ((unhide S16).cells (b := Bx) (x := .int .i64 0) (y := .int .i64 0) (z := .slice none 0 0) (by simp)).2.2
            have ff := Blk.free ((unhide S16).2.2.2.1 (Bx, #[.int .i64 0, .int .i64 0, .slice none 0 0]) (by simp)).1
            have OO := hide (oo Bx (unhide HB2))
            have hHeld := (show w15.cell? ⟨w.heap.size, 0, none⟩ = some (.int .i64 i) ∧ w15.cell? ⟨w.heap.size, 1, none⟩ = some (.int .i64 i) ∧ w15.cell? ⟨w.heap.size, 2, none⟩ = some (.slice a3 nn p3) ∧ w15.cell? ⟨Ba, 0, none⟩ = some (.int .i64 i) ∧ w15.cell? ⟨Ba, 1, none⟩ = some (.int .i64 i) ∧ w15.cell? ⟨Ba, 2, none⟩ = some (.slice a4 nn p4) from by obtain ⟨z0, z1, z2⟩ := (unhide S16).cells (b := w.heap.size) (x := .int .i64 i) (y := .int .i64 i) (z := .slice a3 nn p3) (by simp); obtain ⟨z3, z4, z5⟩ := (unhide S16).cells (b := Ba) (x := .int .i64 i) (y := .int .i64 i) (z := .slice a4 nn p4) (by simp); exact ⟨z0, z1, z2, z3, z4, z5⟩)
            refine hK _ _ (fun _ => hHeld) ?_
            clear hK K S15 s6 hcp oo
            (try simp only [Act.put, List.setIfInBounds_toArray, List.set_cons_zero, List.set_cons_succ])
            refine take_G (i := 6) (d := 108) (v := (.tuple #[.agg #[.int .i64 i, .int .i64 i, .slice ao nn cp], .int .i64 0])) rfl rfl (by kernel_rfl) (by kernel_rfl) (by kernel_rfl) (by kernel_rfl) (by kernel_rfl) (Or.inl ⟨by rfl, ?_⟩) hHeld ?_
            · intro wS hSw
              obtain ⟨z0, z1, z2, z3, z4, z5⟩ := hSw
              clear hHeld
              go_simp
            (try simp only [Act.put, List.setIfInBounds_toArray, List.set_cons_zero, List.set_cons_succ])
            refine take_G (i := 7) (d := 115) (v := (.agg #[.int .i64 i, .int .i64 i, .slice ao nn cp])) rfl rfl (by kernel_rfl) (by kernel_rfl) (by kernel_rfl) (by kernel_rfl) (by kernel_rfl) (Or.inl ⟨by rfl, ?_⟩) hHeld ?_
            · intro wS hSw
              obtain ⟨z0, z1, z2, z3, z4, z5⟩ := hSw
              clear hHeld
              go_simp
            (try simp only [Act.put, List.setIfInBounds_toArray, List.set_cons_zero, List.set_cons_succ])
            refine take_G (i := 8) (d := 116) (v := (.int .i64 0)) rfl rfl (by kernel_rfl) (by kernel_rfl) (by kernel_rfl) (by kernel_rfl) (by kernel_rfl) (Or.inl ⟨by rfl, ?_⟩) hHeld ?_
            · intro wS hSw
              obtain ⟨z0, z1, z2, z3, z4, z5⟩ := hSw
              clear hHeld
              go_simp
            (try simp only [Act.put, List.setIfInBounds_toArray, List.set_cons_zero, List.set_cons_succ])
            refine step_G (i := 10) (by kernel_rfl) (fun K hK => ?_)
            refine wpOp_of rfl rfl ?_
            unfold Oper.wp
            go_simp
            have S17 := hide ((unhide S16).putHead (unhide HW) ((unhide OF).row (unhide OO)) (.int .i64 i) (.int .i64 i) (.slice ao nn cp))
            have hHeld := (show (((w15.setCell ⟨Bx, 0, none⟩ (.int .i64 i)).setCell ⟨Bx, 1, none⟩ (.int .i64 i)).setCell ⟨Bx, 2, none⟩ (.slice ao nn cp)).cell? ⟨w.heap.size, 0, none⟩ = some (.int .i64 i) ∧ (((w15.setCell ⟨Bx, 0, none⟩ (.int .i64 i)).setCell ⟨Bx, 1, none⟩ (.int .i64 i)).setCell ⟨Bx, 2, none⟩ (.slice ao nn cp)).cell? ⟨w.heap.size, 1, none⟩ = some (.int .i64 i) ∧ (((w15.setCell ⟨Bx, 0, none⟩ (.int .i64 i)).setCell ⟨Bx, 1, none⟩ (.int .i64 i)).setCell ⟨Bx, 2, none⟩ (.slice ao nn cp)).cell? ⟨w.heap.size, 2, none⟩ = some (.slice a3 nn p3) ∧ (((w15.setCell ⟨Bx, 0, none⟩ (.int .i64 i)).setCell ⟨Bx, 1, none⟩ (.int .i64 i)).setCell ⟨Bx, 2, none⟩ (.slice ao nn cp)).cell? ⟨Ba, 0, none⟩ = some (.int .i64 i) ∧ (((w15.setCell ⟨Bx, 0, none⟩ (.int .i64 i)).setCell ⟨Bx, 1, none⟩ (.int .i64 i)).setCell ⟨Bx, 2, none⟩ (.slice ao nn cp)).cell? ⟨Ba, 1, none⟩ = some (.int .i64 i) ∧ (((w15.setCell ⟨Bx, 0, none⟩ (.int .i64 i)).setCell ⟨Bx, 1, none⟩ (.int .i64 i)).setCell ⟨Bx, 2, none⟩ (.slice ao nn cp)).cell? ⟨Ba, 2, none⟩ = some (.slice a4 nn p4) from by obtain ⟨z0, z1, z2⟩ := (unhide S17).cells (b := w.heap.size) (x := .int .i64 i) (y := .int .i64 i) (z := .slice a3 nn p3) (by simp); obtain ⟨z3, z4, z5⟩ := (unhide S17).cells (b := Ba) (x := .int .i64 i) (y := .int .i64 i) (z := .slice a4 nn p4) (by simp); exact ⟨z0, z1, z2, z3, z4, z5⟩)
            refine hK _ _ (fun _ => hHeld) ?_
            clear hK K
            (try simp only [Act.put, List.setIfInBounds_toArray, List.set_cons_zero, List.set_cons_succ])
            refine step_G (i := 11) (by kernel_rfl) (fun K hK => ?_)
            refine wpOp_of rfl rfl ?_
            unfold Oper.wp
            go_simp
            refine hK _ _ (fun h => absurd rfl h) ?_
            clear hK K
            (try simp only [Act.put, List.setIfInBounds_toArray, List.set_cons_zero, List.set_cons_succ])
            refine done_G (by kernel_rfl) ?_
            refine noPanic_normalE ?_
            exact ⟨rfl, (ae, ce, ao, cp, Bx), unhide S17, by simp only [Act.put, List.setIfInBounds_toArray, List.set_cons_zero, List.set_cons_succ]⟩
        · skip
          refine wpOp_of rfl rfl ?_
          unfold Oper.wp
          go_simp
          have s2 := hide ((unhide S13).box #[.int .i64 0, .int .i64 0, .slice none 0 0])
          have OF := hide ((unhide S13).offs)
          have HW : Hid (w.heap.size ≤ w12.heap.size) := (show w.heap.size ≤ w12.heap.size by have := (unhide S13).2.2.1 U (by simp); omega)
          generalize hw2 : w12.alloc (.cells #[.int .i64 0, .int .i64 0, .slice none 0 0] 24) = w13 at *
          have S14 : Hid (KS w U (fun c => c = false) 288 ((w12.heap.size, #[.int .i64 0, .int .i64 0, .slice none 0 0]) :: _) _ w13) := s2
          have HB : Hid (w12.heap.size < w13.heap.size) := Blk.lt ((unhide S14).2.2.2.1 (w12.heap.size, #[.int .i64 0, .int .i64 0, .slice none 0 0]) (by simp)).1
          clear hw2 s2
          generalize w12.heap.size = Bx at *
          have hHeld := (show w13.cell? ⟨w.heap.size, 0, none⟩ = some (.int .i64 i) ∧ w13.cell? ⟨w.heap.size, 1, none⟩ = some (.int .i64 i) ∧ w13.cell? ⟨w.heap.size, 2, none⟩ = some (.slice a3 nn p3) ∧ w13.cell? ⟨Ba, 0, none⟩ = some (.int .i64 i) ∧ w13.cell? ⟨Ba, 1, none⟩ = some (.int .i64 i) ∧ w13.cell? ⟨Ba, 2, none⟩ = some (.slice a4 nn p4) from by obtain ⟨z0, z1, z2⟩ := (unhide S14).cells (b := w.heap.size) (x := .int .i64 i) (y := .int .i64 i) (z := .slice a3 nn p3) (by simp); obtain ⟨z3, z4, z5⟩ := (unhide S14).cells (b := Ba) (x := .int .i64 i) (y := .int .i64 i) (z := .slice a4 nn p4) (by simp); exact ⟨z0, z1, z2, z3, z4, z5⟩)
          refine hK _ _ (fun _ => hHeld) ?_
          clear hK K S13
          (try simp only [Act.put, List.setIfInBounds_toArray, List.set_cons_zero, List.set_cons_succ])
          refine step_G (i := 3) (by kernel_rfl) (fun K hK => ?_)
          refine wpOp_of rfl rfl ?_
          unfold Oper.wp
          go_simp
          refine (unhide LE _).mono ?_
          rintro e w14 ⟨ae, ce, rfl, hce, re, oe, ke⟩
          have S15 := hide (((unhide S14).kp ke).rowA re (oe U ((unhide S14).2.2.1 U (by simp)).2))
          have HCE := hide hce
          have OE := hide (oe Bx (unhide HB))
          have hHeld := (show w14.cell? ⟨w.heap.size, 0, none⟩ = some (.int .i64 i) ∧ w14.cell? ⟨w.heap.size, 1, none⟩ = some (.int .i64 i) ∧ w14.cell? ⟨w.heap.size, 2, none⟩ = some (.slice a3 nn p3) ∧ w14.cell? ⟨Ba, 0, none⟩ = some (.int .i64 i) ∧ w14.cell? ⟨Ba, 1, none⟩ = some (.int .i64 i) ∧ w14.cell? ⟨Ba, 2, none⟩ = some (.slice a4 nn p4) from by obtain ⟨z0, z1, z2⟩ := (unhide S15).cells (b := w.heap.size) (x := .int .i64 i) (y := .int .i64 i) (z := .slice a3 nn p3) (by simp); obtain ⟨z3, z4, z5⟩ := (unhide S15).cells (b := Ba) (x := .int .i64 i) (y := .int .i64 i) (z := .slice a4 nn p4) (by simp); exact ⟨z0, z1, z2, z3, z4, z5⟩)
          refine hK _ _ (fun _ => hHeld) ?_
          clear hK K S14 re oe ke hce
          (try simp only [Act.put, List.setIfInBounds_toArray, List.set_cons_zero, List.set_cons_succ])
          have HB2 : Hid (Bx < w14.heap.size) := Blk.lt ((unhide S15).2.2.2.1 (Bx, #[.int .i64 0, .int .i64 0, .slice none 0 0]) (by simp)).1
          refine step_G (i := 5) (by kernel_rfl) (fun K hK => ?_)
          refine wpOp_of rfl rfl ?_
          unfold Oper.wp
          go_simp
          refine (KS.toldSF 10288 (unhide S15) (by omega) (by omega) (fun c hc => by subst hc; rfl) (fun c0 n0 hn hu => sandOne U i nn (by have := (unhide HN).1; omega) (unhide HN).2.1 ae a4 ce p4 (unhide HCE) ZA (unhide FE).1 (unhide FE).2.1 _ ((unhide S15).row (ao := ae) (len := nn) (Z := diagZ oneZ i) (by simp)) ((unhide S15).row (ao := a4) (len := nn) (Z := ZA) (by simp)) c0 n0 hn hu)).mono ?_
          rintro e w15 ⟨ao, cp, rfl, hcp, oo, s6⟩
          have S16 := hide (s6.congr (sand_eye' i nn ZA (unhide HN).2.1 (unhide FE).1 (unhide FE).2.1))
          have e0 : w15.cell? ⟨Bx, 0, none⟩ = some (.int .i64 0) := ((unhide S16).cells (b := Bx) (x := .int .i64 0) (y := .int .i64 0) (z := .slice none 0 0) (by simp)).1
          have e1 : w15.cell? ⟨Bx, 1, none⟩ = some (.int .i64 0) := ((unhide S16).cells (b := Bx) (x := .int .i64 0) (y := .int .i64 0) (z := .slice none 0 0) (by simp)).2.1
          have e2 : w15.cell? ⟨Bx, 2, none⟩ = some (.slice none 0 0) := ((unhide S16).cells (b := Bx) (x := .int .i64 0) (y := .int .i64 0) (z := .slice none 0 0) (by simp)).2.2
          have ff := Blk.free ((unhide S16).2.2.2.1 (Bx, #[.int .i64 0, .int .i64 0, .slice none 0 0]) (by simp)).1
          have OO := hide (oo Bx (unhide HB2))
          have hHeld := (show w15.cell? ⟨w.heap.size, 0, none⟩ = some (.int .i64 i) ∧ w15.cell? ⟨w.heap.size, 1, none⟩ = some (.int .i64 i) ∧ w15.cell? ⟨w.heap.size, 2, none⟩ = some (.slice a3 nn p3) ∧ w15.cell? ⟨Ba, 0, none⟩ = some (.int .i64 i) ∧ w15.cell? ⟨Ba, 1, none⟩ = some (.int .i64 i) ∧ w15.cell? ⟨Ba, 2, none⟩ = some (.slice a4 nn p4) from by obtain ⟨z0, z1, z2⟩ := (unhide S16).cells (b := w.heap.size) (x := .int .i64 i) (y := .int .i64 i) (z := .slice a3 nn p3) (by simp); obtain ⟨z3, z4, z5⟩ := (unhide S16).cells (b := Ba) (x := .int .i64 i) (y := .int .i64 i) (z := .slice a4 nn p4) (by simp); exact ⟨z0, z1, z2, z3, z4, z5⟩)
          refine hK _ _ (fun _ => hHeld) ?_
          clear hK K S15 s6 hcp oo
          (try simp only [Act.put, List.setIfInBounds_toArray, List.set_cons_zero, List.set_cons_succ])
          refine take_G (i := 6) (d := 108) (v := (.tuple #[.agg #[.int .i64 i, .int .i64 i, .slice ao nn cp], .int .i64 0])) rfl rfl (by kernel_rfl) (by kernel_rfl) (by kernel_rfl) (by kernel_rfl) (by kernel_rfl) (Or.inl ⟨by rfl, ?_⟩) hHeld ?_
          · intro wS hSw
            obtain ⟨z0, z1, z2, z3, z4, z5⟩ := hSw
            clear hHeld
            go_simp
          (try simp only [Act.put, List.setIfInBounds_toArray, List.set_cons_zero, List.set_cons_succ])
          refine take_G (i := 7) (d := 115) (v := (.agg #[.int .i64 i, .int .i64 i, .slice ao nn cp])) rfl rfl (by kernel_rfl) (by kernel_rfl) (by kernel_rfl) (by kernel_rfl) (by kernel_rfl) (Or.inl ⟨by rfl, ?_⟩) hHeld ?_
          · intro wS hSw
            obtain ⟨z0, z1, z2, z3, z4, z5⟩ := hSw
            clear hHeld
            go_simp
          (try simp only [Act.put, List.setIfInBounds_toArray, List.set_cons_zero, List.set_cons_succ])
          refine take_G (i := 8) (d := 116) (v := (.int .i64 0)) rfl rfl (by kernel_rfl) (by kernel_rfl) (by kernel_rfl) (by kernel_rfl) (by kernel_rfl) (Or.inl ⟨by rfl, ?_⟩) hHeld ?_
          · intro wS hSw
            obtain ⟨z0, z1, z2, z3, z4, z5⟩ := hSw
            clear hHeld
            go_simp
          (try simp only [Act.put, List.setIfInBounds_toArray, List.set_cons_zero, List.set_cons_succ])
          refine step_G (i := 10) (by kernel_rfl) (fun K hK => ?_)
          refine wpOp_of rfl rfl ?_
          unfold Oper.wp
          go_simp
          have S17 := hide ((unhide S16).putHead (unhide HW) (((unhide OF).row (unhide OE)).row (unhide OO)) (.int .i64 i) (.int .i64 i) (.slice ao nn cp))
          have hHeld := (show (((w15.setCell ⟨Bx, 0, none⟩ (.int .i64 i)).setCell ⟨Bx, 1, none⟩ (.int .i64 i)).setCell ⟨Bx, 2, none⟩ (.slice ao nn cp)).cell? ⟨w.heap.size, 0, none⟩ = some (.int .i64 i) ∧ (((w15.setCell ⟨Bx, 0, none⟩ (.int .i64 i)).setCell ⟨Bx, 1, none⟩ (.int .i64 i)).setCell ⟨Bx, 2, none⟩ (.slice ao nn cp)).cell? ⟨w.heap.size, 1, none⟩ = some (.int .i64 i) ∧ (((w15.setCell ⟨Bx, 0, none⟩ (.int .i64 i)).setCell ⟨Bx, 1, none⟩ (.int .i64 i)).setCell ⟨Bx, 2, none⟩ (.slice ao nn cp)).cell? ⟨w.heap.size, 2, none⟩ = some (.slice a3 nn p3) ∧ (((w15.setCell ⟨Bx, 0, none⟩ (.int .i64 i)).setCell ⟨Bx, 1, none⟩ (.int .i64 i)).setCell ⟨Bx, 2, none⟩ (.slice ao nn cp)).cell? ⟨Ba, 0, none⟩ = some (.int .i64 i) ∧ (((w15.setCell ⟨Bx, 0, none⟩ (.int .i64 i)).setCell ⟨Bx, 1, none⟩ (.int .i64 i)).setCell ⟨Bx, 2, none⟩ (.slice ao nn cp)).cell? ⟨Ba, 1, none⟩ = some (.int .i64 i) ∧ (((w15.setCell ⟨Bx, 0, none⟩ (.int .i64 i)).setCell ⟨Bx, 1, none⟩ (.int .i64 i)).setCell ⟨Bx, 2, none⟩ (.slice ao nn cp)).cell? ⟨Ba, 2, none⟩ = some (.slice a4 nn p4) from by obtain ⟨z0, z1, z2⟩ := (unhide S17).cells (b := w.heap.size) (x := .int .i64 i) (y := .int .i64 i) (z := .slice a3 nn p3) (by simp); obtain ⟨z3, z4, z5⟩ := (unhide S17).cells (b := Ba) (x := .int .i64 i) (y := .int .i64 i) (z := .slice a4 nn p4) (by simp); exact ⟨z0, z1, z2, z3, z4, z5⟩)
          refine hK _ _ (fun _ => hHeld) ?_
          clear hK K
          (try simp only [Act.put, List.setIfInBounds_toArray, List.set_cons_zero, List.set_cons_succ])
          refine step_G (i := 11) (by kernel_rfl) (fun K hK => ?_)
          refine wpOp_of rfl rfl ?_
          unfold Oper.wp
          go_simp
          refine hK _ _ (fun h => absurd rfl h) ?_
          clear hK K
          (try simp only [Act.put, List.setIfInBounds_toArray, List.set_cons_zero, List.set_cons_succ])
          refine done_G (by kernel_rfl) ?_
          refine noPanic_normalE ?_
          exact ⟨rfl, (ae, ce, ao, cp, Bx), unhide S17, by simp only [Act.put, List.setIfInBounds_toArray, List.set_cons_zero, List.set_cons_succ]⟩
      rintro ⟨ae, ce, ao, cp, Bx⟩ w13 s13
      have S13 := hide s13
      clear s13 S12 LE x0 x1 x2 y0 y1 y2
      simp only [Act.put, List.setIfInBounds_toArray, List.set_cons_zero, List.set_cons_succ]

      obtain ⟨x0, x1, x2⟩ := (unhide S13).cells (b := B5) (x := .int .i64 i) (y := .int .i64 i) (z := .slice a5 nn p5) (by simp)
      obtain ⟨y0, y1, y2⟩ := (unhide S13).cells (b := Ba) (x := .int .i64 i) (y := .int .i64 i) (z := .slice a4 nn p4) (by simp)
      obtain ⟨t0, t1, t2⟩ := (unhide S13).cells (b := Bx) (x := .int .i64 i) (y := .int .i64 i) (z := .slice ao nn cp) (by simp)
      go_wp2_with fail
      refine (lawIs i i a5 a4 nn p5 p4 ZA (by have := (unhide HN).2.2; omega) w13 ((unhide S13).row (ao := a5) (len := nn) (Z := ZA) (by simp)).1 ((unhide S13).row (ao := a4) (len := nn) (Z := ZA) (by simp)).1).mono ?_
      rintro e w14 ⟨rfl, k14⟩
      have S14 := hide ((unhide S13).kp k14)
      clear k14 S13 x0 x1 x2 y0 y1 y2 t0 t1 t2
      obtain ⟨x0, x1, x2⟩ := (unhide S14).cells (b := B5) (x := .int .i64 i) (y := .int .i64 i) (z := .slice a5 nn p5) (by simp)
      obtain ⟨y0, y1, y2⟩ := (unhide S14).cells (b := Ba) (x := .int .i64 i) (y := .int .i64 i) (z := .slice a4 nn p4) (by simp)
      obtain ⟨t0, t1, t2⟩ := (unhide S14).cells (b := Bx) (x := .int .i64 i) (y := .int .i64 i) (z := .slice ao nn cp) (by simp)
      go_wp2_with fail
      refine (lawIs i i ao a4 nn cp p4 ZA (by have := (unhide HN).2.2; omega) w14 ((unhide S14).row (ao := ao) (len := nn) (Z := ZA) (by simp)).1 ((unhide S14).row (ao := a4) (len := nn) (Z := ZA) (by simp)).1).mono ?_
      rintro e w15 ⟨rfl, k15⟩
      have S15 := hide ((unhide S14).kp k15)
      clear k15 S14 x0 x1 x2 y0 y1 y2 t0 t1 t2
      obtain ⟨cc, nu, rfl, _, _, hu⟩ := (unhide S15).1
      have HU := hide hu
      clear hu
      go_wp2_with fail
      refine (unitCut U false nu w15 (unhide HU)).mono ?_
      rintro e w16 ⟨rfl, rfl⟩
      go_wp2
      go_ret
      exact ⟨rfl, (unhide S15).2.1⟩
theorem lawSymEven (R1 C1 size : Int) (hz : I64 size) (a1 : Option Addr) (l1 p1 : Nat) (A : Nat → Int) (iA : ∀ i, i < l1 → I64 (A i)) (w : World) (ra : Row w a1 l1 A) : Calls Try.prog 5 #[.agg #[.int .i64 R1, .int .i64 C1, .slice a1 l1 p1], .int .i64 size] w fun e w' => e = .returned (.bool true) ∧ Kp w w' := by
  by_cases h : 200 < l1
  · exact lawSymEven_not R1 C1 size hz a1 l1 p1 A iA w ra h
  · exact lawSymEven_ok R1 C1 size hz a1 l1 p1 A iA w ra (by omega)


end Go.Proofs.Ytgahdjfkmpadoaa

/- How matrices that are handed in lie in memory. -/
namespace Go.Proofs.Ytgahdjfkmpadoaa
open Go.ChangeShapes Go.WideShapes Go.ChangeAt Go.RowKit Go.Joins Go.Proofs.Wd Go.Deep
set_option linter.unusedVariables false
set_option linter.unusedSimpArgs false

set_option maxRecDepth 20000 in
theorem open_mat {H : Type} {enc : TypeId × Value → H} {W : World} {n : Nat} {cs : List Value} {y : DataW H × List MemPlace} (h : DataW.trod enc Try.prog W 0 (fun _ => true) true n 24 cs = some y) :
    ∃ (R C : Int) (ao : Option Addr) (ln lc : Nat) (Z : Nat → Int), cs = [.int .i64 R, .int .i64 C, .slice ao ln lc] ∧ I64 R ∧ I64 C ∧ ln ≤ lc ∧ lc ≤ 9223372036854775807 ∧ Row W ao ln Z ∧ (∀ i, i < ln → I64 (Z i)) ∧ (ao = none → ln = 0 ∧ lc = 0) := by
  obtain ⟨xs, m, _, _, hlen, hxl, hf⟩ := DataW.trod_struct Try.underlying24 h
  rw [show Try.prog.cellsOf 24 = 3 by kernel_rfl] at hlen
  match cs, hlen with
  | [v0, v1, v2], _ =>
  match xs, hxl with
  | [x0, x1, x2], _ =>
  have f0 : DataW.trod enc Try.prog W 0 (fun _ => true) true m 3 (([v0, v1, v2].drop 0).take (Try.prog.cellsOf 3)) = some x0 := hf 0 _ rfl
  rw [cellsInt] at f0
  have f1 : DataW.trod enc Try.prog W 0 (fun _ => true) true m 3 (([v0, v1, v2].drop 1).take (Try.prog.cellsOf 3)) = some x1 := hf 1 _ rfl
  rw [cellsInt] at f1
  have f2 : DataW.trod enc Try.prog W 0 (fun _ => true) true m 22 (([v0, v1, v2].drop 2).take (Try.prog.cellsOf 22)) = some x2 := hf 2 _ rfl
  rw [cellsInts] at f2
  obtain ⟨R, e0, _, w0⟩ := DataW.trod_int Try.underlying3 f0
  obtain ⟨C, e1, _, w1⟩ := DataW.trod_int Try.underlying3 f1
  obtain ⟨lo, ln, lc, lz, rfl, l1, l2, l3, l4, l5⟩ := open_row0 f2
  simp at e0 e1
  subst e0 e1
  exact ⟨R, C, lo, ln, lc, lz, rfl, i64_wf w0, i64_wf w1, l1, l2, l3, l4, l5⟩

end Go.Proofs.Ytgahdjfkmpadoaa

/- The statement SymEven holds for every input: the law returns true, and its arguments read afterwards as before. No condition. -/
namespace Go.Proofs.Ytgahdjfkmpadoaa.symEven
open Go.ChangeShapes Go.WideShapes Go.ChangeAt Go.RowKit Go.Joins Go.Proofs.Wd
set_option linter.unusedVariables false
set_option linter.unusedSimpArgs false

theorem own : ownKnob Try.prog.godebug = none := by kernel_rfl

set_option maxRecDepth 100000 in
theorem lifted (os : Os) (started : os.Started) (H : Type) (enc : TypeId × Value → H) :
    ReturnsInHanded {} Try.checked os 5 .any (Rows.symEvenSpec.pre6 enc Try.prog Try.f5 Rows.symEvenRow.domain false) (Rows.symEvenSpec.post enc Try.prog Try.f5 false true false false) := by
  refine returnsInHanded_of_change (C := Try.checked) own started (by kernel_rfl) Try.func5
    (ChangeSpec.witness6 (enc := enc) (C := Try.checked) false ⟨#[], #[.agg #[.int .i64 0, .int .i64 0, .slice none 0 0], .int .i64 0], []⟩ 8 (by kernel_rfl) (by kernel_rfl) (by kernel_rfl) (by kernel_rfl)) ?_
  intro W base args ds gs before hval0 hW hcnd _
  have hval : ∀ (j : Nat) t v, Try.f5.params[j]? = some t → args[j]? = some v → Value.okWide Try.prog W .any base t v := hval0
  have hW' := hW
  obtain ⟨p, q, hA0, hV, rfl, hfz, hnd⟩ := hW
  have hA : DataW.TrodAll enc Try.prog W 0 (fun _ => true) true Try.f5.params.toList args.toList ds p := hA0
  rw [Try.params5] at hA hval
  obtain ⟨v0, vs0, d0, ds0, p0, q0, hargs, rfl, rfl, h0, r0⟩ := trodAll_cons hA
  obtain ⟨v1, vs1, d1, ds1, p1, q1, rfl, rfl, rfl, h1, r1⟩ := trodAll_cons r0
  obtain ⟨rfl, rfl, rfl⟩ := trodAll_nil r1
  obtain rfl : args = #[v0, v1] := by cases args; simp_all
  obtain ⟨rfl, rfl⟩ := trodVars_none hV
  have hlt := hW'.lt
  have k0 := h0
  obtain ⟨fuel0, t0⟩ := h0
  obtain ⟨cs0, rfl, _⟩ := okWide_struct Try.underlying24 (hval 0 24 v0 rfl rfl)
  obtain ⟨R0, C0, ao0, ln0, lc0, Z0, e0, iR0, iC0, le0, lm0, row0, num0, nil0⟩ := open_mat t0
  obtain rfl : cs0 = #[.int .i64 R0, .int .i64 C0, .slice ao0 ln0 lc0] := Array.ext' (by simpa [Value.cells] using e0)
  obtain ⟨a1, rfl, rfl, rfl, wa1⟩ := open_int Try.underlying3 (hval 1 3 v1 rfl rfl) h1
  clear hA0 hval0
  refine (lawSymEven R0 C0 a1 (i64_wf wa1) ao0 ln0 lc0 Z0 num0 W row0).mono fun e W' ⟨he, hg⟩ => ?_
  subst he
  exact ⟨_, rfl, post_of_kp (pa := p0 ++ ([] ++ ([]))) (pv := []) hW' (fun _ => (trodAll_cons_mk (shut_bool Try.underlying4 _) trodAll_mk0)) (trodAll_cons_mk (WideElems.Trod_stays laid (by kernel_rfl) (of_decide_eq_true (by kernel_rfl)) k0 (fun x hx => hg.same (hlt x (by simp [hx]))) (fun x hx => by simpa using hlt x (by simp [hx]))) (trodAll_cons_mk (shut_int Try.underlying3 wa1) trodAll_mk0)) rfl hg⟩

end Go.Proofs.Ytgahdjfkmpadoaa.symEven
namespace Go.Proofs.Ytgahdjfkmpadoaa
theorem symEven_holds : Rows.SymEvenSaid :=
  OpenClaim.holds_of_wide 5 Try.f5 rfl rfl rfl rfl rfl rfl rfl ⟨rfl, rfl, rfl, rfl, rfl⟩ rfl rfl rfl rfl rfl (by kernel_rfl) Try.func5 (by kernel_rfl)
    (of_decide_eq_true (by kernel_rfl)) (by unfold Func.isWrapper; first | (rw [if_pos (by decide +kernel)]; kernel_rfl) | (rw [if_neg (by decide +kernel)]; exact ⟨rfl, rfl⟩))
    (fun os started H enc _ => symEven.lifted os started H enc)
#print axioms symEven_holds
end Go.Proofs.Ytgahdjfkmpadoaa
