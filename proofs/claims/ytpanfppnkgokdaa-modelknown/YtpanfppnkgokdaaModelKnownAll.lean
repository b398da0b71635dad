/- MdlU ModelKnownLaw, one after another. -/
import Derived.Test.YtpanfppnkgokdaaMdlProg
import Derived.Test.YtpanfppnkgokdaaMdlBase
import Derived.Test.YtpanfppnkgokdaaRows
import Derived.Test.YtpanfppnkgokdaaRowLB
import Derived.ProofKit
import Derived.OpenShut
import Derived.Lib.SmallJoins
/- ModelKnown. -/
namespace Go.Proofs.Ytpanfppnkgokdaa
open Go.RowKit Go.Shelf Go.Proofs Go.Proofs.Wd
set_option linter.unusedVariables false
set_option linter.unusedSimpArgs false
set_option maxRecDepth 10000
attribute [local go_sem ↓] Go.wp_at_zero Go.wp_at_succ

/-- The chapter's model, with another A, another R in its second row, another sensor in its first one. -/
def knX (s0 r1 : Int) (h0 h1 h2 : LV) (i : Nat) : RV := if i = 0 then ⟨s0, h0, 5⟩ else if i = 1 then ⟨3, h1, r1⟩ else ⟨7, h2, 1⟩
def knV (l : List Int) (s0 r1 : Int) (ba bq br b0 b1 b2 : Nat) : DV := ⟨2, lv ba 4 4 l, lv bq 2 2 [0, 1], 4294967296, 38654705664, 1, some ⟨br, 0, none⟩, 3, 3, knX s0 r1 (lv b0 2 2 [4294967296, 0]) (lv b1 2 2 [0, 4294967296]) (lv b2 2 2 [4294967296, 4294967296])⟩
theorem kn_good {w : World} {ba bq br b0 b1 b2 : Nat} {l : List Int} {s0 r1 : Int} (hl : l.length = 4) (hi : ∀ x ∈ l, I64 x) (is : I64 s0) (ir : I64 r1) (ha : Blk ba (l.map (Value.int .i64)).toArray 3 w) (hq : Blk bq #[.int .i64 0, .int .i64 1] 3 w) (h0 : Blk b0 #[.int .i64 4294967296, .int .i64 0] 3 w) (h1 : Blk b1 #[.int .i64 0, .int .i64 4294967296] 3 w) (h2 : Blk b2 #[.int .i64 4294967296, .int .i64 4294967296] 3 w)
    (hr : Blk br #[.int .i64 s0, .slice (some ⟨b0, 0, none⟩) 2 2, .int .i64 5, .int .i64 3, .slice (some ⟨b1, 0, none⟩) 2 2, .int .i64 r1, .int .i64 7, .slice (some ⟨b2, 0, none⟩) 2 2, .int .i64 1] 41 w) : (knV l s0 r1 ba bq br b0 b1 b2).good w := by
  have i : ∀ {x : Int}, x = 0 ∨ x = 1 ∨ x = 4294967296 → I64 x := fun h => by unfold I64; omega
  refine ⟨lv_good (l := l) ha hl hi, lv_good (l := [0, 1]) hq rfl (fun x hx => i (by simp at hx; omega)), Or.inr ⟨br, 0, rfl, fun k hk j hj => ?_⟩, fun k hk => ?_, ⟨Nat.le_refl _, fun e => by cases e⟩, ⟨by show I64 2; unfold I64; omega, by show I64 4294967296; unfold I64; omega, by show I64 38654705664; unfold I64; omega, by show I64 1; unfold I64; omega⟩, by show 4 ≤ 40; omega, by show 2 ≤ 12; omega, by show 3 ≤ 30; omega, fun k hk => ?_⟩
  · rw [Nat.zero_add, Blk.cell hr]
    have hk : k < 3 := hk
    have : k = 0 ∨ k = 1 ∨ k = 2 := by omega
    have hj' : j = 0 ∨ j = 1 ∨ j = 2 := by omega
    rcases this with rfl | rfl | rfl <;> rcases hj' with rfl | rfl | rfl <;> rfl
  · have hk : k < 3 := hk
    have : k = 0 ∨ k = 1 ∨ k = 2 := by omega
    rcases this with rfl | rfl | rfl
    · exact ⟨lv_good (l := [4294967296, 0]) h0 rfl (fun x hx => i (by simp at hx; omega)), is, by show I64 5; unfold I64; omega⟩
    · exact ⟨lv_good (l := [0, 4294967296]) h1 rfl (fun x hx => i (by simp at hx; omega)), by show I64 3; unfold I64; omega, ir⟩
    · exact ⟨lv_good (l := [4294967296, 4294967296]) h2 rfl (fun x hx => i (by simp at hx; omega)), by show I64 7; unfold I64; omega, by show I64 1; unfold I64; omega⟩
  · have hk : k < 3 := hk
    have : k = 0 ∨ k = 1 ∨ k = 2 := by omega
    rcases this with rfl | rfl | rfl <;> (show 2 ≤ 12; omega)
theorem kn_a (ba bq br b0 b1 b2 : Nat) : chkD (knV [0, 0, 4294967296, 0] 3 5 ba bq br b0 b1 b2) = 2 := if_neg (fun h => by
  have := ((h.2.1.2.2 1 (by show 1 < 2; omega)).2 0 (by show 0 < 2; omega)).2 (by omega)
  have this : (4294967296 : Int) = 0 := this
  omega)
theorem kn_b (ba bq br b0 b1 b2 : Nat) : chkD (knV [0, 4294967296, 0, 0] 3 0 ba bq br b0 b1 b2) = 2 := if_neg (fun h => by
  have := (h.2.2.2.2.2.2 1 (by show 1 < 3; omega)).2.2.1
  exact absurd this (by show ¬ (1 : Int) ≤ 0; decide))
theorem kn_c (ba bq br b0 b1 b2 : Nat) : chkD (knV [0, 4294967296, 0, 0] 7 5 ba bq br b0 b1 b2) = 2 := if_neg (fun h => by
  have := (h.2.2.2.2.2.2 1 (by show 1 < 3; omega)).1.2.2
  exact absurd this (by show ¬ (7 : Int) ≤ 3; decide))
theorem two_dim7 (ba bq br b0 b1 b2 : Nat) : ((seenR (twoV ba bq br b0 b1 b2).X 7 (twoV ba bq br b0 b1 b2).rl).length : Nat) = 1 := rfl
theorem bel_span {bx bp : Nat} {p : Int} : spanB (belV bx bp p) := ⟨⟨by show (0 : Int) ≤ 4; omega, by show (4 : Int) ≤ 1099511627776; omega⟩, ⟨by show (0 : Int) ≤ 0; omega, by show (0 : Int) ≤ 1099511627776; omega⟩, by show (0 : Int) ≤ 0; omega, by show (0 : Int) ≤ 1099511627776; omega⟩
theorem two_fit1 (ba bq br b0 b1 b2 bx bp : Nat) : fitD (twoV ba bq br b0 b1 b2) (belV bx bp 1) = 0 := by
  unfold fitD
  rw [if_pos (twoV_okD ba bq br b0 b1 b2), if_pos (show sizeB _ _ from ⟨rfl, rfl⟩), if_pos bel_span, if_pos ?_]
  intro i hi
  have hi : i < 2 := hi
  have : i = 0 ∨ i = 1 := by omega
  rcases this with rfl | rfl
  · refine ⟨by show (-9223372036854775807 : Int) ≤ 1; decide, by show (0 : Int) ≤ 3; decide, fun k hk => ?_⟩
    have hk : k < 2 := hk
    have : k = 0 ∨ k = 1 := by omega
    rcases this with rfl | rfl
    · exact ⟨by show (-9223372036854775807 : Int) ≤ 3; decide, rfl⟩
    · exact ⟨by show (-9223372036854775807 : Int) ≤ 1; decide, rfl⟩
  · refine ⟨by show (-9223372036854775807 : Int) ≤ 2; decide, by show (0 : Int) ≤ 3; decide, fun k hk => ?_⟩
    have hk : k < 2 := hk
    have : k = 0 ∨ k = 1 := by omega
    rcases this with rfl | rfl
    · exact ⟨by show (-9223372036854775807 : Int) ≤ 1; decide, rfl⟩
    · exact ⟨by show (-9223372036854775807 : Int) ≤ 3; decide, rfl⟩
def belX (bx bp : Nat) : BV := ⟨4, lv bx 1 2 [1, 2], lv bp 4 4 [3, 1, 1, 3], false, 0, 0⟩
def belY (bx bp : Nat) : BV := ⟨-1, lv bx 2 2 [1, 2], lv bp 4 4 [3, 1, 1, 3], false, 0, 0⟩
theorem two_fitX (ba bq br b0 b1 b2 bx bp : Nat) : fitD (twoV ba bq br b0 b1 b2) (belX bx bp) = 3 := by
  unfold fitD
  rw [if_pos (twoV_okD ba bq br b0 b1 b2), if_neg]
  intro h
  have : (1 : Int) = 2 := h.1
  omega
theorem two_fitY (ba bq br b0 b1 b2 bx bp : Nat) : fitD (twoV ba bq br b0 b1 b2) (belY bx bp) = 4 := by
  unfold fitD
  rw [if_pos (twoV_okD ba bq br b0 b1 b2), if_pos (show sizeB _ _ from ⟨rfl, rfl⟩), if_neg]
  intro h
  have : (0 : Int) ≤ -1 := h.1.1
  omega
theorem belX_good {w : World} {bx bp : Nat} (h : (belV bx bp 1).good w) : (belX bx bp).good w := by
  obtain ⟨⟨h1, h2, h3⟩, h4, h5, _, h6⟩ := h
  refine ⟨⟨?_, ⟨by show 1 ≤ 2; omega, fun e => by cases e⟩, fun i hi => h3 i (by have hi : i < 1 := hi; show i < 2; omega)⟩, h4, h5, by show 1 ≤ 13; omega, h6⟩
  rcases h1 with h | ⟨b, o, e, hc⟩
  · have h : (2 : Nat) = 0 := h
    omega
  · exact Or.inr ⟨b, o, e, fun i hi => hc i (by have hi : i < 1 := hi; show i < 2; omega)⟩
theorem belY_good {w : World} {bx bp : Nat} (h : (belV bx bp 1).good w) : (belY bx bp).good w := ⟨h.1, h.2.1, ⟨by show I64 (-1); unfold I64; omega, h.2.2.1.2⟩, h.2.2.2⟩


set_option maxRecDepth 50000 in
set_option maxHeartbeats 16000000 in
theorem lawModelKnown (w : World) : Calls Try.prog 4 #[] w fun e w' => e = .returned (.bool true) ∧ Kp w w' := by
  go_enter Try.func4, Try.ntmps4
  go_wp2_with fail
  refine (lawTwo10 w).mono ?_
  rintro e w1 ⟨aa, aq, ar, a0, a1, a2, rfl, _, la, ⟨aA, aL, aR⟩, k1⟩
  have Ha : Hid ((w.heap.size ≤ aa ∧ w.heap.size ≤ aq ∧ w.heap.size ≤ ar ∧ w.heap.size ≤ a0 ∧ w.heap.size ≤ a1 ∧ w.heap.size ≤ a2) ∧ (Blk aa #[.int .i64 0, .int .i64 4294967296, .int .i64 0, .int .i64 0] 3 w1 ∧ Blk aq #[.int .i64 0, .int .i64 1] 3 w1 ∧ Blk a0 #[.int .i64 4294967296, .int .i64 0] 3 w1 ∧ Blk a1 #[.int .i64 0, .int .i64 4294967296] 3 w1 ∧ Blk a2 #[.int .i64 4294967296, .int .i64 4294967296] 3 w1 ∧ Blk ar #[.int .i64 3, .slice (some ⟨a0, 0, none⟩) 2 2, .int .i64 5, .int .i64 3, .slice (some ⟨a1, 0, none⟩) 2 2, .int .i64 5, .int .i64 7, .slice (some ⟨a2, 0, none⟩) 2 2, .int .i64 1] 41 w1) ∧ Kp w w1) := ⟨la, ⟨aA, aL.1, aL.2.1, aL.2.2.1, aL.2.2.2, aR⟩, k1⟩
  clear la aA aL aR k1
  dsimp only [twoV, DV.cells, lv]
  go_wp2_with fail
  refine (lawTwo10 w1).mono ?_
  rintro e w2 ⟨ba, bq, br, b0, b1, b2, rfl, _, lb, ⟨bA, bL, bR⟩, k2⟩
  have Hb : Hid ((w1.heap.size ≤ ba ∧ w1.heap.size ≤ bq ∧ w1.heap.size ≤ br ∧ w1.heap.size ≤ b0 ∧ w1.heap.size ≤ b1 ∧ w1.heap.size ≤ b2) ∧ (Blk ba #[.int .i64 0, .int .i64 4294967296, .int .i64 0, .int .i64 0] 3 w2 ∧ Blk bq #[.int .i64 0, .int .i64 1] 3 w2 ∧ Blk b0 #[.int .i64 4294967296, .int .i64 0] 3 w2 ∧ Blk b1 #[.int .i64 0, .int .i64 4294967296] 3 w2 ∧ Blk b2 #[.int .i64 4294967296, .int .i64 4294967296] 3 w2 ∧ Blk br #[.int .i64 3, .slice (some ⟨b0, 0, none⟩) 2 2, .int .i64 5, .int .i64 3, .slice (some ⟨b1, 0, none⟩) 2 2, .int .i64 5, .int .i64 7, .slice (some ⟨b2, 0, none⟩) 2 2, .int .i64 1] 41 w2) ∧ Kp w1 w2) := ⟨lb, ⟨bA, bL.1, bL.2.1, bL.2.2.1, bL.2.2.2, bR⟩, k2⟩
  clear lb bA bL bR k2
  dsimp only [twoV, DV.cells, lv]
  go_wp2_with fail
  refine (lawTwo10 w2).mono ?_
  rintro e w3 ⟨ca, cq, cr, c0, c1, c2, rfl, _, lc, ⟨cA, cL, cR⟩, k3⟩
  have Hc : Hid ((w2.heap.size ≤ ca ∧ w2.heap.size ≤ cq ∧ w2.heap.size ≤ cr ∧ w2.heap.size ≤ c0 ∧ w2.heap.size ≤ c1 ∧ w2.heap.size ≤ c2) ∧ (Blk ca #[.int .i64 0, .int .i64 4294967296, .int .i64 0, .int .i64 0] 3 w3 ∧ Blk cq #[.int .i64 0, .int .i64 1] 3 w3 ∧ Blk c0 #[.int .i64 4294967296, .int .i64 0] 3 w3 ∧ Blk c1 #[.int .i64 0, .int .i64 4294967296] 3 w3 ∧ Blk c2 #[.int .i64 4294967296, .int .i64 4294967296] 3 w3 ∧ Blk cr #[.int .i64 3, .slice (some ⟨c0, 0, none⟩) 2 2, .int .i64 5, .int .i64 3, .slice (some ⟨c1, 0, none⟩) 2 2, .int .i64 5, .int .i64 7, .slice (some ⟨c2, 0, none⟩) 2 2, .int .i64 1] 41 w3) ∧ Kp w2 w3) := ⟨lc, ⟨cA, cL.1, cL.2.1, cL.2.2.1, cL.2.2.2, cR⟩, k3⟩
  clear lc cA cL cR k3
  dsimp only [twoV, DV.cells, lv]
  go_upto_region 3 with fail
  obtain ⟨Z, hZ⟩ : ∃ Z, w3.heap.size = Z := ⟨_, rfl⟩
  simp only [hZ]
  obtain ⟨w4, hw4⟩ : ∃ w4, ((((w3.alloc (.cells #[.int .i64 2, .slice (some ⟨Z + 1 + 1 + 1, 0, none⟩) 4 4, .slice (some ⟨aq, 0, none⟩) 2 2, .int .i64 4294967296, .int .i64 38654705664, .int .i64 1, .slice (some ⟨ar, 0, none⟩) 3 3] 25)).alloc (.cells #[.int .i64 2, .slice (some ⟨ba, 0, none⟩) 4 4, .slice (some ⟨bq, 0, none⟩) 2 2, .int .i64 4294967296, .int .i64 38654705664, .int .i64 1, .slice (some ⟨br, 0, none⟩) 3 3] 25)).alloc (.cells #[.int .i64 2, .slice (some ⟨ca, 0, none⟩) 4 4, .slice (some ⟨cq, 0, none⟩) 2 2, .int .i64 4294967296, .int .i64 38654705664, .int .i64 1, .slice (some ⟨cr, 0, none⟩) 3 3] 25)).alloc (.cells #[.int .i64 0, .int .i64 0, .int .i64 4294967296, .int .i64 0] 3)) = w4 := ⟨_, rfl⟩
  (try rw [hw4])
  have S4 : Hid (Kp w3 w4 ∧ Blk Z #[.int .i64 2, .slice (some ⟨Z + 3, 0, none⟩) 4 4, .slice (some ⟨aq, 0, none⟩) 2 2, .int .i64 4294967296, .int .i64 38654705664, .int .i64 1, .slice (some ⟨ar, 0, none⟩) 3 3] 25 w4 ∧ Blk (Z + 1) #[.int .i64 2, .slice (some ⟨ba, 0, none⟩) 4 4, .slice (some ⟨bq, 0, none⟩) 2 2, .int .i64 4294967296, .int .i64 38654705664, .int .i64 1, .slice (some ⟨br, 0, none⟩) 3 3] 25 w4 ∧ Blk (Z + 2) #[.int .i64 2, .slice (some ⟨ca, 0, none⟩) 4 4, .slice (some ⟨cq, 0, none⟩) 2 2, .int .i64 4294967296, .int .i64 38654705664, .int .i64 1, .slice (some ⟨cr, 0, none⟩) 3 3] 25 w4 ∧ Blk (Z + 3) #[.int .i64 0, .int .i64 0, .int .i64 4294967296, .int .i64 0] 3 w4) := by
    subst hZ
    have q0 := Blk.new w3 #[.int .i64 2, .slice (some ⟨w3.heap.size + 3, 0, none⟩) 4 4, .slice (some ⟨aq, 0, none⟩) 2 2, .int .i64 4294967296, .int .i64 38654705664, .int .i64 1, .slice (some ⟨ar, 0, none⟩) 3 3] 25
    have g0 : Grown w3 (w3.alloc (.cells #[.int .i64 2, .slice (some ⟨w3.heap.size + 3, 0, none⟩) 4 4, .slice (some ⟨aq, 0, none⟩) 2 2, .int .i64 4294967296, .int .i64 38654705664, .int .i64 1, .slice (some ⟨ar, 0, none⟩) 3 3] 25)) := (Grown.refl _).alloc _ _
    have z0 : (w3.alloc (.cells #[.int .i64 2, .slice (some ⟨w3.heap.size + 3, 0, none⟩) 4 4, .slice (some ⟨aq, 0, none⟩) 2 2, .int .i64 4294967296, .int .i64 38654705664, .int .i64 1, .slice (some ⟨ar, 0, none⟩) 3 3] 25)).heap.size = w3.heap.size + 1 := by simp
    rw [show w3.heap.size + 1 + 1 + 1 = w3.heap.size + 3 from rfl] at hw4
    generalize (w3.alloc (.cells #[.int .i64 2, .slice (some ⟨w3.heap.size + 3, 0, none⟩) 4 4, .slice (some ⟨aq, 0, none⟩) 2 2, .int .i64 4294967296, .int .i64 38654705664, .int .i64 1, .slice (some ⟨ar, 0, none⟩) 3 3] 25)) = v1 at *
    have q1 := Blk.new v1 #[.int .i64 2, .slice (some ⟨ba, 0, none⟩) 4 4, .slice (some ⟨bq, 0, none⟩) 2 2, .int .i64 4294967296, .int .i64 38654705664, .int .i64 1, .slice (some ⟨br, 0, none⟩) 3 3] 25
    have g1 : Grown v1 (v1.alloc (.cells #[.int .i64 2, .slice (some ⟨ba, 0, none⟩) 4 4, .slice (some ⟨bq, 0, none⟩) 2 2, .int .i64 4294967296, .int .i64 38654705664, .int .i64 1, .slice (some ⟨br, 0, none⟩) 3 3] 25)) := (Grown.refl _).alloc _ _
    have z1 : (v1.alloc (.cells #[.int .i64 2, .slice (some ⟨ba, 0, none⟩) 4 4, .slice (some ⟨bq, 0, none⟩) 2 2, .int .i64 4294967296, .int .i64 38654705664, .int .i64 1, .slice (some ⟨br, 0, none⟩) 3 3] 25)).heap.size = w3.heap.size + 2 := by simp; omega
    rw [z0] at q1
    generalize (v1.alloc (.cells #[.int .i64 2, .slice (some ⟨ba, 0, none⟩) 4 4, .slice (some ⟨bq, 0, none⟩) 2 2, .int .i64 4294967296, .int .i64 38654705664, .int .i64 1, .slice (some ⟨br, 0, none⟩) 3 3] 25)) = v2 at *
    have q2 := Blk.new v2 #[.int .i64 2, .slice (some ⟨ca, 0, none⟩) 4 4, .slice (some ⟨cq, 0, none⟩) 2 2, .int .i64 4294967296, .int .i64 38654705664, .int .i64 1, .slice (some ⟨cr, 0, none⟩) 3 3] 25
    have g2 : Grown v2 (v2.alloc (.cells #[.int .i64 2, .slice (some ⟨ca, 0, none⟩) 4 4, .slice (some ⟨cq, 0, none⟩) 2 2, .int .i64 4294967296, .int .i64 38654705664, .int .i64 1, .slice (some ⟨cr, 0, none⟩) 3 3] 25)) := (Grown.refl _).alloc _ _
    have z2 : (v2.alloc (.cells #[.int .i64 2, .slice (some ⟨ca, 0, none⟩) 4 4, .slice (some ⟨cq, 0, none⟩) 2 2, .int .i64 4294967296, .int .i64 38654705664, .int .i64 1, .slice (some ⟨cr, 0, none⟩) 3 3] 25)).heap.size = w3.heap.size + 3 := by simp; omega
    rw [z1] at q2
    generalize (v2.alloc (.cells #[.int .i64 2, .slice (some ⟨ca, 0, none⟩) 4 4, .slice (some ⟨cq, 0, none⟩) 2 2, .int .i64 4294967296, .int .i64 38654705664, .int .i64 1, .slice (some ⟨cr, 0, none⟩) 3 3] 25)) = v3 at *
    have q3 := Blk.new v3 #[.int .i64 0, .int .i64 0, .int .i64 4294967296, .int .i64 0] 3
    have g3 : Grown v3 (v3.alloc (.cells #[.int .i64 0, .int .i64 0, .int .i64 4294967296, .int .i64 0] 3)) := (Grown.refl _).alloc _ _
    rw [z2] at q3
    rw [hw4] at q3 g3
    exact ⟨Kp.of (gtrans (gtrans (gtrans g0 g1) g2) g3), Blk.grown (Blk.grown (Blk.grown q0 g1) g2) g3, Blk.grown (Blk.grown q1 g2) g3, Blk.grown q2 g3, q3⟩
  have BD : Hid ((w.heap.size ≤ br ∧ w.heap.size ≤ cr ∧ br < Z ∧ cr < Z) ∧ (br ≠ cr ∧ br < w2.heap.size ∧ w2.heap.size ≤ cr ∧ w1.heap.size ≤ br) ∧ (aq < w1.heap.size ∧ a0 < w1.heap.size ∧ a1 < w1.heap.size ∧ a2 < w1.heap.size ∧ ar < w1.heap.size) ∧ (ba < w2.heap.size ∧ bq < w2.heap.size ∧ b0 < w2.heap.size ∧ b1 < w2.heap.size ∧ b2 < w2.heap.size) ∧ (w2.heap.size ≤ ca ∧ w2.heap.size ≤ cq ∧ w2.heap.size ≤ c0 ∧ w2.heap.size ≤ c1 ∧ w2.heap.size ≤ c2)) := by
    obtain ⟨la, ⟨a1', a2', a3', a4', a5', a6'⟩, ka⟩ := unhide Ha
    obtain ⟨lb, ⟨b1', b2', b3', b4', b5', b6'⟩, kb⟩ := unhide Hb
    obtain ⟨lc, ⟨c1', c2', c3', c4', c5', c6'⟩, kc⟩ := unhide Hc
    have h1 := ka.2.2.2
    have h2 := kb.2.2.2
    have h3 := kc.2.2.2
    have h4 := Blk.lt b6'
    have h5 := Blk.lt c6'
    have h6 := lb.2.2.1
    have h7 := lc.2.2.1
    exact ⟨⟨by omega, by omega, by omega, by omega⟩, ⟨by omega, h4, h7, h6⟩, ⟨Blk.lt a2', Blk.lt a3', Blk.lt a4', Blk.lt a5', Blk.lt a6'⟩, ⟨Blk.lt b1', Blk.lt b2', Blk.lt b3', Blk.lt b4', Blk.lt b5'⟩, lc.1, lc.2.1, lc.2.2.2.1, lc.2.2.2.2.1, lc.2.2.2.2.2⟩
  have L4 : Hid ((Blk (Z + 3) #[.int .i64 0, .int .i64 0, .int .i64 4294967296, .int .i64 0] 3 w4 ∧ Blk aq #[.int .i64 0, .int .i64 1] 3 w4 ∧ Blk a0 #[.int .i64 4294967296, .int .i64 0] 3 w4 ∧ Blk a1 #[.int .i64 0, .int .i64 4294967296] 3 w4 ∧ Blk a2 #[.int .i64 4294967296, .int .i64 4294967296] 3 w4 ∧ Blk ar #[.int .i64 3, .slice (some ⟨a0, 0, none⟩) 2 2, .int .i64 5, .int .i64 3, .slice (some ⟨a1, 0, none⟩) 2 2, .int .i64 5, .int .i64 7, .slice (some ⟨a2, 0, none⟩) 2 2, .int .i64 1] 41 w4) ∧ (Blk ba #[.int .i64 0, .int .i64 4294967296, .int .i64 0, .int .i64 0] 3 w4 ∧ Blk bq #[.int .i64 0, .int .i64 1] 3 w4 ∧ Blk b0 #[.int .i64 4294967296, .int .i64 0] 3 w4 ∧ Blk b1 #[.int .i64 0, .int .i64 4294967296] 3 w4 ∧ Blk b2 #[.int .i64 4294967296, .int .i64 4294967296] 3 w4 ∧ Blk br #[.int .i64 3, .slice (some ⟨b0, 0, none⟩) 2 2, .int .i64 5, .int .i64 3, .slice (some ⟨b1, 0, none⟩) 2 2, .int .i64 5, .int .i64 7, .slice (some ⟨b2, 0, none⟩) 2 2, .int .i64 1] 41 w4) ∧ (Blk ca #[.int .i64 0, .int .i64 4294967296, .int .i64 0, .int .i64 0] 3 w4 ∧ Blk cq #[.int .i64 0, .int .i64 1] 3 w4 ∧ Blk c0 #[.int .i64 4294967296, .int .i64 0] 3 w4 ∧ Blk c1 #[.int .i64 0, .int .i64 4294967296] 3 w4 ∧ Blk c2 #[.int .i64 4294967296, .int .i64 4294967296] 3 w4 ∧ Blk cr #[.int .i64 3, .slice (some ⟨c0, 0, none⟩) 2 2, .int .i64 5, .int .i64 3, .slice (some ⟨c1, 0, none⟩) 2 2, .int .i64 5, .int .i64 7, .slice (some ⟨c2, 0, none⟩) 2 2, .int .i64 1] 41 w4) ∧ Kp w w4) := by
    obtain ⟨_, ⟨a1', a2', a3', a4', a5', a6'⟩, ka⟩ := unhide Ha
    obtain ⟨_, ⟨b1', b2', b3', b4', b5', b6'⟩, kb⟩ := unhide Hb
    obtain ⟨_, ⟨c1', c2', c3', c4', c5', c6'⟩, kc⟩ := unhide Hc
    have k4 := (unhide S4).1
    have k3 := kc.trans k4
    have k2 := kb.trans k3
    exact ⟨⟨(unhide S4).2.2.2.2, Blk.kp a2' k2, Blk.kp a3' k2, Blk.kp a4' k2, Blk.kp a5' k2, Blk.kp a6' k2⟩, ⟨Blk.kp b1' k3, Blk.kp b2' k3, Blk.kp b3' k3, Blk.kp b4' k3, Blk.kp b5' k3, Blk.kp b6' k3⟩, ⟨Blk.kp c1' k4, Blk.kp c2' k4, Blk.kp c3' k4, Blk.kp c4' k4, Blk.kp c5' k4, Blk.kp c6' k4⟩, ka.trans k2⟩
  clear Ha Hb Hc hw4 hZ
  have y1 : w4.cell? ⟨Z + 1, 6, none⟩ = some (.slice (some ⟨br, 0, none⟩) 3 3) := Blk.cell (unhide S4).2.2.1 6
  have y2 : w4.cell? ⟨Z + 1 + 1, 6, none⟩ = some (.slice (some ⟨cr, 0, none⟩) 3 3) := Blk.cell (unhide S4).2.2.2.1 6
  have y3 : w4.cell? ⟨br, 5, none⟩ = some (.int .i64 5) := Blk.cell (unhide L4).2.1.2.2.2.2.2 5
  have y4 : w4.cell? ⟨cr, 0, none⟩ = some (.int .i64 3) := Blk.cell (unhide L4).2.2.1.2.2.2.2.2 0
  have f3 := Blk.free (unhide L4).2.1.2.2.2.2.2
  have f4 := Blk.free (unhide L4).2.2.1.2.2.2.2.2
  have n1 : br ≠ cr := (unhide BD).2.1.1
  have n2 : cr ≠ br := n1.symm
  have n3 : Z + 1 + 1 ≠ br := Nat.ne_of_gt (Nat.lt_of_lt_of_le (unhide BD).1.2.2.1 (Nat.le_add_right Z 2))
  have n4 : Z + 1 ≠ br := Nat.ne_of_gt (Nat.lt_of_lt_of_le (unhide BD).1.2.2.1 (Nat.le_add_right Z 1))
  go_wp2_with fail
  clear y1 y2 y3 y4 f3 f4
  have L5 : Hid (∀ w5, (w4.setCell ⟨br, 5, none⟩ (.int .i64 0)).setCell ⟨cr, 0, none⟩ (.int .i64 7) = w5 → (Blk (Z + 3) #[.int .i64 0, .int .i64 0, .int .i64 4294967296, .int .i64 0] 3 w5 ∧ Blk aq #[.int .i64 0, .int .i64 1] 3 w5 ∧ Blk a0 #[.int .i64 4294967296, .int .i64 0] 3 w5 ∧ Blk a1 #[.int .i64 0, .int .i64 4294967296] 3 w5 ∧ Blk a2 #[.int .i64 4294967296, .int .i64 4294967296] 3 w5 ∧ Blk ar #[.int .i64 3, .slice (some ⟨a0, 0, none⟩) 2 2, .int .i64 5, .int .i64 3, .slice (some ⟨a1, 0, none⟩) 2 2, .int .i64 5, .int .i64 7, .slice (some ⟨a2, 0, none⟩) 2 2, .int .i64 1] 41 w5) ∧ (Blk ba #[.int .i64 0, .int .i64 4294967296, .int .i64 0, .int .i64 0] 3 w5 ∧ Blk bq #[.int .i64 0, .int .i64 1] 3 w5 ∧ Blk b0 #[.int .i64 4294967296, .int .i64 0] 3 w5 ∧ Blk b1 #[.int .i64 0, .int .i64 4294967296] 3 w5 ∧ Blk b2 #[.int .i64 4294967296, .int .i64 4294967296] 3 w5 ∧ Blk br #[.int .i64 3, .slice (some ⟨b0, 0, none⟩) 2 2, .int .i64 5, .int .i64 3, .slice (some ⟨b1, 0, none⟩) 2 2, .int .i64 0, .int .i64 7, .slice (some ⟨b2, 0, none⟩) 2 2, .int .i64 1] 41 w5) ∧ (Blk ca #[.int .i64 0, .int .i64 4294967296, .int .i64 0, .int .i64 0] 3 w5 ∧ Blk cq #[.int .i64 0, .int .i64 1] 3 w5 ∧ Blk c0 #[.int .i64 4294967296, .int .i64 0] 3 w5 ∧ Blk c1 #[.int .i64 0, .int .i64 4294967296] 3 w5 ∧ Blk c2 #[.int .i64 4294967296, .int .i64 4294967296] 3 w5 ∧ Blk cr #[.int .i64 7, .slice (some ⟨c0, 0, none⟩) 2 2, .int .i64 5, .int .i64 3, .slice (some ⟨c1, 0, none⟩) 2 2, .int .i64 5, .int .i64 7, .slice (some ⟨c2, 0, none⟩) 2 2, .int .i64 1] 41 w5) ∧ Blk Z #[.int .i64 2, .slice (some ⟨Z + 3, 0, none⟩) 4 4, .slice (some ⟨aq, 0, none⟩) 2 2, .int .i64 4294967296, .int .i64 38654705664, .int .i64 1, .slice (some ⟨ar, 0, none⟩) 3 3] 25 w5 ∧ Blk (Z + 1) #[.int .i64 2, .slice (some ⟨ba, 0, none⟩) 4 4, .slice (some ⟨bq, 0, none⟩) 2 2, .int .i64 4294967296, .int .i64 38654705664, .int .i64 1, .slice (some ⟨br, 0, none⟩) 3 3] 25 w5 ∧ Blk (Z + 2) #[.int .i64 2, .slice (some ⟨ca, 0, none⟩) 4 4, .slice (some ⟨cq, 0, none⟩) 2 2, .int .i64 4294967296, .int .i64 38654705664, .int .i64 1, .slice (some ⟨cr, 0, none⟩) 3 3] 25 w5 ∧ Kp w w5) := by
    rintro w5 rfl
    obtain ⟨⟨a1', a2', a3', a4', a5', a6'⟩, ⟨b1', b2', b3', b4', b5', b6'⟩, ⟨c1', c2', c3', c4', c5', c6'⟩, k4⟩ := unhide L4
    obtain ⟨⟨e1, e2, e3, e4⟩, ⟨e5, e6, e7, e8⟩, ⟨p1, p2, p3, p4, p5⟩, ⟨q1, q2, q3, q4, q5⟩, r1, r2, r3, r4, r5⟩ := unhide BD
    obtain ⟨_, x1, x2, x3, _⟩ := unhide S4
    have lA : ∀ {q : Nat}, q < w1.heap.size → q ≠ br ∧ q ≠ cr := fun h => ⟨Nat.ne_of_lt (Nat.lt_of_lt_of_le h e8), Nat.ne_of_lt (Nat.lt_of_lt_of_le (Nat.lt_of_lt_of_le h e8) (Nat.le_of_lt (Nat.lt_of_lt_of_le e6 e7)))⟩
    have lB : ∀ {q : Nat}, q < w2.heap.size → q ≠ cr := fun h => Nat.ne_of_lt (Nat.lt_of_lt_of_le h e7)
    have lC : ∀ {q : Nat}, w2.heap.size ≤ q → q ≠ br := fun h => Nat.ne_of_gt (Nat.lt_of_lt_of_le e6 h)
    have lZ : ∀ {q : Nat}, Z ≤ q → q ≠ br ∧ q ≠ cr := fun h => ⟨Nat.ne_of_gt (Nat.lt_of_lt_of_le e3 h), Nat.ne_of_gt (Nat.lt_of_lt_of_le e4 h)⟩
    have m1 : Mod br w4 (w4.setCell ⟨br, 5, none⟩ (.int .i64 0)) := (Mod.refl _ _).setCell _ _
    have m2 : Mod cr (w4.setCell ⟨br, 5, none⟩ (.int .i64 0)) ((w4.setCell ⟨br, 5, none⟩ (.int .i64 0)).setCell ⟨cr, 0, none⟩ (.int .i64 7)) := (Mod.refl _ _).setCell _ _
    have kk : ∀ {q : Nat} {cs : Array Value} {T : TypeId}, Blk q cs T w4 → q ≠ br → q ≠ cr → Blk q cs T ((w4.setCell ⟨br, 5, none⟩ (.int .i64 0)).setCell ⟨cr, 0, none⟩ (.int .i64 7)) := fun h n1 n2 => Blk.keep (Blk.keep h m1 n1) m2 n2
    have kE := (k4.mod m1 e1).mod m2 e2
    exact ⟨⟨kk a1' (lZ (Nat.le_add_right Z 3)).1 (lZ (Nat.le_add_right Z 3)).2, kk a2' (lA p1).1 (lA p1).2, kk a3' (lA p2).1 (lA p2).2, kk a4' (lA p3).1 (lA p3).2, kk a5' (lA p4).1 (lA p4).2, kk a6' (lA p5).1 (lA p5).2⟩, ⟨kk b1' (blk_ne' b1' b6') (lB q1), kk b2' (blk_ne' b2' b6') (lB q2), kk b3' (blk_ne' b3' b6') (lB q3), kk b4' (blk_ne' b4' b6') (lB q4), kk b5' (blk_ne' b5' b6') (lB q5), Blk.keep (Blk.set b6' 5 _) m2 e5⟩, ⟨kk c1' (lC r1) (blk_ne' c1' c6'), kk c2' (lC r2) (blk_ne' c2' c6'), kk c3' (lC r3) (blk_ne' c3' c6'), kk c4' (lC r4) (blk_ne' c4' c6'), kk c5' (lC r5) (blk_ne' c5' c6'), Blk.set (Blk.keep c6' m1 e5.symm) 0 _⟩, kk x1 (lZ (Nat.le_refl Z)).1 (lZ (Nat.le_refl Z)).2, kk x2 (lZ (Nat.le_add_right Z 1)).1 (lZ (Nat.le_add_right Z 1)).2, kk x3 (lZ (Nat.le_add_right Z 2)).1 (lZ (Nat.le_add_right Z 2)).2, kE⟩
  obtain ⟨w5, hw5⟩ : ∃ w5, (w4.setCell ⟨br, 5, none⟩ (.int .i64 0)).setCell ⟨cr, 0, none⟩ (.int .i64 7) = w5 := ⟨_, rfl⟩
  rw [hw5]
  have L5 := hide (unhide L5 w5 hw5)
  clear L4 S4 BD n1 n2 n3 n4 hw5
  refine (lawBelief 1 (by unfold I64; omega) w5).mono ?_
  rintro e w6 ⟨xb, xp, rfl, gx, _, k6⟩
  dsimp only [belV, BV.cells, lv]
  have GX := hide gx
  have K6 := hide k6
  clear gx k6
  go_wp2_with fail
  refine (lawBelief 1 (by unfold I64; omega) w6).mono ?_
  rintro e w7 ⟨yb, yp, rfl, gy, _, k7⟩
  dsimp only [belV, BV.cells, lv]
  have GY := hide gy
  have K7 := hide k7
  clear gy k7
  go_upto_region 8 with fail
  have S8 : Hid (∀ w8, ((w7.alloc (.cells #[.int .i64 4, .slice (some ⟨xb, 0, none⟩) 1 2, .slice (some ⟨xp, 0, none⟩) 4 4, .bool false, .int .i64 0, .int .i64 0] 27)).alloc (.cells #[.int .i64 (-1), .slice (some ⟨yb, 0, none⟩) 2 2, .slice (some ⟨yp, 0, none⟩) 4 4, .bool false, .int .i64 0, .int .i64 0] 27)) = w8 → Blk w7.heap.size #[.int .i64 4, .slice (some ⟨xb, 0, none⟩) 1 2, .slice (some ⟨xp, 0, none⟩) 4 4, .bool false, .int .i64 0, .int .i64 0] 27 w8 ∧ Blk (w7.heap.size + 1) #[.int .i64 (-1), .slice (some ⟨yb, 0, none⟩) 2 2, .slice (some ⟨yp, 0, none⟩) 4 4, .bool false, .int .i64 0, .int .i64 0] 27 w8 ∧ Kp w7 w8) := by
    rintro w8 rfl
    exact ⟨Blk.grown (Blk.new w7 _ _) ((Grown.refl _).alloc _ _), blk_new2 w7 _ _ _, ((Kp.refl _).alloc _ _).alloc _ _⟩
  obtain ⟨T, hT⟩ : ∃ T, w7.heap.size = T := ⟨_, rfl⟩
  rw [hT] at S8
  simp only [hT]
  clear hT
  obtain ⟨w8, hw8⟩ : ∃ w8, ((w7.alloc (.cells #[.int .i64 4, .slice (some ⟨xb, 0, none⟩) 1 2, .slice (some ⟨xp, 0, none⟩) 4 4, .bool false, .int .i64 0, .int .i64 0] 27)).alloc (.cells #[.int .i64 (-1), .slice (some ⟨yb, 0, none⟩) 2 2, .slice (some ⟨yp, 0, none⟩) 4 4, .bool false, .int .i64 0, .int .i64 0] 27)) = w8 := ⟨_, rfl⟩
  rw [hw8]
  have S8 := hide (unhide S8 w8 hw8)
  clear hw8
  have K58 : Hid (Kp w5 w8) := ((unhide K6).trans (unhide K7)).trans (unhide S8).2.2
  have KW : Hid (Kp w w8) := (unhide L5).2.2.2.2.2.2.trans (unhide K58)
  have CA : Hid (∀ wx, Kp w8 wx → Blk Z #[.int .i64 2, .slice (some ⟨Z + 3, 0, none⟩) 4 4, .slice (some ⟨aq, 0, none⟩) 2 2, .int .i64 4294967296, .int .i64 38654705664, .int .i64 1, .slice (some ⟨ar, 0, none⟩) 3 3] 25 wx) := fun wx k => Blk.kp (unhide L5).2.2.2.1 ((unhide K58).trans k)
  have CB : Hid (∀ wx, Kp w8 wx → Blk (Z + 1) #[.int .i64 2, .slice (some ⟨ba, 0, none⟩) 4 4, .slice (some ⟨bq, 0, none⟩) 2 2, .int .i64 4294967296, .int .i64 38654705664, .int .i64 1, .slice (some ⟨br, 0, none⟩) 3 3] 25 wx) := fun wx k => Blk.kp (unhide L5).2.2.2.2.1 ((unhide K58).trans k)
  have CC : Hid (∀ wx, Kp w8 wx → Blk (Z + 2) #[.int .i64 2, .slice (some ⟨ca, 0, none⟩) 4 4, .slice (some ⟨cq, 0, none⟩) 2 2, .int .i64 4294967296, .int .i64 38654705664, .int .i64 1, .slice (some ⟨cr, 0, none⟩) 3 3] 25 wx) := fun wx k => Blk.kp (unhide L5).2.2.2.2.2.1 ((unhide K58).trans k)
  have CX : Hid (∀ wx, Kp w8 wx → Blk T #[.int .i64 4, .slice (some ⟨xb, 0, none⟩) 1 2, .slice (some ⟨xp, 0, none⟩) 4 4, .bool false, .int .i64 0, .int .i64 0] 27 wx) := fun wx k => Blk.kp (unhide S8).1 k
  have CY : Hid (∀ wx, Kp w8 wx → Blk (T + 1) #[.int .i64 (-1), .slice (some ⟨yb, 0, none⟩) 2 2, .slice (some ⟨yp, 0, none⟩) 4 4, .bool false, .int .i64 0, .int .i64 0] 27 wx) := fun wx k => Blk.kp (unhide S8).2.1 k
  have i5 : I64 5 := by unfold I64; omega
  have i0 : I64 0 := by unfold I64; omega
  have i3 : I64 3 := by unfold I64; omega
  have i7 : I64 7 := by unfold I64; omega
  have iA : ∀ x ∈ ([0, 0, 4294967296, 0] : List Int), I64 x := fun x hx => by simp at hx; unfold I64; omega
  have iB : ∀ x ∈ ([0, 4294967296, 0, 0] : List Int), I64 x := fun x hx => by simp at hx; unfold I64; omega
  have PA : Hid (∀ wx, Kp w8 wx → Calls Try.prog 15 #[.agg #[.int .i64 2, .slice (some ⟨Z + 3, 0, none⟩) 4 4, .slice (some ⟨aq, 0, none⟩) 2 2, .int .i64 4294967296, .int .i64 38654705664, .int .i64 1, .slice (some ⟨ar, 0, none⟩) 3 3]] wx fun e w' => e = .returned (.int .i64 2) ∧ Kp wx w') := fun wx k => by
    obtain ⟨⟨h1, h2, h3, h4, h5, h6⟩, _⟩ := unhide L5
    have q := (unhide K58).trans k
    have := pCheck (knV [0, 0, 4294967296, 0] 3 5 (Z + 3) aq ar a0 a1 a2) wx (kn_good rfl iA i3 i5 (Blk.kp h1 q) (Blk.kp h2 q) (Blk.kp h3 q) (Blk.kp h4 q) (Blk.kp h5 q) (Blk.kp h6 q))
    rw [kn_a] at this
    exact this
  have PB : Hid (∀ wx, Kp w8 wx → Calls Try.prog 15 #[.agg #[.int .i64 2, .slice (some ⟨ba, 0, none⟩) 4 4, .slice (some ⟨bq, 0, none⟩) 2 2, .int .i64 4294967296, .int .i64 38654705664, .int .i64 1, .slice (some ⟨br, 0, none⟩) 3 3]] wx fun e w' => e = .returned (.int .i64 2) ∧ Kp wx w') := fun wx k => by
    obtain ⟨_, ⟨h1, h2, h3, h4, h5, h6⟩, _⟩ := unhide L5
    have q := (unhide K58).trans k
    have := pCheck (knV [0, 4294967296, 0, 0] 3 0 ba bq br b0 b1 b2) wx (kn_good rfl iB i3 i0 (Blk.kp h1 q) (Blk.kp h2 q) (Blk.kp h3 q) (Blk.kp h4 q) (Blk.kp h5 q) (Blk.kp h6 q))
    rw [kn_b] at this
    exact this
  have PC : Hid (∀ wx, Kp w8 wx → Calls Try.prog 15 #[.agg #[.int .i64 2, .slice (some ⟨ca, 0, none⟩) 4 4, .slice (some ⟨cq, 0, none⟩) 2 2, .int .i64 4294967296, .int .i64 38654705664, .int .i64 1, .slice (some ⟨cr, 0, none⟩) 3 3]] wx fun e w' => e = .returned (.int .i64 2) ∧ Kp wx w') := fun wx k => by
    obtain ⟨_, _, ⟨h1, h2, h3, h4, h5, h6⟩, _⟩ := unhide L5
    have q := (unhide K58).trans k
    have := pCheck (knV [0, 4294967296, 0, 0] 7 5 ca cq cr c0 c1 c2) wx (kn_good rfl iB i7 i5 (Blk.kp h1 q) (Blk.kp h2 q) (Blk.kp h3 q) (Blk.kp h4 q) (Blk.kp h5 q) (Blk.kp h6 q))
    rw [kn_c] at this
    exact this
  have GX8 : Hid (∀ wx, Kp w8 wx → (belX xb xp).good wx) := fun wx k => belX_good ((unhide GX).kp (((unhide K7).trans (unhide S8).2.2).trans k))
  have GY8 : Hid (∀ wx, Kp w8 wx → (belY yb yp).good wx) := fun wx k => belY_good ((unhide GY).kp ((unhide S8).2.2.trans k))
  clear L5 GX GY K6 K7 S8 K58 i5 i0 i3 i7 iA iB
  have M0 : Hid (Kp w8 w8.drew) := (show Kp w8 w8 from Kp.refl _)
  refine region_G (fun w' => Kp w8 w') 39 (by kernel_rfl) (unhide M0) (fun hHeld => ?_)
  refine step_G (i := 0) (by kernel_rfl) (fun K hK => ?_)
  refine wpOp_of rfl rfl ?_
  unfold Oper.wp
  go_simp
  refine (lawAwakeMdl _).mono ?_
  rintro e x0 ⟨rfl, kk⟩
  have M1 := hide ((unhide M0).trans kk)
  clear kk
  clear hHeld
  refine hK _ _ (fun _ => unhide M1) ?_
  clear hK K M0
  have hHeld := unhide M1
  (try simp only [Act.put, List.setIfInBounds_toArray, List.set_cons_zero, List.set_cons_succ])
  refine take_G (i := 1) (d := 27) (v := .bool true) rfl rfl (by kernel_rfl) (by kernel_rfl) (by kernel_rfl) (by kernel_rfl) (by kernel_rfl) (Or.inl ⟨by rfl, ?_⟩) hHeld ?_
  · intro wS hSw
    clear hSw hHeld
    go_simp
  (try simp only [Act.put, List.setIfInBounds_toArray, List.set_cons_zero, List.set_cons_succ])
  refine step_G (i := 2) (by kernel_rfl) (fun K hK => ?_)
  refine wpOp_wantM rfl (by rfl) ?_
  unfold Oper.wp
  go_simp
  refine (lawTwo10 _).mono ?_
  rintro e x1 ⟨t1a, t1q, t1r, t10, t11, t12, rfl, gt, _, _, kk⟩
  have M2 := hide ((unhide M1).trans kk)
  have D1 : Hid (Calls Try.prog 19 #[.agg #[.int .i64 2, .slice (some ⟨t1a, 0, none⟩) 4 4, .slice (some ⟨t1q, 0, none⟩) 2 2, .int .i64 4294967296, .int .i64 38654705664, .int .i64 1, .slice (some ⟨t1r, 0, none⟩) 3 3], .int .i64 7] x1 fun e w' => e = .returned (.int .i64 1) ∧ Kp x1 w') := by
    have := pDim (twoV t1a t1q t1r t10 t11 t12) 7 x1 (by unfold I64; omega) gt
    rw [two_dim7] at this
    exact this
  clear kk gt
  clear hHeld
  refine hK _ _ (fun _ => unhide M2) ?_
  clear hK K M1
  have hHeld := unhide M2
  (try simp only [Act.put, List.setIfInBounds_toArray, List.set_cons_zero, List.set_cons_succ])
  refine step_G (i := 3) (by kernel_rfl) (fun K hK => ?_)
  refine wpOp_wantM rfl (by rfl) ?_
  unfold Oper.wp
  go_simp
  refine (unhide D1).mono ?_
  rintro e x2 ⟨rfl, kk⟩
  have M3 := hide ((unhide M2).trans kk)
  clear kk D1
  clear hHeld
  refine hK _ _ (fun _ => unhide M3) ?_
  clear hK K M2
  have hHeld := unhide M3
  (try simp only [Act.put, List.setIfInBounds_toArray, List.set_cons_zero, List.set_cons_succ])
  refine take_G (i := 4) (d := 30) (v := .bool true) rfl rfl (by kernel_rfl) (by kernel_rfl) (by kernel_rfl) (by kernel_rfl) (by kernel_rfl) (Or.inl ⟨by rfl, ?_⟩) hHeld ?_
  · intro wS hSw
    clear hSw hHeld
    go_simp
  (try simp only [Act.put, List.setIfInBounds_toArray, List.set_cons_zero, List.set_cons_succ])
  refine take_G (i := 5) (d := 31) (v := .bool true) rfl rfl (by kernel_rfl) (by kernel_rfl) (by kernel_rfl) (by kernel_rfl) (by kernel_rfl) (Or.inl ⟨by rfl, ?_⟩) hHeld ?_
  · intro wS hSw
    clear hSw hHeld
    go_simp
  (try simp only [Act.put, List.setIfInBounds_toArray, List.set_cons_zero, List.set_cons_succ])
  refine take_G (i := 6) (d := 32) (v := .bool true) rfl rfl (by kernel_rfl) (by kernel_rfl) (by kernel_rfl) (by kernel_rfl) (by kernel_rfl) (Or.inl ⟨by rfl, ?_⟩) hHeld ?_
  · intro wS hSw
    clear hSw hHeld
    go_simp
  (try simp only [Act.put, List.setIfInBounds_toArray, List.set_cons_zero, List.set_cons_succ])
  refine take_G (i := 7) (d := 33) (v := .agg #[.int .i64 2, .slice (some ⟨Z + 3, 0, none⟩) 4 4, .slice (some ⟨aq, 0, none⟩) 2 2, .int .i64 4294967296, .int .i64 38654705664, .int .i64 1, .slice (some ⟨ar, 0, none⟩) 3 3]) rfl rfl (by kernel_rfl) (by kernel_rfl) (by kernel_rfl) (by kernel_rfl) (by kernel_rfl) (Or.inl ⟨by rfl, ?_⟩) hHeld ?_
  · intro wS hSw
    have k0 : wS.cell? ⟨Z, 0, none⟩ = some (.int .i64 2) := Blk.cell (unhide CA wS hSw) 0
    have k1 : wS.cell? ⟨Z, 1, none⟩ = some (.slice (some ⟨Z + 3, 0, none⟩) 4 4) := Blk.cell (unhide CA wS hSw) 1
    have k2 : wS.cell? ⟨Z, 2, none⟩ = some (.slice (some ⟨aq, 0, none⟩) 2 2) := Blk.cell (unhide CA wS hSw) 2
    have k3 : wS.cell? ⟨Z, 3, none⟩ = some (.int .i64 4294967296) := Blk.cell (unhide CA wS hSw) 3
    have k4 : wS.cell? ⟨Z, 4, none⟩ = some (.int .i64 38654705664) := Blk.cell (unhide CA wS hSw) 4
    have k5 : wS.cell? ⟨Z, 5, none⟩ = some (.int .i64 1) := Blk.cell (unhide CA wS hSw) 5
    have k6 : wS.cell? ⟨Z, 6, none⟩ = some (.slice (some ⟨ar, 0, none⟩) 3 3) := Blk.cell (unhide CA wS hSw) 6
    clear hSw hHeld
    go_simp
  (try simp only [Act.put, List.setIfInBounds_toArray, List.set_cons_zero, List.set_cons_succ])
  refine step_G (i := 8) (by kernel_rfl) (fun K hK => ?_)
  refine wpOp_wantM rfl (by rfl) ?_
  unfold Oper.wp
  go_simp
  refine (unhide PA _ hHeld).mono ?_
  rintro e x3 ⟨rfl, kk⟩
  have M4 := hide ((unhide M3).trans kk)
  clear kk PA
  clear hHeld
  refine hK _ _ (fun _ => unhide M4) ?_
  clear hK K M3
  have hHeld := unhide M4
  (try simp only [Act.put, List.setIfInBounds_toArray, List.set_cons_zero, List.set_cons_succ])
  refine take_G (i := 9) (d := 35) (v := .bool true) rfl rfl (by kernel_rfl) (by kernel_rfl) (by kernel_rfl) (by kernel_rfl) (by kernel_rfl) (Or.inl ⟨by rfl, ?_⟩) hHeld ?_
  · intro wS hSw
    clear hSw hHeld
    go_simp
  (try simp only [Act.put, List.setIfInBounds_toArray, List.set_cons_zero, List.set_cons_succ])
  refine take_G (i := 10) (d := 36) (v := .bool true) rfl rfl (by kernel_rfl) (by kernel_rfl) (by kernel_rfl) (by kernel_rfl) (by kernel_rfl) (Or.inl ⟨by rfl, ?_⟩) hHeld ?_
  · intro wS hSw
    clear hSw hHeld
    go_simp
  (try simp only [Act.put, List.setIfInBounds_toArray, List.set_cons_zero, List.set_cons_succ])
  refine take_G (i := 11) (d := 37) (v := .bool true) rfl rfl (by kernel_rfl) (by kernel_rfl) (by kernel_rfl) (by kernel_rfl) (by kernel_rfl) (Or.inl ⟨by rfl, ?_⟩) hHeld ?_
  · intro wS hSw
    clear hSw hHeld
    go_simp
  (try simp only [Act.put, List.setIfInBounds_toArray, List.set_cons_zero, List.set_cons_succ])
  refine take_G (i := 12) (d := 38) (v := .agg #[.int .i64 2, .slice (some ⟨ba, 0, none⟩) 4 4, .slice (some ⟨bq, 0, none⟩) 2 2, .int .i64 4294967296, .int .i64 38654705664, .int .i64 1, .slice (some ⟨br, 0, none⟩) 3 3]) rfl rfl (by kernel_rfl) (by kernel_rfl) (by kernel_rfl) (by kernel_rfl) (by kernel_rfl) (Or.inl ⟨by rfl, ?_⟩) hHeld ?_
  · intro wS hSw
    have k0 : wS.cell? ⟨Z + 1, 0, none⟩ = some (.int .i64 2) := Blk.cell (unhide CB wS hSw) 0
    have k1 : wS.cell? ⟨Z + 1, 1, none⟩ = some (.slice (some ⟨ba, 0, none⟩) 4 4) := Blk.cell (unhide CB wS hSw) 1
    have k2 : wS.cell? ⟨Z + 1, 2, none⟩ = some (.slice (some ⟨bq, 0, none⟩) 2 2) := Blk.cell (unhide CB wS hSw) 2
    have k3 : wS.cell? ⟨Z + 1, 3, none⟩ = some (.int .i64 4294967296) := Blk.cell (unhide CB wS hSw) 3
    have k4 : wS.cell? ⟨Z + 1, 4, none⟩ = some (.int .i64 38654705664) := Blk.cell (unhide CB wS hSw) 4
    have k5 : wS.cell? ⟨Z + 1, 5, none⟩ = some (.int .i64 1) := Blk.cell (unhide CB wS hSw) 5
    have k6 : wS.cell? ⟨Z + 1, 6, none⟩ = some (.slice (some ⟨br, 0, none⟩) 3 3) := Blk.cell (unhide CB wS hSw) 6
    clear hSw hHeld
    go_simp
  (try simp only [Act.put, List.setIfInBounds_toArray, List.set_cons_zero, List.set_cons_succ])
  refine step_G (i := 13) (by kernel_rfl) (fun K hK => ?_)
  refine wpOp_wantM rfl (by rfl) ?_
  unfold Oper.wp
  go_simp
  refine (unhide PB _ hHeld).mono ?_
  rintro e x4 ⟨rfl, kk⟩
  have M5 := hide ((unhide M4).trans kk)
  clear kk PB
  clear hHeld
  refine hK _ _ (fun _ => unhide M5) ?_
  clear hK K M4
  have hHeld := unhide M5
  (try simp only [Act.put, List.setIfInBounds_toArray, List.set_cons_zero, List.set_cons_succ])
  refine take_G (i := 14) (d := 40) (v := .bool true) rfl rfl (by kernel_rfl) (by kernel_rfl) (by kernel_rfl) (by kernel_rfl) (by kernel_rfl) (Or.inl ⟨by rfl, ?_⟩) hHeld ?_
  · intro wS hSw
    clear hSw hHeld
    go_simp
  (try simp only [Act.put, List.setIfInBounds_toArray, List.set_cons_zero, List.set_cons_succ])
  refine take_G (i := 15) (d := 41) (v := .bool true) rfl rfl (by kernel_rfl) (by kernel_rfl) (by kernel_rfl) (by kernel_rfl) (by kernel_rfl) (Or.inl ⟨by rfl, ?_⟩) hHeld ?_
  · intro wS hSw
    clear hSw hHeld
    go_simp
  (try simp only [Act.put, List.setIfInBounds_toArray, List.set_cons_zero, List.set_cons_succ])
  refine take_G (i := 16) (d := 42) (v := .bool true) rfl rfl (by kernel_rfl) (by kernel_rfl) (by kernel_rfl) (by kernel_rfl) (by kernel_rfl) (Or.inl ⟨by rfl, ?_⟩) hHeld ?_
  · intro wS hSw
    clear hSw hHeld
    go_simp
  (try simp only [Act.put, List.setIfInBounds_toArray, List.set_cons_zero, List.set_cons_succ])
  refine take_G (i := 17) (d := 43) (v := .agg #[.int .i64 2, .slice (some ⟨ca, 0, none⟩) 4 4, .slice (some ⟨cq, 0, none⟩) 2 2, .int .i64 4294967296, .int .i64 38654705664, .int .i64 1, .slice (some ⟨cr, 0, none⟩) 3 3]) rfl rfl (by kernel_rfl) (by kernel_rfl) (by kernel_rfl) (by kernel_rfl) (by kernel_rfl) (Or.inl ⟨by rfl, ?_⟩) hHeld ?_
  · intro wS hSw
    have k0 : wS.cell? ⟨Z + 1 + 1, 0, none⟩ = some (.int .i64 2) := Blk.cell (unhide CC wS hSw) 0
    have k1 : wS.cell? ⟨Z + 1 + 1, 1, none⟩ = some (.slice (some ⟨ca, 0, none⟩) 4 4) := Blk.cell (unhide CC wS hSw) 1
    have k2 : wS.cell? ⟨Z + 1 + 1, 2, none⟩ = some (.slice (some ⟨cq, 0, none⟩) 2 2) := Blk.cell (unhide CC wS hSw) 2
    have k3 : wS.cell? ⟨Z + 1 + 1, 3, none⟩ = some (.int .i64 4294967296) := Blk.cell (unhide CC wS hSw) 3
    have k4 : wS.cell? ⟨Z + 1 + 1, 4, none⟩ = some (.int .i64 38654705664) := Blk.cell (unhide CC wS hSw) 4
    have k5 : wS.cell? ⟨Z + 1 + 1, 5, none⟩ = some (.int .i64 1) := Blk.cell (unhide CC wS hSw) 5
    have k6 : wS.cell? ⟨Z + 1 + 1, 6, none⟩ = some (.slice (some ⟨cr, 0, none⟩) 3 3) := Blk.cell (unhide CC wS hSw) 6
    clear hSw hHeld
    go_simp
  (try simp only [Act.put, List.setIfInBounds_toArray, List.set_cons_zero, List.set_cons_succ])
  refine step_G (i := 18) (by kernel_rfl) (fun K hK => ?_)
  refine wpOp_wantM rfl (by rfl) ?_
  unfold Oper.wp
  go_simp
  refine (unhide PC _ hHeld).mono ?_
  rintro e x5 ⟨rfl, kk⟩
  have M6 := hide ((unhide M5).trans kk)
  clear kk PC
  clear hHeld
  refine hK _ _ (fun _ => unhide M6) ?_
  clear hK K M5
  have hHeld := unhide M6
  (try simp only [Act.put, List.setIfInBounds_toArray, List.set_cons_zero, List.set_cons_succ])
  refine take_G (i := 19) (d := 45) (v := .bool true) rfl rfl (by kernel_rfl) (by kernel_rfl) (by kernel_rfl) (by kernel_rfl) (by kernel_rfl) (Or.inl ⟨by rfl, ?_⟩) hHeld ?_
  · intro wS hSw
    clear hSw hHeld
    go_simp
  (try simp only [Act.put, List.setIfInBounds_toArray, List.set_cons_zero, List.set_cons_succ])
  refine take_G (i := 20) (d := 46) (v := .bool true) rfl rfl (by kernel_rfl) (by kernel_rfl) (by kernel_rfl) (by kernel_rfl) (by kernel_rfl) (Or.inl ⟨by rfl, ?_⟩) hHeld ?_
  · intro wS hSw
    clear hSw hHeld
    go_simp
  (try simp only [Act.put, List.setIfInBounds_toArray, List.set_cons_zero, List.set_cons_succ])
  refine take_G (i := 21) (d := 47) (v := .bool true) rfl rfl (by kernel_rfl) (by kernel_rfl) (by kernel_rfl) (by kernel_rfl) (by kernel_rfl) (Or.inl ⟨by rfl, ?_⟩) hHeld ?_
  · intro wS hSw
    clear hSw hHeld
    go_simp
  (try simp only [Act.put, List.setIfInBounds_toArray, List.set_cons_zero, List.set_cons_succ])
  refine step_G (i := 22) (by kernel_rfl) (fun K hK => ?_)
  refine wpOp_wantM rfl (by rfl) ?_
  unfold Oper.wp
  go_simp
  refine (lawTwo10 _).mono ?_
  rintro e x2 ⟨t2a, t2q, t2r, t20, t21, t22, rfl, gt, _, _, kk⟩
  have M7 := hide ((unhide M6).trans kk)
  have G6 := hide gt
  clear kk gt
  clear hHeld
  refine hK _ _ (fun _ => unhide M7) ?_
  clear hK K M6
  have hHeld := unhide M7
  (try simp only [Act.put, List.setIfInBounds_toArray, List.set_cons_zero, List.set_cons_succ])
  refine step_G (i := 23) (by kernel_rfl) (fun K hK => ?_)
  refine wpOp_wantM rfl (by rfl) ?_
  unfold Oper.wp
  go_simp
  refine (lawBelief 1 (by unfold I64; omega) _).mono ?_
  rintro e x7 ⟨sb, sp, rfl, gs, _, kk⟩
  have M8 := hide ((unhide M7).trans kk)
  have F7 : Hid (Calls Try.prog 17 #[.agg #[.int .i64 2, .slice (some ⟨t2a, 0, none⟩) 4 4, .slice (some ⟨t2q, 0, none⟩) 2 2, .int .i64 4294967296, .int .i64 38654705664, .int .i64 1, .slice (some ⟨t2r, 0, none⟩) 3 3], .agg #[.int .i64 4, .slice (some ⟨sb, 0, none⟩) 2 2, .slice (some ⟨sp, 0, none⟩) 4 4, .bool false, .int .i64 0, .int .i64 0]] x7 fun e w' => e = .returned (.int .i64 0) ∧ Kp x7 w') := by
    have := pFits (twoV t2a t2q t2r t20 t21 t22) (belV sb sp 1) x7 ((unhide G6).kp kk) gs
    rw [two_fit1] at this
    exact this
  clear kk gs G6
  clear hHeld
  refine hK _ _ (fun _ => unhide M8) ?_
  clear hK K M7
  have hHeld := unhide M8
  (try simp only [Act.put, List.setIfInBounds_toArray, List.set_cons_zero, List.set_cons_succ])
  refine step_G (i := 24) (by kernel_rfl) (fun K hK => ?_)
  refine wpOp_wantM rfl (by rfl) ?_
  unfold Oper.wp
  go_simp
  refine (unhide F7).mono ?_
  rintro e x8 ⟨rfl, kk⟩
  have M9 := hide ((unhide M8).trans kk)
  clear kk F7
  clear hHeld
  refine hK _ _ (fun _ => unhide M9) ?_
  clear hK K M8
  have hHeld := unhide M9
  (try simp only [Act.put, List.setIfInBounds_toArray, List.set_cons_zero, List.set_cons_succ])
  refine take_G (i := 25) (d := 51) (v := .bool true) rfl rfl (by kernel_rfl) (by kernel_rfl) (by kernel_rfl) (by kernel_rfl) (by kernel_rfl) (Or.inl ⟨by rfl, ?_⟩) hHeld ?_
  · intro wS hSw
    clear hSw hHeld
    go_simp
  (try simp only [Act.put, List.setIfInBounds_toArray, List.set_cons_zero, List.set_cons_succ])
  refine take_G (i := 26) (d := 52) (v := .bool true) rfl rfl (by kernel_rfl) (by kernel_rfl) (by kernel_rfl) (by kernel_rfl) (by kernel_rfl) (Or.inl ⟨by rfl, ?_⟩) hHeld ?_
  · intro wS hSw
    clear hSw hHeld
    go_simp
  (try simp only [Act.put, List.setIfInBounds_toArray, List.set_cons_zero, List.set_cons_succ])
  refine take_G (i := 27) (d := 53) (v := .bool true) rfl rfl (by kernel_rfl) (by kernel_rfl) (by kernel_rfl) (by kernel_rfl) (by kernel_rfl) (Or.inl ⟨by rfl, ?_⟩) hHeld ?_
  · intro wS hSw
    clear hSw hHeld
    go_simp
  (try simp only [Act.put, List.setIfInBounds_toArray, List.set_cons_zero, List.set_cons_succ])
  refine take_G (i := 29) (d := 55) (v := .agg #[.int .i64 4, .slice (some ⟨xb, 0, none⟩) 1 2, .slice (some ⟨xp, 0, none⟩) 4 4, .bool false, .int .i64 0, .int .i64 0]) rfl rfl (by kernel_rfl) (by kernel_rfl) (by kernel_rfl) (by kernel_rfl) (by kernel_rfl) (Or.inl ⟨by rfl, ?_⟩) hHeld ?_
  · intro wS hSw
    have k0 : wS.cell? ⟨T, 0, none⟩ = some (.int .i64 4) := Blk.cell (unhide CX wS hSw) 0
    have k1 : wS.cell? ⟨T, 1, none⟩ = some (.slice (some ⟨xb, 0, none⟩) 1 2) := Blk.cell (unhide CX wS hSw) 1
    have k2 : wS.cell? ⟨T, 2, none⟩ = some (.slice (some ⟨xp, 0, none⟩) 4 4) := Blk.cell (unhide CX wS hSw) 2
    have k3 : wS.cell? ⟨T, 3, none⟩ = some (.bool false) := Blk.cell (unhide CX wS hSw) 3
    have k4 : wS.cell? ⟨T, 4, none⟩ = some (.int .i64 0) := Blk.cell (unhide CX wS hSw) 4
    have k5 : wS.cell? ⟨T, 5, none⟩ = some (.int .i64 0) := Blk.cell (unhide CX wS hSw) 5
    clear hSw hHeld
    go_simp
  (try simp only [Act.put, List.setIfInBounds_toArray, List.set_cons_zero, List.set_cons_succ])
  refine step_G (i := 28) (by kernel_rfl) (fun K hK => ?_)
  refine wpOp_wantM rfl (by rfl) ?_
  unfold Oper.wp
  go_simp
  refine (lawTwo10 _).mono ?_
  rintro e x9 ⟨t9a, t9q, t9r, t90, t91, t92, rfl, gt, _, _, kk⟩
  have M10 := hide ((unhide M9).trans kk)
  have F9 : Hid (Calls Try.prog 17 #[.agg #[.int .i64 2, .slice (some ⟨t9a, 0, none⟩) 4 4, .slice (some ⟨t9q, 0, none⟩) 2 2, .int .i64 4294967296, .int .i64 38654705664, .int .i64 1, .slice (some ⟨t9r, 0, none⟩) 3 3], .agg #[.int .i64 4, .slice (some ⟨xb, 0, none⟩) 1 2, .slice (some ⟨xp, 0, none⟩) 4 4, .bool false, .int .i64 0, .int .i64 0]] x9 fun e w' => e = .returned (.int .i64 3) ∧ Kp x9 w') := by
    have := pFits (twoV t9a t9q t9r t90 t91 t92) (belX xb xp) x9 gt (unhide GX8 x9 ((unhide M10)))
    rw [two_fitX] at this
    exact this
  clear kk gt
  clear hHeld
  refine hK _ _ (fun _ => unhide M10) ?_
  clear hK K M9
  have hHeld := unhide M10
  (try simp only [Act.put, List.setIfInBounds_toArray, List.set_cons_zero, List.set_cons_succ])
  refine step_G (i := 30) (by kernel_rfl) (fun K hK => ?_)
  refine wpOp_wantM rfl (by rfl) ?_
  unfold Oper.wp
  go_simp
  refine (unhide F9).mono ?_
  rintro e y9 ⟨rfl, kk⟩
  have M11 := hide ((unhide M10).trans kk)
  clear kk F9
  clear hHeld
  refine hK _ _ (fun _ => unhide M11) ?_
  clear hK K M10
  have hHeld := unhide M11
  (try simp only [Act.put, List.setIfInBounds_toArray, List.set_cons_zero, List.set_cons_succ])
  refine take_G (i := 31) (d := 57) (v := .bool true) rfl rfl (by kernel_rfl) (by kernel_rfl) (by kernel_rfl) (by kernel_rfl) (by kernel_rfl) (Or.inl ⟨by rfl, ?_⟩) hHeld ?_
  · intro wS hSw
    clear hSw hHeld
    go_simp
  (try simp only [Act.put, List.setIfInBounds_toArray, List.set_cons_zero, List.set_cons_succ])
  refine take_G (i := 32) (d := 58) (v := .bool true) rfl rfl (by kernel_rfl) (by kernel_rfl) (by kernel_rfl) (by kernel_rfl) (by kernel_rfl) (Or.inl ⟨by rfl, ?_⟩) hHeld ?_
  · intro wS hSw
    clear hSw hHeld
    go_simp
  (try simp only [Act.put, List.setIfInBounds_toArray, List.set_cons_zero, List.set_cons_succ])
  refine take_G (i := 33) (d := 59) (v := .bool true) rfl rfl (by kernel_rfl) (by kernel_rfl) (by kernel_rfl) (by kernel_rfl) (by kernel_rfl) (Or.inl ⟨by rfl, ?_⟩) hHeld ?_
  · intro wS hSw
    clear hSw hHeld
    go_simp
  (try simp only [Act.put, List.setIfInBounds_toArray, List.set_cons_zero, List.set_cons_succ])
  refine take_G (i := 35) (d := 61) (v := .agg #[.int .i64 (-1), .slice (some ⟨yb, 0, none⟩) 2 2, .slice (some ⟨yp, 0, none⟩) 4 4, .bool false, .int .i64 0, .int .i64 0]) rfl rfl (by kernel_rfl) (by kernel_rfl) (by kernel_rfl) (by kernel_rfl) (by kernel_rfl) (Or.inl ⟨by rfl, ?_⟩) hHeld ?_
  · intro wS hSw
    have k0 : wS.cell? ⟨T + 1, 0, none⟩ = some (.int .i64 (-1)) := Blk.cell (unhide CY wS hSw) 0
    have k1 : wS.cell? ⟨T + 1, 1, none⟩ = some (.slice (some ⟨yb, 0, none⟩) 2 2) := Blk.cell (unhide CY wS hSw) 1
    have k2 : wS.cell? ⟨T + 1, 2, none⟩ = some (.slice (some ⟨yp, 0, none⟩) 4 4) := Blk.cell (unhide CY wS hSw) 2
    have k3 : wS.cell? ⟨T + 1, 3, none⟩ = some (.bool false) := Blk.cell (unhide CY wS hSw) 3
    have k4 : wS.cell? ⟨T + 1, 4, none⟩ = some (.int .i64 0) := Blk.cell (unhide CY wS hSw) 4
    have k5 : wS.cell? ⟨T + 1, 5, none⟩ = some (.int .i64 0) := Blk.cell (unhide CY wS hSw) 5
    clear hSw hHeld
    go_simp
  (try simp only [Act.put, List.setIfInBounds_toArray, List.set_cons_zero, List.set_cons_succ])
  refine step_G (i := 34) (by kernel_rfl) (fun K hK => ?_)
  refine wpOp_wantM rfl (by rfl) ?_
  unfold Oper.wp
  go_simp
  refine (lawTwo10 _).mono ?_
  rintro e x11 ⟨t11a, t11q, t11r, t110, t111, t112, rfl, gt, _, _, kk⟩
  have M12 := hide ((unhide M11).trans kk)
  have F11 : Hid (Calls Try.prog 17 #[.agg #[.int .i64 2, .slice (some ⟨t11a, 0, none⟩) 4 4, .slice (some ⟨t11q, 0, none⟩) 2 2, .int .i64 4294967296, .int .i64 38654705664, .int .i64 1, .slice (some ⟨t11r, 0, none⟩) 3 3], .agg #[.int .i64 (-1), .slice (some ⟨yb, 0, none⟩) 2 2, .slice (some ⟨yp, 0, none⟩) 4 4, .bool false, .int .i64 0, .int .i64 0]] x11 fun e w' => e = .returned (.int .i64 4) ∧ Kp x11 w') := by
    have := pFits (twoV t11a t11q t11r t110 t111 t112) (belY yb yp) x11 gt (unhide GY8 x11 ((unhide M12)))
    rw [two_fitY] at this
    exact this
  clear kk gt
  clear hHeld
  refine hK _ _ (fun _ => unhide M12) ?_
  clear hK K M11
  have hHeld := unhide M12
  (try simp only [Act.put, List.setIfInBounds_toArray, List.set_cons_zero, List.set_cons_succ])
  refine step_G (i := 36) (by kernel_rfl) (fun K hK => ?_)
  refine wpOp_wantM rfl (by rfl) ?_
  unfold Oper.wp
  go_simp
  refine (unhide F11).mono ?_
  rintro e y11 ⟨rfl, kk⟩
  have M13 := hide ((unhide M12).trans kk)
  clear kk F11
  clear hHeld
  refine hK _ _ (fun _ => unhide M13) ?_
  clear hK K M12
  have hHeld := unhide M13
  (try simp only [Act.put, List.setIfInBounds_toArray, List.set_cons_zero, List.set_cons_succ])
  refine take_G (i := 37) (d := 63) (v := .bool true) rfl rfl (by kernel_rfl) (by kernel_rfl) (by kernel_rfl) (by kernel_rfl) (by kernel_rfl) (Or.inl ⟨by rfl, ?_⟩) hHeld ?_
  · intro wS hSw
    clear hSw hHeld
    go_simp
  (try simp only [Act.put, List.setIfInBounds_toArray, List.set_cons_zero, List.set_cons_succ])
  refine take_G (i := 38) (d := 64) (v := .bool true) rfl rfl (by kernel_rfl) (by kernel_rfl) (by kernel_rfl) (by kernel_rfl) (by kernel_rfl) (Or.inl ⟨by rfl, ?_⟩) hHeld ?_
  · intro wS hSw
    clear hSw hHeld
    go_simp
  (try simp only [Act.put, List.setIfInBounds_toArray, List.set_cons_zero, List.set_cons_succ])
  refine step_G (i := 39) (by kernel_rfl) (fun K hK => ?_)
  refine wpOp_of rfl rfl ?_
  unfold Oper.wp
  go_simp
  refine hK _ _ (fun h => absurd rfl h) ?_
  clear hK K
  refine done_G (by kernel_rfl) ?_
  (try simp only [Act.put, List.setIfInBounds_toArray, List.set_cons_zero, List.set_cons_succ])
  clear hHeld
  refine noPanic_normalE ?_
  go_wp2
  go_ret
  exact ⟨rfl, (unhide KW).trans (unhide M13)⟩

end Go.Proofs.Ytpanfppnkgokdaa

/- The statement ModelKnown holds for every input: the law returns true, and its arguments read afterwards as before. No condition. -/
namespace Go.Proofs.Ytpanfppnkgokdaa.modelKnown
open Go.ChangeShapes Go.WideShapes Go.ChangeAt Go.RowKit Go.Joins Go.Proofs.Wd
set_option linter.unusedVariables false
set_option linter.unusedSimpArgs false
set_option maxRecDepth 10000

theorem own : ownKnob Try.prog.godebug = none := by kernel_rfl

set_option maxRecDepth 100000 in
theorem lifted (os : Os) (started : os.Started) (H : Type) (enc : TypeId × Value → H) :
    ReturnsInHanded {} Try.checked os 4 .any (Rows.modelKnownSpec.pre6 enc Try.prog Try.f4 Rows.modelKnownRow.domain false) (Rows.modelKnownSpec.post enc Try.prog Try.f4 false true false false) := by
  refine returnsInHanded_of_change (C := Try.checked) own started (by kernel_rfl) Try.func4
    (ChangeSpec.witness6 (enc := enc) (C := Try.checked) false ⟨#[], #[], []⟩ 8 (by kernel_rfl) (by kernel_rfl) (by kernel_rfl) (by kernel_rfl)) ?_
  intro W base args ds gs before hval0 hW hcnd _
  have hval : ∀ (j : Nat) t v, Try.f4.params[j]? = some t → args[j]? = some v → Value.okWide Try.prog W .any base t v := hval0
  have hW' := hW
  obtain ⟨p, q, hA0, hV, rfl, hfz, hnd⟩ := hW
  have hA : DataW.TrodAll enc Try.prog W 0 (fun _ => true) true Try.f4.params.toList args.toList ds p := hA0
  rw [Try.params4] at hA hval
  obtain ⟨hargs, rfl, rfl⟩ := trodAll_nil hA
  obtain rfl : args = #[] := by cases args; simp_all
  obtain ⟨rfl, rfl⟩ := trodVars_none hV
  have hlt := hW'.lt
  clear hA0 hval0
  refine (lawModelKnown W).mono fun e W' ⟨he, hg⟩ => ?_
  subst he
  exact ⟨_, rfl, post_of_kp (pa := []) (pv := []) hW' (fun _ => (trodAll_cons_mk (shut_bool Try.underlying4 _) trodAll_mk0)) trodAll_mk0 rfl hg⟩

end Go.Proofs.Ytpanfppnkgokdaa.modelKnown
namespace Go.Proofs.Ytpanfppnkgokdaa
theorem modelKnown_holds : Rows.ModelKnownSaid :=
  OpenClaim.holds_of_wide 4 Try.f4 rfl rfl rfl rfl rfl rfl rfl ⟨rfl, rfl, rfl, rfl, rfl⟩ rfl rfl rfl rfl rfl (by kernel_rfl) Try.func4 (by kernel_rfl)
    (of_decide_eq_true (by kernel_rfl)) (by unfold Func.isWrapper; first | (rw [if_pos (by decide +kernel)]; kernel_rfl) | (rw [if_neg (by decide +kernel)]; exact ⟨rfl, rfl⟩))
    (fun os started H enc _ => modelKnown.lifted os started H enc)
#print axioms modelKnown_holds
end Go.Proofs.Ytpanfppnkgokdaa
