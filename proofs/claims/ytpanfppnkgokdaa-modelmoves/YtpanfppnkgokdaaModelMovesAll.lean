/- MdlX MdlU MdlMv ModelMovesLaw, one after another. -/
import Derived.Test.YtpanfppnkgokdaaMdlProg
import Derived.Test.YtpanfppnkgokdaaMdlDoc
import Derived.Test.YtpanfppnkgokdaaMdlBase
import Derived.BigQuiet
import Derived.Test.YtpanfppnkgokdaaRows
import Derived.ProofKit
import Derived.OpenShut
import Derived.Lib.SmallJoins
/- A law over a model and a belief that are handed in: what is known, and copies. -/
namespace Go.Proofs.Ytpanfppnkgokdaa
open Go.RowKit Go.Shelf Go.Proofs.Wd
set_option linter.unusedVariables false
set_option linter.unusedSimpArgs false
set_option maxRecDepth 10000

theorem LV.okIn.good {x : LV} {W : World} (h : x.okIn W) : x.good W := ⟨h.row, ⟨h.le, h.nil⟩, h.nums⟩
theorem DV.okIn.good {m : DV} {W : World} (h : m.okIn W) (s : smallM m) : m.good W :=
  ⟨h.A.good, h.Q.good, h.rvs, fun i hi => ⟨(h.each i hi).h.good, (h.each i hi).s, (h.each i hi).r⟩, ⟨h.le, h.nil⟩, ⟨h.N, h.tick, h.gate, h.rmin⟩, s.1, s.2.1, s.2.2.1, s.2.2.2⟩
theorem BV.okIn.good {b : BV} {W : World} (h : b.okIn W) (s : smallB b) : b.good W := ⟨h.x.good, h.p.good, ⟨h.at', h.pass, h.fail⟩, by have := s.1; omega, s.2⟩
/-- Which blocks a model's lists lie in. -/
theorem lv_dep {x : LV} {w w' : World} (h : x.good w') (off : ∀ U, U < w.heap.size → Off U x.len x.ao) : ∃ Bs : List Nat, (∀ k ∈ Bs, w.heap.size ≤ k ∧ k < w'.heap.size) ∧ Dep Bs x.good := by
  obtain ⟨Bs, h1, h2⟩ := row_dep h.1 off
  exact ⟨Bs, h1, fun w1 w2 he hg => ⟨h2 w1 w2 he hg.1, hg.2⟩⟩
theorem rvs_dep {ro : Option Addr} {n : Nat} {X : Nat → RV} {w w' : World} (h : RVs w' ro n X) (off : ∀ U, U < w.heap.size → Off U n ro) : ∃ Bs : List Nat, (∀ k ∈ Bs, w.heap.size ≤ k ∧ k < w'.heap.size) ∧ Dep Bs (fun wx => RVs wx ro n X) := by
  by_cases hn : n = 0
  · exact ⟨[], fun _ h => absurd h List.not_mem_nil, fun _ _ _ _ => Or.inl hn⟩
  · rcases h with h0 | ⟨b, o, rfl, hc⟩
    · exact absurd h0 hn
    · have lt : b < w'.heap.size := by
        have := hc 0 (by omega) 0 (by omega)
        exact heap_gt (v := .int .i64 (X 0).s) this
      refine ⟨[b], fun k hk => ?_, fun w1 w2 he h => ?_⟩
      · rcases List.mem_singleton.1 hk with rfl
        exact ⟨Nat.le_of_not_lt fun hlt => off k hlt (by omega) _ rfl rfl, lt⟩
      · rcases h with h0 | ⟨b', o', e, hc'⟩
        · exact absurd h0 hn
        · cases e
          exact Or.inr ⟨b, o, rfl, fun i hi j hj => (World.cell?_of_block (he b (by simp))).trans (hc' i hi j hj)⟩
theorem each_dep {X : Nat → RV} {w w' : World} : ∀ n : Nat, (∀ i, i < n → (X i).h.good w' ∧ I64 (X i).s ∧ I64 (X i).r) → (∀ U, U < w.heap.size → ∀ i, i < n → Off U (X i).h.len (X i).h.ao) → ∃ Bs : List Nat, (∀ k ∈ Bs, w.heap.size ≤ k ∧ k < w'.heap.size) ∧ Dep Bs (fun wx => ∀ i, i < n → (X i).h.good wx ∧ I64 (X i).s ∧ I64 (X i).r)
  | 0, _, _ => ⟨[], fun _ h => absurd h List.not_mem_nil, fun _ _ _ _ i hi => absurd hi (Nat.not_lt_zero _)⟩
  | n + 1, h, off => by
    obtain ⟨A, a1, a2⟩ := each_dep n (fun i hi => h i (by omega)) (fun U hU i hi => off U hU i (by omega))
    obtain ⟨C, c1, c2⟩ := lv_dep (w := w) (h n (by omega)).1 (fun U hU => off U hU n (by omega))
    refine ⟨A ++ C, fun k hk => (List.mem_append.1 hk).elim (a1 k) (c1 k), fun w1 w2 he hg i hi => ?_⟩
    rcases Nat.lt_or_ge i n with h1 | h1
    · exact a2 w1 w2 (fun k hk => he k (List.mem_append_left _ hk)) (fun i hi => hg i (by omega)) i h1
    · obtain rfl : i = n := by omega
      exact ⟨c2 w1 w2 (fun k hk => he k (List.mem_append_right _ hk)) (hg i hi).1, (hg i hi).2⟩
theorem good_dep {m : DV} {w w' : World} (h : m.good w') (off : ∀ U, U < w.heap.size → Off U m.A.len m.A.ao ∧ Off U m.Q.len m.Q.ao ∧ Off U m.rl m.ro ∧ ∀ i, i < m.rl → Off U (m.X i).h.len (m.X i).h.ao) : ∃ Bs : List Nat, (∀ k ∈ Bs, w.heap.size ≤ k ∧ k < w'.heap.size) ∧ Dep Bs m.good := by
  obtain ⟨A, a1, a2⟩ := lv_dep (w := w) h.1 (fun U hU => (off U hU).1)
  obtain ⟨B, b1, b2⟩ := lv_dep (w := w) h.2.1 (fun U hU => (off U hU).2.1)
  obtain ⟨C, c1, c2⟩ := rvs_dep (w := w) h.2.2.1 (fun U hU => (off U hU).2.2.1)
  obtain ⟨D, d1, d2⟩ := each_dep (w := w) m.rl h.2.2.2.1 (fun U hU => (off U hU).2.2.2)
  refine ⟨A ++ (B ++ (C ++ D)), fun k hk => (List.mem_append.1 hk).elim (a1 k) (fun hk => (List.mem_append.1 hk).elim (b1 k) (fun hk => (List.mem_append.1 hk).elim (c1 k) (d1 k))), fun w1 w2 he hg => ⟨a2 w1 w2 (fun k hk => he k (by simp [hk])) hg.1, b2 w1 w2 (fun k hk => he k (by simp [hk])) hg.2.1, c2 w1 w2 (fun k hk => he k (by simp [hk])) hg.2.2.1, d2 w1 w2 (fun k hk => he k (by simp [hk])) hg.2.2.2.1, hg.2.2.2.2⟩⟩
/-- A copy of a model. -/
def GD (m : DV) (v : Value) (w : World) : Prop := ∃ m' : DV, v = .agg m'.cells ∧ m'.good w ∧ simD m m'
theorem gd_dep {m : DV} {w w' : World} {e : Ending} (h : CopyDP m w e w') : ∃ v Bs F, e = .returned v ∧ Kp w w' ∧ (∀ k ∈ Bs, w.heap.size ≤ k ∧ k < w'.heap.size) ∧ Dep Bs F ∧ F w' ∧ ∀ wx, F wx → GD m v wx := by
  obtain ⟨m', rfl, h1, h2, h3, h4⟩ := h
  obtain ⟨Bs, b1, b2⟩ := good_dep h1 h3
  exact ⟨_, Bs, m'.good, rfl, h4, b1, b2, h1, fun wx hg => ⟨m', rfl, hg, h2⟩⟩
end Go.Proofs.Ytpanfppnkgokdaa

/- ModelKnown. -/
namespace Go.Proofs.Ytpanfppnkgokdaa
open Go.RowKit Go.Shelf Go.Proofs Go.Proofs.Wd
set_option linter.unusedVariables false
set_option linter.unusedSimpArgs false
set_option maxRecDepth 10000
attribute [local go_sem ↓] Go.wp_at_zero Go.wp_at_succ

/-- The chapter's model, with another A, another R in its second row, another sensor in its first one. -/
def knX (s0 r1 : Int) (h0 h1 h2 : LV) (i : Nat) : RV := if i = 0 then ⟨s0, h0, 5⟩ else if i = 1 then ⟨3, h1, r1⟩ else ⟨7, h2, 1⟩
def knV (l : List Int) (s0 r1 : Int) (ba bq br b0 b1 b2 : Nat) : DV := ⟨2, lv ba 4 4 l, lv bq 2 2 [0, 1], 4294967296, 38654705664, 1, some ⟨br, 0, none⟩, 3, 3, knX s0 r1 (lv b0 2 2 [4294967296, 0]) (lv b1 2 2 [0, 4294967296]) (lv b2 2 2 [4294967296, 4294967296])⟩
theorem kn_good {w : World} {ba bq br b0 b1 b2 : Nat} {l : List Int} {s0 r1 : Int} (hl : l.length = 4) (hi : ∀ x ∈ l, I64 x) (is : I64 s0) (ir : I64 r1) (ha : Blk ba (l.map (Value.int .i64)).toArray 3 w) (hq : Blk bq #[.int .i64 0, .int .i64 1] 3 w) (h0 : Blk b0 #[.int .i64 4294967296, .int .i64 0] 3 w) (h1 : Blk b1 #[.int .i64 0, .int .i64 4294967296] 3 w) (h2 : Blk b2 #[.int .i64 4294967296, .int .i64 4294967296] 3 w)
    (hr : Blk br #[.int .i64 s0, .slice (some ⟨b0, 0, none⟩) 2 2, .int .i64 5, .int .i64 3, .slice (some ⟨b1, 0, none⟩) 2 2, .int .i64 r1, .int .i64 7, .slice (some ⟨b2, 0, none⟩) 2 2, .int .i64 1] 41 w) : (knV l s0 r1 ba bq br b0 b1 b2).good w := by
  have i : ∀ {x : Int}, x = 0 ∨ x = 1 ∨ x = 4294967296 → I64 x := fun h => by unfold I64; omega
  refine ⟨lv_good (l := l) ha hl hi, lv_good (l := [0, 1]) hq rfl (fun x hx => i (by simp at hx; omega)), Or.inr ⟨br, 0, rfl, fun k hk j hj => ?_⟩, fun k hk => ?_, ⟨Nat.le_refl _, fun e => by cases e⟩, ⟨by show I64 2; unfold I64; omega, by show I64 4294967296; unfold I64; omega, by show I64 38654705664; unfold I64; omega, by show I64 1; unfold I64; omega⟩, by show 4 ≤ 40; omega, by show 2 ≤ 12; omega, by show 3 ≤ 30; omega, fun k hk => ?_⟩
  · rw [Nat.zero_add, Blk.cell hr]
    have hk : k < 3 := hk
    have : k = 0 ∨ k = 1 ∨ k = 2 := by omega
    have hj' : j = 0 ∨ j = 1 ∨ j = 2 := by omega
    rcases this with rfl | rfl | rfl <;> rcases hj' with rfl | rfl | rfl <;> rfl
  · have hk : k < 3 := hk
    have : k = 0 ∨ k = 1 ∨ k = 2 := by omega
    rcases this with rfl | rfl | rfl
    · exact ⟨lv_good (l := [4294967296, 0]) h0 rfl (fun x hx => i (by simp at hx; omega)), is, by show I64 5; unfold I64; omega⟩
    · exact ⟨lv_good (l := [0, 4294967296]) h1 rfl (fun x hx => i (by simp at hx; omega)), by show I64 3; unfold I64; omega, ir⟩
    · exact ⟨lv_good (l := [4294967296, 4294967296]) h2 rfl (fun x hx => i (by simp at hx; omega)), by show I64 7; unfold I64; omega, by show I64 1; unfold I64; omega⟩
  · have hk : k < 3 := hk
    have : k = 0 ∨ k = 1 ∨ k = 2 := by omega
    rcases this with rfl | rfl | rfl <;> (show 2 ≤ 12; omega)
theorem kn_a (ba bq br b0 b1 b2 : Nat) : chkD (knV [0, 0, 4294967296, 0] 3 5 ba bq br b0 b1 b2) = 2 := if_neg (fun h => by
  have := ((h.2.1.2.2 1 (by show 1 < 2; omega)).2 0 (by show 0 < 2; omega)).2 (by omega)
  have this : (4294967296 : Int) = 0 := this
  omega)
theorem kn_b (ba bq br b0 b1 b2 : Nat) : chkD (knV [0, 4294967296, 0, 0] 3 0 ba bq br b0 b1 b2) = 2 := if_neg (fun h => by
  have := (h.2.2.2.2.2.2 1 (by show 1 < 3; omega)).2.2.1
  exact absurd this (by show ¬ (1 : Int) ≤ 0; decide))
theorem kn_c (ba bq br b0 b1 b2 : Nat) : chkD (knV [0, 4294967296, 0, 0] 7 5 ba bq br b0 b1 b2) = 2 := if_neg (fun h => by
  have := (h.2.2.2.2.2.2 1 (by show 1 < 3; omega)).1.2.2
  exact absurd this (by show ¬ (7 : Int) ≤ 3; decide))
theorem two_dim7 (ba bq br b0 b1 b2 : Nat) : ((seenR (twoV ba bq br b0 b1 b2).X 7 (twoV ba bq br b0 b1 b2).rl).length : Nat) = 1 := rfl
theorem bel_span {bx bp : Nat} {p : Int} : spanB (belV bx bp p) := ⟨⟨by show (0 : Int) ≤ 4; omega, by show (4 : Int) ≤ 1099511627776; omega⟩, ⟨by show (0 : Int) ≤ 0; omega, by show (0 : Int) ≤ 1099511627776; omega⟩, by show (0 : Int) ≤ 0; omega, by show (0 : Int) ≤ 1099511627776; omega⟩
theorem two_fit1 (ba bq br b0 b1 b2 bx bp : Nat) : fitD (twoV ba bq br b0 b1 b2) (belV bx bp 1) = 0 := by
  unfold fitD
  rw [if_pos (twoV_okD ba bq br b0 b1 b2), if_pos (show sizeB _ _ from ⟨rfl, rfl⟩), if_pos bel_span, if_pos ?_]
  intro i hi
  have hi : i < 2 := hi
  have : i = 0 ∨ i = 1 := by omega
  rcases this with rfl | rfl
  · refine ⟨by show (-9223372036854775807 : Int) ≤ 1; decide, by show (0 : Int) ≤ 3; decide, fun k hk => ?_⟩
    have hk : k < 2 := hk
    have : k = 0 ∨ k = 1 := by omega
    rcases this with rfl | rfl
    · exact ⟨by show (-9223372036854775807 : Int) ≤ 3; decide, rfl⟩
    · exact ⟨by show (-9223372036854775807 : Int) ≤ 1; decide, rfl⟩
  · refine ⟨by show (-9223372036854775807 : Int) ≤ 2; decide, by show (0 : Int) ≤ 3; decide, fun k hk => ?_⟩
    have hk : k < 2 := hk
    have : k = 0 ∨ k = 1 := by omega
    rcases this with rfl | rfl
    · exact ⟨by show (-9223372036854775807 : Int) ≤ 1; decide, rfl⟩
    · exact ⟨by show (-9223372036854775807 : Int) ≤ 3; decide, rfl⟩
def belX (bx bp : Nat) : BV := ⟨4, lv bx 1 2 [1, 2], lv bp 4 4 [3, 1, 1, 3], false, 0, 0⟩
def belY (bx bp : Nat) : BV := ⟨-1, lv bx 2 2 [1, 2], lv bp 4 4 [3, 1, 1, 3], false, 0, 0⟩
theorem two_fitX (ba bq br b0 b1 b2 bx bp : Nat) : fitD (twoV ba bq br b0 b1 b2) (belX bx bp) = 3 := by
  unfold fitD
  rw [if_pos (twoV_okD ba bq br b0 b1 b2), if_neg]
  intro h
  have : (1 : Int) = 2 := h.1
  omega
theorem two_fitY (ba bq br b0 b1 b2 bx bp : Nat) : fitD (twoV ba bq br b0 b1 b2) (belY bx bp) = 4 := by
  unfold fitD
  rw [if_pos (twoV_okD ba bq br b0 b1 b2), if_pos (show sizeB _ _ from ⟨rfl, rfl⟩), if_neg]
  intro h
  have : (0 : Int) ≤ -1 := h.1.1
  omega
theorem belX_good {w : World} {bx bp : Nat} (h : (belV bx bp 1).good w) : (belX bx bp).good w := by
  obtain ⟨⟨h1, h2, h3⟩, h4, h5, _, h6⟩ := h
  refine ⟨⟨?_, ⟨by show 1 ≤ 2; omega, fun e => by cases e⟩, fun i hi => h3 i (by have hi : i < 1 := hi; show i < 2; omega)⟩, h4, h5, by show 1 ≤ 13; omega, h6⟩
  rcases h1 with h | ⟨b, o, e, hc⟩
  · have h : (2 : Nat) = 0 := h
    omega
  · exact Or.inr ⟨b, o, e, fun i hi => hc i (by have hi : i < 1 := hi; show i < 2; omega)⟩
theorem belY_good {w : World} {bx bp : Nat} (h : (belV bx bp 1).good w) : (belY bx bp).good w := ⟨h.1, h.2.1, ⟨by show I64 (-1); unfold I64; omega, h.2.2.1.2⟩, h.2.2.2⟩


set_option maxRecDepth 50000 in
set_option maxHeartbeats 16000000 in
theorem lawModelKnown (w : World) : Calls Try.prog 4 #[] w fun e w' => e = .returned (.bool true) ∧ Kp w w' := by
  go_enter Try.func4, Try.ntmps4
  go_wp2_with fail
  refine (lawTwo10 w).mono ?_
  rintro e w1 ⟨aa, aq, ar, a0, a1, a2, rfl, _, la, ⟨aA, aL, aR⟩, k1⟩
  have Ha : Hid ((w.heap.size ≤ aa ∧ w.heap.size ≤ aq ∧ w.heap.size ≤ ar ∧ w.heap.size ≤ a0 ∧ w.heap.size ≤ a1 ∧ w.heap.size ≤ a2) ∧ (Blk aa #[.int .i64 0, .int .i64 4294967296, .int .i64 0, .int .i64 0] 3 w1 ∧ Blk aq #[.int .i64 0, .int .i64 1] 3 w1 ∧ Blk a0 #[.int .i64 4294967296, .int .i64 0] 3 w1 ∧ Blk a1 #[.int .i64 0, .int .i64 4294967296] 3 w1 ∧ Blk a2 #[.int .i64 4294967296, .int .i64 4294967296] 3 w1 ∧ Blk ar #[.int .i64 3, .slice (some ⟨a0, 0, none⟩) 2 2, .int .i64 5, .int .i64 3, .slice (some ⟨a1, 0, none⟩) 2 2, .int .i64 5, .int .i64 7, .slice (some ⟨a2, 0, none⟩) 2 2, .int .i64 1] 41 w1) ∧ Kp w w1) := ⟨la, ⟨aA, aL.1, aL.2.1, aL.2.2.1, aL.2.2.2, aR⟩, k1⟩
  clear la aA aL aR k1
  dsimp only [twoV, DV.cells, lv]
  go_wp2_with fail
  refine (lawTwo10 w1).mono ?_
  rintro e w2 ⟨ba, bq, br, b0, b1, b2, rfl, _, lb, ⟨bA, bL, bR⟩, k2⟩
  have Hb : Hid ((w1.heap.size ≤ ba ∧ w1.heap.size ≤ bq ∧ w1.heap.size ≤ br ∧ w1.heap.size ≤ b0 ∧ w1.heap.size ≤ b1 ∧ w1.heap.size ≤ b2) ∧ (Blk ba #[.int .i64 0, .int .i64 4294967296, .int .i64 0, .int .i64 0] 3 w2 ∧ Blk bq #[.int .i64 0, .int .i64 1] 3 w2 ∧ Blk b0 #[.int .i64 4294967296, .int .i64 0] 3 w2 ∧ Blk b1 #[.int .i64 0, .int .i64 4294967296] 3 w2 ∧ Blk b2 #[.int .i64 4294967296, .int .i64 4294967296] 3 w2 ∧ Blk br #[.int .i64 3, .slice (some ⟨b0, 0, none⟩) 2 2, .int .i64 5, .int .i64 3, .slice (some ⟨b1, 0, none⟩) 2 2, .int .i64 5, .int .i64 7, .slice (some ⟨b2, 0, none⟩) 2 2, .int .i64 1] 41 w2) ∧ Kp w1 w2) := ⟨lb, ⟨bA, bL.1, bL.2.1, bL.2.2.1, bL.2.2.2, bR⟩, k2⟩
  clear lb bA bL bR k2
  dsimp only [twoV, DV.cells, lv]
  go_wp2_with fail
  refine (lawTwo10 w2).mono ?_
  rintro e w3 ⟨ca, cq, cr, c0, c1, c2, rfl, _, lc, ⟨cA, cL, cR⟩, k3⟩
  have Hc : Hid ((w2.heap.size ≤ ca ∧ w2.heap.size ≤ cq ∧ w2.heap.size ≤ cr ∧ w2.heap.size ≤ c0 ∧ w2.heap.size ≤ c1 ∧ w2.heap.size ≤ c2) ∧ (Blk ca #[.int .i64 0, .int .i64 4294967296, .int .i64 0, .int .i64 0] 3 w3 ∧ Blk cq #[.int .i64 0, .int .i64 1] 3 w3 ∧ Blk c0 #[.int .i64 4294967296, .int .i64 0] 3 w3 ∧ Blk c1 #[.int .i64 0, .int .i64 4294967296] 3 w3 ∧ Blk c2 #[.int .i64 4294967296, .int .i64 4294967296] 3 w3 ∧ Blk cr #[.int .i64 3, .slice (some ⟨c0, 0, none⟩) 2 2, .int .i64 5, .int .i64 3, .slice (some ⟨c1, 0, none⟩) 2 2, .int .i64 5, .int .i64 7, .slice (some ⟨c2, 0, none⟩) 2 2, .int .i64 1] 41 w3) ∧ Kp w2 w3) := ⟨lc, ⟨cA, cL.1, cL.2.1, cL.2.2.1, cL.2.2.2, cR⟩, k3⟩
  clear lc cA cL cR k3
  dsimp only [twoV, DV.cells, lv]
  go_upto_region 3 with fail
  obtain ⟨Z, hZ⟩ : ∃ Z, w3.heap.size = Z := ⟨_, rfl⟩
  simp only [hZ]
  obtain ⟨w4, hw4⟩ : ∃ w4, ((((w3.alloc (.cells #[.int .i64 2, .slice (some ⟨Z + 1 + 1 + 1, 0, none⟩) 4 4, .slice (some ⟨aq, 0, none⟩) 2 2, .int .i64 4294967296, .int .i64 38654705664, .int .i64 1, .slice (some ⟨ar, 0, none⟩) 3 3] 25)).alloc (.cells #[.int .i64 2, .slice (some ⟨ba, 0, none⟩) 4 4, .slice (some ⟨bq, 0, none⟩) 2 2, .int .i64 4294967296, .int .i64 38654705664, .int .i64 1, .slice (some ⟨br, 0, none⟩) 3 3] 25)).alloc (.cells #[.int .i64 2, .slice (some ⟨ca, 0, none⟩) 4 4, .slice (some ⟨cq, 0, none⟩) 2 2, .int .i64 4294967296, .int .i64 38654705664, .int .i64 1, .slice (some ⟨cr, 0, none⟩) 3 3] 25)).alloc (.cells #[.int .i64 0, .int .i64 0, .int .i64 4294967296, .int .i64 0] 3)) = w4 := ⟨_, rfl⟩
  (try rw [hw4])
  have S4 : Hid (Kp w3 w4 ∧ Blk Z #[.int .i64 2, .slice (some ⟨Z + 3, 0, none⟩) 4 4, .slice (some ⟨aq, 0, none⟩) 2 2, .int .i64 4294967296, .int .i64 38654705664, .int .i64 1, .slice (some ⟨ar, 0, none⟩) 3 3] 25 w4 ∧ Blk (Z + 1) #[.int .i64 2, .slice (some ⟨ba, 0, none⟩) 4 4, .slice (some ⟨bq, 0, none⟩) 2 2, .int .i64 4294967296, .int .i64 38654705664, .int .i64 1, .slice (some ⟨br, 0, none⟩) 3 3] 25 w4 ∧ Blk (Z + 2) #[.int .i64 2, .slice (some ⟨ca, 0, none⟩) 4 4, .slice (some ⟨cq, 0, none⟩) 2 2, .int .i64 4294967296, .int .i64 38654705664, .int .i64 1, .slice (some ⟨cr, 0, none⟩) 3 3] 25 w4 ∧ Blk (Z + 3) #[.int .i64 0, .int .i64 0, .int .i64 4294967296, .int .i64 0] 3 w4) := by
    subst hZ
    have q0 := Blk.new w3 #[.int .i64 2, .slice (some ⟨w3.heap.size + 3, 0, none⟩) 4 4, .slice (some ⟨aq, 0, none⟩) 2 2, .int .i64 4294967296, .int .i64 38654705664, .int .i64 1, .slice (some ⟨ar, 0, none⟩) 3 3] 25
    have g0 : Grown w3 (w3.alloc (.cells #[.int .i64 2, .slice (some ⟨w3.heap.size + 3, 0, none⟩) 4 4, .slice (some ⟨aq, 0, none⟩) 2 2, .int .i64 4294967296, .int .i64 38654705664, .int .i64 1, .slice (some ⟨ar, 0, none⟩) 3 3] 25)) := (Grown.refl _).alloc _ _
    have z0 : (w3.alloc (.cells #[.int .i64 2, .slice (some ⟨w3.heap.size + 3, 0, none⟩) 4 4, .slice (some ⟨aq, 0, none⟩) 2 2, .int .i64 4294967296, .int .i64 38654705664, .int .i64 1, .slice (some ⟨ar, 0, none⟩) 3 3] 25)).heap.size = w3.heap.size + 1 := by simp
    rw [show w3.heap.size + 1 + 1 + 1 = w3.heap.size + 3 from rfl] at hw4
    generalize (w3.alloc (.cells #[.int .i64 2, .slice (some ⟨w3.heap.size + 3, 0, none⟩) 4 4, .slice (some ⟨aq, 0, none⟩) 2 2, .int .i64 4294967296, .int .i64 38654705664, .int .i64 1, .slice (some ⟨ar, 0, none⟩) 3 3] 25)) = v1 at *
    have q1 := Blk.new v1 #[.int .i64 2, .slice (some ⟨ba, 0, none⟩) 4 4, .slice (some ⟨bq, 0, none⟩) 2 2, .int .i64 4294967296, .int .i64 38654705664, .int .i64 1, .slice (some ⟨br, 0, none⟩) 3 3] 25
    have g1 : Grown v1 (v1.alloc (.cells #[.int .i64 2, .slice (some ⟨ba, 0, none⟩) 4 4, .slice (some ⟨bq, 0, none⟩) 2 2, .int .i64 4294967296, .int .i64 38654705664, .int .i64 1, .slice (some ⟨br, 0, none⟩) 3 3] 25)) := (Grown.refl _).alloc _ _
    have z1 : (v1.alloc (.cells #[.int .i64 2, .slice (some ⟨ba, 0, none⟩) 4 4, .slice (some ⟨bq, 0, none⟩) 2 2, .int .i64 4294967296, .int .i64 38654705664, .int .i64 1, .slice (some ⟨br, 0, none⟩) 3 3] 25)).heap.size = w3.heap.size + 2 := by simp; omega
    rw [z0] at q1
    generalize (v1.alloc (.cells #[.int .i64 2, .slice (some ⟨ba, 0, none⟩) 4 4, .slice (some ⟨bq, 0, none⟩) 2 2, .int .i64 4294967296, .int .i64 38654705664, .int .i64 1, .slice (some ⟨br, 0, none⟩) 3 3] 25)) = v2 at *
    have q2 := Blk.new v2 #[.int .i64 2, .slice (some ⟨ca, 0, none⟩) 4 4, .slice (some ⟨cq, 0, none⟩) 2 2, .int .i64 4294967296, .int .i64 38654705664, .int .i64 1, .slice (some ⟨cr, 0, none⟩) 3 3] 25
    have g2 : Grown v2 (v2.alloc (.cells #[.int .i64 2, .slice (some ⟨ca, 0, none⟩) 4 4, .slice (some ⟨cq, 0, none⟩) 2 2, .int .i64 4294967296, .int .i64 38654705664, .int .i64 1, .slice (some ⟨cr, 0, none⟩) 3 3] 25)) := (Grown.refl _).alloc _ _
    have z2 : (v2.alloc (.cells #[.int .i64 2, .slice (some ⟨ca, 0, none⟩) 4 4, .slice (some ⟨cq, 0, none⟩) 2 2, .int .i64 4294967296, .int .i64 38654705664, .int .i64 1, .slice (some ⟨cr, 0, none⟩) 3 3] 25)).heap.size = w3.heap.size + 3 := by simp; omega
    rw [z1] at q2
    generalize (v2.alloc (.cells #[.int .i64 2, .slice (some ⟨ca, 0, none⟩) 4 4, .slice (some ⟨cq, 0, none⟩) 2 2, .int .i64 4294967296, .int .i64 38654705664, .int .i64 1, .slice (some ⟨cr, 0, none⟩) 3 3] 25)) = v3 at *
    have q3 := Blk.new v3 #[.int .i64 0, .int .i64 0, .int .i64 4294967296, .int .i64 0] 3
    have g3 : Grown v3 (v3.alloc (.cells #[.int .i64 0, .int .i64 0, .int .i64 4294967296, .int .i64 0] 3)) := (Grown.refl _).alloc _ _
    rw [z2] at q3
    rw [hw4] at q3 g3
    exact ⟨Kp.of (gtrans (gtrans (gtrans g0 g1) g2) g3), Blk.grown (Blk.grown (Blk.grown q0 g1) g2) g3, Blk.grown (Blk.grown q1 g2) g3, Blk.grown q2 g3, q3⟩
  have BD : Hid ((w.heap.size ≤ br ∧ w.heap.size ≤ cr ∧ br < Z ∧ cr < Z) ∧ (br ≠ cr ∧ br < w2.heap.size ∧ w2.heap.size ≤ cr ∧ w1.heap.size ≤ br) ∧ (aq < w1.heap.size ∧ a0 < w1.heap.size ∧ a1 < w1.heap.size ∧ a2 < w1.heap.size ∧ ar < w1.heap.size) ∧ (ba < w2.heap.size ∧ bq < w2.heap.size ∧ b0 < w2.heap.size ∧ b1 < w2.heap.size ∧ b2 < w2.heap.size) ∧ (w2.heap.size ≤ ca ∧ w2.heap.size ≤ cq ∧ w2.heap.size ≤ c0 ∧ w2.heap.size ≤ c1 ∧ w2.heap.size ≤ c2)) := by
    obtain ⟨la, ⟨a1', a2', a3', a4', a5', a6'⟩, ka⟩ := unhide Ha
    obtain ⟨lb, ⟨b1', b2', b3', b4', b5', b6'⟩, kb⟩ := unhide Hb
    obtain ⟨lc, ⟨c1', c2', c3', c4', c5', c6'⟩, kc⟩ := unhide Hc
    have h1 := ka.2.2.2
    have h2 := kb.2.2.2
    have h3 := kc.2.2.2
    have h4 := Blk.lt b6'
    have h5 := Blk.lt c6'
    have h6 := lb.2.2.1
    have h7 := lc.2.2.1
    exact ⟨⟨by omega, by omega, by omega, by omega⟩, ⟨by omega, h4, h7, h6⟩, ⟨Blk.lt a2', Blk.lt a3', Blk.lt a4', Blk.lt a5', Blk.lt a6'⟩, ⟨Blk.lt b1', Blk.lt b2', Blk.lt b3', Blk.lt b4', Blk.lt b5'⟩, lc.1, lc.2.1, lc.2.2.2.1, lc.2.2.2.2.1, lc.2.2.2.2.2⟩
  have L4 : Hid ((Blk (Z + 3) #[.int .i64 0, .int .i64 0, .int .i64 4294967296, .int .i64 0] 3 w4 ∧ Blk aq #[.int .i64 0, .int .i64 1] 3 w4 ∧ Blk a0 #[.int .i64 4294967296, .int .i64 0] 3 w4 ∧ Blk a1 #[.int .i64 0, .int .i64 4294967296] 3 w4 ∧ Blk a2 #[.int .i64 4294967296, .int .i64 4294967296] 3 w4 ∧ Blk ar #[.int .i64 3, .slice (some ⟨a0, 0, none⟩) 2 2, .int .i64 5, .int .i64 3, .slice (some ⟨a1, 0, none⟩) 2 2, .int .i64 5, .int .i64 7, .slice (some ⟨a2, 0, none⟩) 2 2, .int .i64 1] 41 w4) ∧ (Blk ba #[.int .i64 0, .int .i64 4294967296, .int .i64 0, .int .i64 0] 3 w4 ∧ Blk bq #[.int .i64 0, .int .i64 1] 3 w4 ∧ Blk b0 #[.int .i64 4294967296, .int .i64 0] 3 w4 ∧ Blk b1 #[.int .i64 0, .int .i64 4294967296] 3 w4 ∧ Blk b2 #[.int .i64 4294967296, .int .i64 4294967296] 3 w4 ∧ Blk br #[.int .i64 3, .slice (some ⟨b0, 0, none⟩) 2 2, .int .i64 5, .int .i64 3, .slice (some ⟨b1, 0, none⟩) 2 2, .int .i64 5, .int .i64 7, .slice (some ⟨b2, 0, none⟩) 2 2, .int .i64 1] 41 w4) ∧ (Blk ca #[.int .i64 0, .int .i64 4294967296, .int .i64 0, .int .i64 0] 3 w4 ∧ Blk cq #[.int .i64 0, .int .i64 1] 3 w4 ∧ Blk c0 #[.int .i64 4294967296, .int .i64 0] 3 w4 ∧ Blk c1 #[.int .i64 0, .int .i64 4294967296] 3 w4 ∧ Blk c2 #[.int .i64 4294967296, .int .i64 4294967296] 3 w4 ∧ Blk cr #[.int .i64 3, .slice (some ⟨c0, 0, none⟩) 2 2, .int .i64 5, .int .i64 3, .slice (some ⟨c1, 0, none⟩) 2 2, .int .i64 5, .int .i64 7, .slice (some ⟨c2, 0, none⟩) 2 2, .int .i64 1] 41 w4) ∧ Kp w w4) := by
    obtain ⟨_, ⟨a1', a2', a3', a4', a5', a6'⟩, ka⟩ := unhide Ha
    obtain ⟨_, ⟨b1', b2', b3', b4', b5', b6'⟩, kb⟩ := unhide Hb
    obtain ⟨_, ⟨c1', c2', c3', c4', c5', c6'⟩, kc⟩ := unhide Hc
    have k4 := (unhide S4).1
    have k3 := kc.trans k4
    have k2 := kb.trans k3
    exact ⟨⟨(unhide S4).2.2.2.2, Blk.kp a2' k2, Blk.kp a3' k2, Blk.kp a4' k2, Blk.kp a5' k2, Blk.kp a6' k2⟩, ⟨Blk.kp b1' k3, Blk.kp b2' k3, Blk.kp b3' k3, Blk.kp b4' k3, Blk.kp b5' k3, Blk.kp b6' k3⟩, ⟨Blk.kp c1' k4, Blk.kp c2' k4, Blk.kp c3' k4, Blk.kp c4' k4, Blk.kp c5' k4, Blk.kp c6' k4⟩, ka.trans k2⟩
  clear Ha Hb Hc hw4 hZ
  have y1 : w4.cell? ⟨Z + 1, 6, none⟩ = some (.slice (some ⟨br, 0, none⟩) 3 3) := Blk.cell (unhide S4).2.2.1 6
  have y2 : w4.cell? ⟨Z + 1 + 1, 6, none⟩ = some (.slice (some ⟨cr, 0, none⟩) 3 3) := Blk.cell (unhide S4).2.2.2.1 6
  have y3 : w4.cell? ⟨br, 5, none⟩ = some (.int .i64 5) := Blk.cell (unhide L4).2.1.2.2.2.2.2 5
  have y4 : w4.cell? ⟨cr, 0, none⟩ = some (.int .i64 3) := Blk.cell (unhide L4).2.2.1.2.2.2.2.2 0
  have f3 := Blk.free (unhide L4).2.1.2.2.2.2.2
  have f4 := Blk.free (unhide L4).2.2.1.2.2.2.2.2
  have n1 : br ≠ cr := (unhide BD).2.1.1
  have n2 : cr ≠ br := n1.symm
  have n3 : Z + 1 + 1 ≠ br := Nat.ne_of_gt (Nat.lt_of_lt_of_le (unhide BD).1.2.2.1 (Nat.le_add_right Z 2))
  have n4 : Z + 1 ≠ br := Nat.ne_of_gt (Nat.lt_of_lt_of_le (unhide BD).1.2.2.1 (Nat.le_add_right Z 1))
  go_wp2_with fail
  clear y1 y2 y3 y4 f3 f4
  have L5 : Hid (∀ w5, (w4.setCell ⟨br, 5, none⟩ (.int .i64 0)).setCell ⟨cr, 0, none⟩ (.int .i64 7) = w5 → (Blk (Z + 3) #[.int .i64 0, .int .i64 0, .int .i64 4294967296, .int .i64 0] 3 w5 ∧ Blk aq #[.int .i64 0, .int .i64 1] 3 w5 ∧ Blk a0 #[.int .i64 4294967296, .int .i64 0] 3 w5 ∧ Blk a1 #[.int .i64 0, .int .i64 4294967296] 3 w5 ∧ Blk a2 #[.int .i64 4294967296, .int .i64 4294967296] 3 w5 ∧ Blk ar #[.int .i64 3, .slice (some ⟨a0, 0, none⟩) 2 2, .int .i64 5, .int .i64 3, .slice (some ⟨a1, 0, none⟩) 2 2, .int .i64 5, .int .i64 7, .slice (some ⟨a2, 0, none⟩) 2 2, .int .i64 1] 41 w5) ∧ (Blk ba #[.int .i64 0, .int .i64 4294967296, .int .i64 0, .int .i64 0] 3 w5 ∧ Blk bq #[.int .i64 0, .int .i64 1] 3 w5 ∧ Blk b0 #[.int .i64 4294967296, .int .i64 0] 3 w5 ∧ Blk b1 #[.int .i64 0, .int .i64 4294967296] 3 w5 ∧ Blk b2 #[.int .i64 4294967296, .int .i64 4294967296] 3 w5 ∧ Blk br #[.int .i64 3, .slice (some ⟨b0, 0, none⟩) 2 2, .int .i64 5, .int .i64 3, .slice (some ⟨b1, 0, none⟩) 2 2, .int .i64 0, .int .i64 7, .slice (some ⟨b2, 0, none⟩) 2 2, .int .i64 1] 41 w5) ∧ (Blk ca #[.int .i64 0, .int .i64 4294967296, .int .i64 0, .int .i64 0] 3 w5 ∧ Blk cq #[.int .i64 0, .int .i64 1] 3 w5 ∧ Blk c0 #[.int .i64 4294967296, .int .i64 0] 3 w5 ∧ Blk c1 #[.int .i64 0, .int .i64 4294967296] 3 w5 ∧ Blk c2 #[.int .i64 4294967296, .int .i64 4294967296] 3 w5 ∧ Blk cr #[.int .i64 7, .slice (some ⟨c0, 0, none⟩) 2 2, .int .i64 5, .int .i64 3, .slice (some ⟨c1, 0, none⟩) 2 2, .int .i64 5, .int .i64 7, .slice (some ⟨c2, 0, none⟩) 2 2, .int .i64 1] 41 w5) ∧ Blk Z #[.int .i64 2, .slice (some ⟨Z + 3, 0, none⟩) 4 4, .slice (some ⟨aq, 0, none⟩) 2 2, .int .i64 4294967296, .int .i64 38654705664, .int .i64 1, .slice (some ⟨ar, 0, none⟩) 3 3] 25 w5 ∧ Blk (Z + 1) #[.int .i64 2, .slice (some ⟨ba, 0, none⟩) 4 4, .slice (some ⟨bq, 0, none⟩) 2 2, .int .i64 4294967296, .int .i64 38654705664, .int .i64 1, .slice (some ⟨br, 0, none⟩) 3 3] 25 w5 ∧ Blk (Z + 2) #[.int .i64 2, .slice (some ⟨ca, 0, none⟩) 4 4, .slice (some ⟨cq, 0, none⟩) 2 2, .int .i64 4294967296, .int .i64 38654705664, .int .i64 1, .slice (some ⟨cr, 0, none⟩) 3 3] 25 w5 ∧ Kp w w5) := by
    rintro w5 rfl
    obtain ⟨⟨a1', a2', a3', a4', a5', a6'⟩, ⟨b1', b2', b3', b4', b5', b6'⟩, ⟨c1', c2', c3', c4', c5', c6'⟩, k4⟩ := unhide L4
    obtain ⟨⟨e1, e2, e3, e4⟩, ⟨e5, e6, e7, e8⟩, ⟨p1, p2, p3, p4, p5⟩, ⟨q1, q2, q3, q4, q5⟩, r1, r2, r3, r4, r5⟩ := unhide BD
    obtain ⟨_, x1, x2, x3, _⟩ := unhide S4
    have lA : ∀ {q : Nat}, q < w1.heap.size → q ≠ br ∧ q ≠ cr := fun h => ⟨Nat.ne_of_lt (Nat.lt_of_lt_of_le h e8), Nat.ne_of_lt (Nat.lt_of_lt_of_le (Nat.lt_of_lt_of_le h e8) (Nat.le_of_lt (Nat.lt_of_lt_of_le e6 e7)))⟩
    have lB : ∀ {q : Nat}, q < w2.heap.size → q ≠ cr := fun h => Nat.ne_of_lt (Nat.lt_of_lt_of_le h e7)
    have lC : ∀ {q : Nat}, w2.heap.size ≤ q → q ≠ br := fun h => Nat.ne_of_gt (Nat.lt_of_lt_of_le e6 h)
    have lZ : ∀ {q : Nat}, Z ≤ q → q ≠ br ∧ q ≠ cr := fun h => ⟨Nat.ne_of_gt (Nat.lt_of_lt_of_le e3 h), Nat.ne_of_gt (Nat.lt_of_lt_of_le e4 h)⟩
    have m1 : Mod br w4 (w4.setCell ⟨br, 5, none⟩ (.int .i64 0)) := (Mod.refl _ _).setCell _ _
    have m2 : Mod cr (w4.setCell ⟨br, 5, none⟩ (.int .i64 0)) ((w4.setCell ⟨br, 5, none⟩ (.int .i64 0)).setCell ⟨cr, 0, none⟩ (.int .i64 7)) := (Mod.refl _ _).setCell _ _
    have kk : ∀ {q : Nat} {cs : Array Value} {T : TypeId}, Blk q cs T w4 → q ≠ br → q ≠ cr → Blk q cs T ((w4.setCell ⟨br, 5, none⟩ (.int .i64 0)).setCell ⟨cr, 0, none⟩ (.int .i64 7)) := fun h n1 n2 => Blk.keep (Blk.keep h m1 n1) m2 n2
    have kE := (k4.mod m1 e1).mod m2 e2
    exact ⟨⟨kk a1' (lZ (Nat.le_add_right Z 3)).1 (lZ (Nat.le_add_right Z 3)).2, kk a2' (lA p1).1 (lA p1).2, kk a3' (lA p2).1 (lA p2).2, kk a4' (lA p3).1 (lA p3).2, kk a5' (lA p4).1 (lA p4).2, kk a6' (lA p5).1 (lA p5).2⟩, ⟨kk b1' (blk_ne' b1' b6') (lB q1), kk b2' (blk_ne' b2' b6') (lB q2), kk b3' (blk_ne' b3' b6') (lB q3), kk b4' (blk_ne' b4' b6') (lB q4), kk b5' (blk_ne' b5' b6') (lB q5), Blk.keep (Blk.set b6' 5 _) m2 e5⟩, ⟨kk c1' (lC r1) (blk_ne' c1' c6'), kk c2' (lC r2) (blk_ne' c2' c6'), kk c3' (lC r3) (blk_ne' c3' c6'), kk c4' (lC r4) (blk_ne' c4' c6'), kk c5' (lC r5) (blk_ne' c5' c6'), Blk.set (Blk.keep c6' m1 e5.symm) 0 _⟩, kk x1 (lZ (Nat.le_refl Z)).1 (lZ (Nat.le_refl Z)).2, kk x2 (lZ (Nat.le_add_right Z 1)).1 (lZ (Nat.le_add_right Z 1)).2, kk x3 (lZ (Nat.le_add_right Z 2)).1 (lZ (Nat.le_add_right Z 2)).2, kE⟩
  obtain ⟨w5, hw5⟩ : ∃ w5, (w4.setCell ⟨br, 5, none⟩ (.int .i64 0)).setCell ⟨cr, 0, none⟩ (.int .i64 7) = w5 := ⟨_, rfl⟩
  rw [hw5]
  have L5 := hide (unhide L5 w5 hw5)
  clear L4 S4 BD n1 n2 n3 n4 hw5
  refine (lawBelief 1 (by unfold I64; omega) w5).mono ?_
  rintro e w6 ⟨xb, xp, rfl, gx, _, k6⟩
  dsimp only [belV, BV.cells, lv]
  have GX := hide gx
  have K6 := hide k6
  clear gx k6
  go_wp2_with fail
  refine (lawBelief 1 (by unfold I64; omega) w6).mono ?_
  rintro e w7 ⟨yb, yp, rfl, gy, _, k7⟩
  dsimp only [belV, BV.cells, lv]
  have GY := hide gy
  have K7 := hide k7
  clear gy k7
  go_upto_region 8 with fail
  have S8 : Hid (∀ w8, ((w7.alloc (.cells #[.int .i64 4, .slice (some ⟨xb, 0, none⟩) 1 2, .slice (some ⟨xp, 0, none⟩) 4 4, .bool false, .int .i64 0, .int .i64 0] 27)).alloc (.cells #[.int .i64 (-1), .slice (some ⟨yb, 0, none⟩) 2 2, .slice (some ⟨yp, 0, none⟩) 4 4, .bool false, .int .i64 0, .int .i64 0] 27)) = w8 → Blk w7.heap.size #[.int .i64 4, .slice (some ⟨xb, 0, none⟩) 1 2, .slice (some ⟨xp, 0, none⟩) 4 4, .bool false, .int .i64 0, .int .i64 0] 27 w8 ∧ Blk (w7.heap.size + 1) #[.int .i64 (-1), .slice (some ⟨yb, 0, none⟩) 2 2, .slice (some ⟨yp, 0, none⟩) 4 4, .bool false, .int .i64 0, .int .i64 0] 27 w8 ∧ Kp w7 w8) := by
    rintro w8 rfl
    exact ⟨Blk.grown (Blk.new w7 _ _) ((Grown.refl _).alloc _ _), blk_new2 w7 _ _ _, ((Kp.refl _).alloc _ _).alloc _ _⟩
  obtain ⟨T, hT⟩ : ∃ T, w7.heap.size = T := ⟨_, rfl⟩
  rw [hT] at S8
  simp only [hT]
  clear hT
  obtain ⟨w8, hw8⟩ : ∃ w8, ((w7.alloc (.cells #[.int .i64 4, .slice (some ⟨xb, 0, none⟩) 1 2, .slice (some ⟨xp, 0, none⟩) 4 4, .bool false, .int .i64 0, .int .i64 0] 27)).alloc (.cells #[.int .i64 (-1), .slice (some ⟨yb, 0, none⟩) 2 2, .slice (some ⟨yp, 0, none⟩) 4 4, .bool false, .int .i64 0, .int .i64 0] 27)) = w8 := ⟨_, rfl⟩
  rw [hw8]
  have S8 := hide (unhide S8 w8 hw8)
  clear hw8
  have K58 : Hid (Kp w5 w8) := ((unhide K6).trans (unhide K7)).trans (unhide S8).2.2
  have KW : Hid (Kp w w8) := (unhide L5).2.2.2.2.2.2.trans (unhide K58)
  have CA : Hid (∀ wx, Kp w8 wx → Blk Z #[.int .i64 2, .slice (some ⟨Z + 3, 0, none⟩) 4 4, .slice (some ⟨aq, 0, none⟩) 2 2, .int .i64 4294967296, .int .i64 38654705664, .int .i64 1, .slice (some ⟨ar, 0, none⟩) 3 3] 25 wx) := fun wx k => Blk.kp (unhide L5).2.2.2.1 ((unhide K58).trans k)
  have CB : Hid (∀ wx, Kp w8 wx → Blk (Z + 1) #[.int .i64 2, .slice (some ⟨ba, 0, none⟩) 4 4, .slice (some ⟨bq, 0, none⟩) 2 2, .int .i64 4294967296, .int .i64 38654705664, .int .i64 1, .slice (some ⟨br, 0, none⟩) 3 3] 25 wx) := fun wx k => Blk.kp (unhide L5).2.2.2.2.1 ((unhide K58).trans k)
  have CC : Hid (∀ wx, Kp w8 wx → Blk (Z + 2) #[.int .i64 2, .slice (some ⟨ca, 0, none⟩) 4 4, .slice (some ⟨cq, 0, none⟩) 2 2, .int .i64 4294967296, .int .i64 38654705664, .int .i64 1, .slice (some ⟨cr, 0, none⟩) 3 3] 25 wx) := fun wx k => Blk.kp (unhide L5).2.2.2.2.2.1 ((unhide K58).trans k)
  have CX : Hid (∀ wx, Kp w8 wx → Blk T #[.int .i64 4, .slice (some ⟨xb, 0, none⟩) 1 2, .slice (some ⟨xp, 0, none⟩) 4 4, .bool false, .int .i64 0, .int .i64 0] 27 wx) := fun wx k => Blk.kp (unhide S8).1 k
  have CY : Hid (∀ wx, Kp w8 wx → Blk (T + 1) #[.int .i64 (-1), .slice (some ⟨yb, 0, none⟩) 2 2, .slice (some ⟨yp, 0, none⟩) 4 4, .bool false, .int .i64 0, .int .i64 0] 27 wx) := fun wx k => Blk.kp (unhide S8).2.1 k
  have i5 : I64 5 := by unfold I64; omega
  have i0 : I64 0 := by unfold I64; omega
  have i3 : I64 3 := by unfold I64; omega
  have i7 : I64 7 := by unfold I64; omega
  have iA : ∀ x ∈ ([0, 0, 4294967296, 0] : List Int), I64 x := fun x hx => by simp at hx; unfold I64; omega
  have iB : ∀ x ∈ ([0, 4294967296, 0, 0] : List Int), I64 x := fun x hx => by simp at hx; unfold I64; omega
  have PA : Hid (∀ wx, Kp w8 wx → Calls Try.prog 15 #[.agg #[.int .i64 2, .slice (some ⟨Z + 3, 0, none⟩) 4 4, .slice (some ⟨aq, 0, none⟩) 2 2, .int .i64 4294967296, .int .i64 38654705664, .int .i64 1, .slice (some ⟨ar, 0, none⟩) 3 3]] wx fun e w' => e = .returned (.int .i64 2) ∧ Kp wx w') := fun wx k => by
    obtain ⟨⟨h1, h2, h3, h4, h5, h6⟩, _⟩ := unhide L5
    have q := (unhide K58).trans k
    have := pCheck (knV [0, 0, 4294967296, 0] 3 5 (Z + 3) aq ar a0 a1 a2) wx (kn_good rfl iA i3 i5 (Blk.kp h1 q) (Blk.kp h2 q) (Blk.kp h3 q) (Blk.kp h4 q) (Blk.kp h5 q) (Blk.kp h6 q))
    rw [kn_a] at this
    exact this
  have PB : Hid (∀ wx, Kp w8 wx → Calls Try.prog 15 #[.agg #[.int .i64 2, .slice (some ⟨ba, 0, none⟩) 4 4, .slice (some ⟨bq, 0, none⟩) 2 2, .int .i64 4294967296, .int .i64 38654705664, .int .i64 1, .slice (some ⟨br, 0, none⟩) 3 3]] wx fun e w' => e = .returned (.int .i64 2) ∧ Kp wx w') := fun wx k => by
    obtain ⟨_, ⟨h1, h2, h3, h4, h5, h6⟩, _⟩ := unhide L5
    have q := (unhide K58).trans k
    have := pCheck (knV [0, 4294967296, 0, 0] 3 0 ba bq br b0 b1 b2) wx (kn_good rfl iB i3 i0 (Blk.kp h1 q) (Blk.kp h2 q) (Blk.kp h3 q) (Blk.kp h4 q) (Blk.kp h5 q) (Blk.kp h6 q))
    rw [kn_b] at this
    exact this
  have PC : Hid (∀ wx, Kp w8 wx → Calls Try.prog 15 #[.agg #[.int .i64 2, .slice (some ⟨ca, 0, none⟩) 4 4, .slice (some ⟨cq, 0, none⟩) 2 2, .int .i64 4294967296, .int .i64 38654705664, .int .i64 1, .slice (some ⟨cr, 0, none⟩) 3 3]] wx fun e w' => e = .returned (.int .i64 2) ∧ Kp wx w') := fun wx k => by
    obtain ⟨_, _, ⟨h1, h2, h3, h4, h5, h6⟩, _⟩ := unhide L5
    have q := (unhide K58).trans k
    have := pCheck (knV [0, 4294967296, 0, 0] 7 5 ca cq cr c0 c1 c2) wx (kn_good rfl iB i7 i5 (Blk.kp h1 q) (Blk.kp h2 q) (Blk.kp h3 q) (Blk.kp h4 q) (Blk.kp h5 q) (Blk.kp h6 q))
    rw [kn_c] at this
    exact this
  have GX8 : Hid (∀ wx, Kp w8 wx → (belX xb xp).good wx) := fun wx k => belX_good ((unhide GX).kp (((unhide K7).trans (unhide S8).2.2).trans k))
  have GY8 : Hid (∀ wx, Kp w8 wx → (belY yb yp).good wx) := fun wx k => belY_good ((unhide GY).kp ((unhide S8).2.2.trans k))
  clear L5 GX GY K6 K7 S8 K58 i5 i0 i3 i7 iA iB
  have M0 : Hid (Kp w8 w8.drew) := (show Kp w8 w8 from Kp.refl _)
  refine region_G (fun w' => Kp w8 w') 39 (by kernel_rfl) (unhide M0) (fun hHeld => ?_)
  refine step_G (i := 0) (by kernel_rfl) (fun K hK => ?_)
  refine wpOp_of rfl rfl ?_
  unfold Oper.wp
  go_simp
  refine (lawAwakeMdl _).mono ?_
  rintro e x0 ⟨rfl, kk⟩
  have M1 := hide ((unhide M0).trans kk)
  clear kk
  clear hHeld
  refine hK _ _ (fun _ => unhide M1) ?_
  clear hK K M0
  have hHeld := unhide M1
  (try simp only [Act.put, List.setIfInBounds_toArray, List.set_cons_zero, List.set_cons_succ])
  refine take_G (i := 1) (d := 27) (v := .bool true) rfl rfl (by kernel_rfl) (by kernel_rfl) (by kernel_rfl) (by kernel_rfl) (by kernel_rfl) (Or.inl ⟨by rfl, ?_⟩) hHeld ?_
  · intro wS hSw
    clear hSw hHeld
    go_simp
  (try simp only [Act.put, List.setIfInBounds_toArray, List.set_cons_zero, List.set_cons_succ])
  refine step_G (i := 2) (by kernel_rfl) (fun K hK => ?_)
  refine wpOp_wantM rfl (by rfl) ?_
  unfold Oper.wp
  go_simp
  refine (lawTwo10 _).mono ?_
  rintro e x1 ⟨t1a, t1q, t1r, t10, t11, t12, rfl, gt, _, _, kk⟩
  have M2 := hide ((unhide M1).trans kk)
  have D1 : Hid (Calls Try.prog 19 #[.agg #[.int .i64 2, .slice (some ⟨t1a, 0, none⟩) 4 4, .slice (some ⟨t1q, 0, none⟩) 2 2, .int .i64 4294967296, .int .i64 38654705664, .int .i64 1, .slice (some ⟨t1r, 0, none⟩) 3 3], .int .i64 7] x1 fun e w' => e = .returned (.int .i64 1) ∧ Kp x1 w') := by
    have := pDim (twoV t1a t1q t1r t10 t11 t12) 7 x1 (by unfold I64; omega) gt
    rw [two_dim7] at this
    exact this
  clear kk gt
  clear hHeld
  refine hK _ _ (fun _ => unhide M2) ?_
  clear hK K M1
  have hHeld := unhide M2
  (try simp only [Act.put, List.setIfInBounds_toArray, List.set_cons_zero, List.set_cons_succ])
  refine step_G (i := 3) (by kernel_rfl) (fun K hK => ?_)
  refine wpOp_wantM rfl (by rfl) ?_
  unfold Oper.wp
  go_simp
  refine (unhide D1).mono ?_
  rintro e x2 ⟨rfl, kk⟩
  have M3 := hide ((unhide M2).trans kk)
  clear kk D1
  clear hHeld
  refine hK _ _ (fun _ => unhide M3) ?_
  clear hK K M2
  have hHeld := unhide M3
  (try simp only [Act.put, List.setIfInBounds_toArray, List.set_cons_zero, List.set_cons_succ])
  refine take_G (i := 4) (d := 30) (v := .bool true) rfl rfl (by kernel_rfl) (by kernel_rfl) (by kernel_rfl) (by kernel_rfl) (by kernel_rfl) (Or.inl ⟨by rfl, ?_⟩) hHeld ?_
  · intro wS hSw
    clear hSw hHeld
    go_simp
  (try simp only [Act.put, List.setIfInBounds_toArray, List.set_cons_zero, List.set_cons_succ])
  refine take_G (i := 5) (d := 31) (v := .bool true) rfl rfl (by kernel_rfl) (by kernel_rfl) (by kernel_rfl) (by kernel_rfl) (by kernel_rfl) (Or.inl ⟨by rfl, ?_⟩) hHeld ?_
  · intro wS hSw
    clear hSw hHeld
    go_simp
  (try simp only [Act.put, List.setIfInBounds_toArray, List.set_cons_zero, List.set_cons_succ])
  refine take_G (i := 6) (d := 32) (v := .bool true) rfl rfl (by kernel_rfl) (by kernel_rfl) (by kernel_rfl) (by kernel_rfl) (by kernel_rfl) (Or.inl ⟨by rfl, ?_⟩) hHeld ?_
  · intro wS hSw
    clear hSw hHeld
    go_simp
  (try simp only [Act.put, List.setIfInBounds_toArray, List.set_cons_zero, List.set_cons_succ])
  refine take_G (i := 7) (d := 33) (v := .agg #[.int .i64 2, .slice (some ⟨Z + 3, 0, none⟩) 4 4, .slice (some ⟨aq, 0, none⟩) 2 2, .int .i64 4294967296, .int .i64 38654705664, .int .i64 1, .slice (some ⟨ar, 0, none⟩) 3 3]) rfl rfl (by kernel_rfl) (by kernel_rfl) (by kernel_rfl) (by kernel_rfl) (by kernel_rfl) (Or.inl ⟨by rfl, ?_⟩) hHeld ?_
  · intro wS hSw
    have k0 : wS.cell? ⟨Z, 0, none⟩ = some (.int .i64 2) := Blk.cell (unhide CA wS hSw) 0
    have k1 : wS.cell? ⟨Z, 1, none⟩ = some (.slice (some ⟨Z + 3, 0, none⟩) 4 4) := Blk.cell (unhide CA wS hSw) 1
    have k2 : wS.cell? ⟨Z, 2, none⟩ = some (.slice (some ⟨aq, 0, none⟩) 2 2) := Blk.cell (unhide CA wS hSw) 2
    have k3 : wS.cell? ⟨Z, 3, none⟩ = some (.int .i64 4294967296) := Blk.cell (unhide CA wS hSw) 3
    have k4 : wS.cell? ⟨Z, 4, none⟩ = some (.int .i64 38654705664) := Blk.cell (unhide CA wS hSw) 4
    have k5 : wS.cell? ⟨Z, 5, none⟩ = some (.int .i64 1) := Blk.cell (unhide CA wS hSw) 5
    have k6 : wS.cell? ⟨Z, 6, none⟩ = some (.slice (some ⟨ar, 0, none⟩) 3 3) := Blk.cell (unhide CA wS hSw) 6
    clear hSw hHeld
    go_simp
  (try simp only [Act.put, List.setIfInBounds_toArray, List.set_cons_zero, List.set_cons_succ])
  refine step_G (i := 8) (by kernel_rfl) (fun K hK => ?_)
  refine wpOp_wantM rfl (by rfl) ?_
  unfold Oper.wp
  go_simp
  refine (unhide PA _ hHeld).mono ?_
  rintro e x3 ⟨rfl, kk⟩
  have M4 := hide ((unhide M3).trans kk)
  clear kk PA
  clear hHeld
  refine hK _ _ (fun _ => unhide M4) ?_
  clear hK K M3
  have hHeld := unhide M4
  (try simp only [Act.put, List.setIfInBounds_toArray, List.set_cons_zero, List.set_cons_succ])
  refine take_G (i := 9) (d := 35) (v := .bool true) rfl rfl (by kernel_rfl) (by kernel_rfl) (by kernel_rfl) (by kernel_rfl) (by kernel_rfl) (Or.inl ⟨by rfl, ?_⟩) hHeld ?_
  · intro wS hSw
    clear hSw hHeld
    go_simp
  (try simp only [Act.put, List.setIfInBounds_toArray, List.set_cons_zero, List.set_cons_succ])
  refine take_G (i := 10) (d := 36) (v := .bool true) rfl rfl (by kernel_rfl) (by kernel_rfl) (by kernel_rfl) (by kernel_rfl) (by kernel_rfl) (Or.inl ⟨by rfl, ?_⟩) hHeld ?_
  · intro wS hSw
    clear hSw hHeld
    go_simp
  (try simp only [Act.put, List.setIfInBounds_toArray, List.set_cons_zero, List.set_cons_succ])
  refine take_G (i := 11) (d := 37) (v := .bool true) rfl rfl (by kernel_rfl) (by kernel_rfl) (by kernel_rfl) (by kernel_rfl) (by kernel_rfl) (Or.inl ⟨by rfl, ?_⟩) hHeld ?_
  · intro wS hSw
    clear hSw hHeld
    go_simp
  (try simp only [Act.put, List.setIfInBounds_toArray, List.set_cons_zero, List.set_cons_succ])
  refine take_G (i := 12) (d := 38) (v := .agg #[.int .i64 2, .slice (some ⟨ba, 0, none⟩) 4 4, .slice (some ⟨bq, 0, none⟩) 2 2, .int .i64 4294967296, .int .i64 38654705664, .int .i64 1, .slice (some ⟨br, 0, none⟩) 3 3]) rfl rfl (by kernel_rfl) (by kernel_rfl) (by kernel_rfl) (by kernel_rfl) (by kernel_rfl) (Or.inl ⟨by rfl, ?_⟩) hHeld ?_
  · intro wS hSw
    have k0 : wS.cell? ⟨Z + 1, 0, none⟩ = some (.int .i64 2) := Blk.cell (unhide CB wS hSw) 0
    have k1 : wS.cell? ⟨Z + 1, 1, none⟩ = some (.slice (some ⟨ba, 0, none⟩) 4 4) := Blk.cell (unhide CB wS hSw) 1
    have k2 : wS.cell? ⟨Z + 1, 2, none⟩ = some (.slice (some ⟨bq, 0, none⟩) 2 2) := Blk.cell (unhide CB wS hSw) 2
    have k3 : wS.cell? ⟨Z + 1, 3, none⟩ = some (.int .i64 4294967296) := Blk.cell (unhide CB wS hSw) 3
    have k4 : wS.cell? ⟨Z + 1, 4, none⟩ = some (.int .i64 38654705664) := Blk.cell (unhide CB wS hSw) 4
    have k5 : wS.cell? ⟨Z + 1, 5, none⟩ = some (.int .i64 1) := Blk.cell (unhide CB wS hSw) 5
    have k6 : wS.cell? ⟨Z + 1, 6, none⟩ = some (.slice (some ⟨br, 0, none⟩) 3 3) := Blk.cell (unhide CB wS hSw) 6
    clear hSw hHeld
    go_simp
  (try simp only [Act.put, List.setIfInBounds_toArray, List.set_cons_zero, List.set_cons_succ])
  refine step_G (i := 13) (by kernel_rfl) (fun K hK => ?_)
  refine wpOp_wantM rfl (by rfl) ?_
  unfold Oper.wp
  go_simp
  refine (unhide PB _ hHeld).mono ?_
  rintro e x4 ⟨rfl, kk⟩
  have M5 := hide ((unhide M4).trans kk)
  clear kk PB
  clear hHeld
  refine hK _ _ (fun _ => unhide M5) ?_
  clear hK K M4
  have hHeld := unhide M5
  (try simp only [Act.put, List.setIfInBounds_toArray, List.set_cons_zero, List.set_cons_succ])
  refine take_G (i := 14) (d := 40) (v := .bool true) rfl rfl (by kernel_rfl) (by kernel_rfl) (by kernel_rfl) (by kernel_rfl) (by kernel_rfl) (Or.inl ⟨by rfl, ?_⟩) hHeld ?_
  · intro wS hSw
    clear hSw hHeld
    go_simp
  (try simp only [Act.put, List.setIfInBounds_toArray, List.set_cons_zero, List.set_cons_succ])
  refine take_G (i := 15) (d := 41) (v := .bool true) rfl rfl (by kernel_rfl) (by kernel_rfl) (by kernel_rfl) (by kernel_rfl) (by kernel_rfl) (Or.inl ⟨by rfl, ?_⟩) hHeld ?_
  · intro wS hSw
    clear hSw hHeld
    go_simp
  (try simp only [Act.put, List.setIfInBounds_toArray, List.set_cons_zero, List.set_cons_succ])
  refine take_G (i := 16) (d := 42) (v := .bool true) rfl rfl (by kernel_rfl) (by kernel_rfl) (by kernel_rfl) (by kernel_rfl) (by kernel_rfl) (Or.inl ⟨by rfl, ?_⟩) hHeld ?_
  · intro wS hSw
    clear hSw hHeld
    go_simp
  (try simp only [Act.put, List.setIfInBounds_toArray, List.set_cons_zero, List.set_cons_succ])
  refine take_G (i := 17) (d := 43) (v := .agg #[.int .i64 2, .slice (some ⟨ca, 0, none⟩) 4 4, .slice (some ⟨cq, 0, none⟩) 2 2, .int .i64 4294967296, .int .i64 38654705664, .int .i64 1, .slice (some ⟨cr, 0, none⟩) 3 3]) rfl rfl (by kernel_rfl) (by kernel_rfl) (by kernel_rfl) (by kernel_rfl) (by kernel_rfl) (Or.inl ⟨by rfl, ?_⟩) hHeld ?_
  · intro wS hSw
    have k0 : wS.cell? ⟨Z + 1 + 1, 0, none⟩ = some (.int .i64 2) := Blk.cell (unhide CC wS hSw) 0
    have k1 : wS.cell? ⟨Z + 1 + 1, 1, none⟩ = some (.slice (some ⟨ca, 0, none⟩) 4 4) := Blk.cell (unhide CC wS hSw) 1
    have k2 : wS.cell? ⟨Z + 1 + 1, 2, none⟩ = some (.slice (some ⟨cq, 0, none⟩) 2 2) := Blk.cell (unhide CC wS hSw) 2
    have k3 : wS.cell? ⟨Z + 1 + 1, 3, none⟩ = some (.int .i64 4294967296) := Blk.cell (unhide CC wS hSw) 3
    have k4 : wS.cell? ⟨Z + 1 + 1, 4, none⟩ = some (.int .i64 38654705664) := Blk.cell (unhide CC wS hSw) 4
    have k5 : wS.cell? ⟨Z + 1 + 1, 5, none⟩ = some (.int .i64 1) := Blk.cell (unhide CC wS hSw) 5
    have k6 : wS.cell? ⟨Z + 1 + 1, 6, none⟩ = some (.slice (some ⟨cr, 0, none⟩) 3 3) := Blk.cell (unhide CC wS hSw) 6
    clear hSw hHeld
    go_simp
  (try simp only [Act.put, List.setIfInBounds_toArray, List.set_cons_zero, List.set_cons_succ])
  refine step_G (i := 18) (by kernel_rfl) (fun K hK => ?_)
  refine wpOp_wantM rfl (by rfl) ?_
  unfold Oper.wp
  go_simp
  refine (unhide PC _ hHeld).mono ?_
  rintro e x5 ⟨rfl, kk⟩
  have M6 := hide ((unhide M5).trans kk)
  clear kk PC
  clear hHeld
  refine hK _ _ (fun _ => unhide M6) ?_
  clear hK K M5
  have hHeld := unhide M6
  (try simp only [Act.put, List.setIfInBounds_toArray, List.set_cons_zero, List.set_cons_succ])
  refine take_G (i := 19) (d := 45) (v := .bool true) rfl rfl (by kernel_rfl) (by kernel_rfl) (by kernel_rfl) (by kernel_rfl) (by kernel_rfl) (Or.inl ⟨by rfl, ?_⟩) hHeld ?_
  · intro wS hSw
    clear hSw hHeld
    go_simp
  (try simp only [Act.put, List.setIfInBounds_toArray, List.set_cons_zero, List.set_cons_succ])
  refine take_G (i := 20) (d := 46) (v := .bool true) rfl rfl (by kernel_rfl) (by kernel_rfl) (by kernel_rfl) (by kernel_rfl) (by kernel_rfl) (Or.inl ⟨by rfl, ?_⟩) hHeld ?_
  · intro wS hSw
    clear hSw hHeld
    go_simp
  (try simp only [Act.put, List.setIfInBounds_toArray, List.set_cons_zero, List.set_cons_succ])
  refine take_G (i := 21) (d := 47) (v := .bool true) rfl rfl (by kernel_rfl) (by kernel_rfl) (by kernel_rfl) (by kernel_rfl) (by kernel_rfl) (Or.inl ⟨by rfl, ?_⟩) hHeld ?_
  · intro wS hSw
    clear hSw hHeld
    go_simp
  (try simp only [Act.put, List.setIfInBounds_toArray, List.set_cons_zero, List.set_cons_succ])
  refine step_G (i := 22) (by kernel_rfl) (fun K hK => ?_)
  refine wpOp_wantM rfl (by rfl) ?_
  unfold Oper.wp
  go_simp
  refine (lawTwo10 _).mono ?_
  rintro e x2 ⟨t2a, t2q, t2r, t20, t21, t22, rfl, gt, _, _, kk⟩
  have M7 := hide ((unhide M6).trans kk)
  have G6 := hide gt
  clear kk gt
  clear hHeld
  refine hK _ _ (fun _ => unhide M7) ?_
  clear hK K M6
  have hHeld := unhide M7
  (try simp only [Act.put, List.setIfInBounds_toArray, List.set_cons_zero, List.set_cons_succ])
  refine step_G (i := 23) (by kernel_rfl) (fun K hK => ?_)
  refine wpOp_wantM rfl (by rfl) ?_
  unfold Oper.wp
  go_simp
  refine (lawBelief 1 (by unfold I64; omega) _).mono ?_
  rintro e x7 ⟨sb, sp, rfl, gs, _, kk⟩
  have M8 := hide ((unhide M7).trans kk)
  have F7 : Hid (Calls Try.prog 17 #[.agg #[.int .i64 2, .slice (some ⟨t2a, 0, none⟩) 4 4, .slice (some ⟨t2q, 0, none⟩) 2 2, .int .i64 4294967296, .int .i64 38654705664, .int .i64 1, .slice (some ⟨t2r, 0, none⟩) 3 3], .agg #[.int .i64 4, .slice (some ⟨sb, 0, none⟩) 2 2, .slice (some ⟨sp, 0, none⟩) 4 4, .bool false, .int .i64 0, .int .i64 0]] x7 fun e w' => e = .returned (.int .i64 0) ∧ Kp x7 w') := by
    have := pFits (twoV t2a t2q t2r t20 t21 t22) (belV sb sp 1) x7 ((unhide G6).kp kk) gs
    rw [two_fit1] at this
    exact this
  clear kk gs G6
  clear hHeld
  refine hK _ _ (fun _ => unhide M8) ?_
  clear hK K M7
  have hHeld := unhide M8
  (try simp only [Act.put, List.setIfInBounds_toArray, List.set_cons_zero, List.set_cons_succ])
  refine step_G (i := 24) (by kernel_rfl) (fun K hK => ?_)
  refine wpOp_wantM rfl (by rfl) ?_
  unfold Oper.wp
  go_simp
  refine (unhide F7).mono ?_
  rintro e x8 ⟨rfl, kk⟩
  have M9 := hide ((unhide M8).trans kk)
  clear kk F7
  clear hHeld
  refine hK _ _ (fun _ => unhide M9) ?_
  clear hK K M8
  have hHeld := unhide M9
  (try simp only [Act.put, List.setIfInBounds_toArray, List.set_cons_zero, List.set_cons_succ])
  refine take_G (i := 25) (d := 51) (v := .bool true) rfl rfl (by kernel_rfl) (by kernel_rfl) (by kernel_rfl) (by kernel_rfl) (by kernel_rfl) (Or.inl ⟨by rfl, ?_⟩) hHeld ?_
  · intro wS hSw
    clear hSw hHeld
    go_simp
  (try simp only [Act.put, List.setIfInBounds_toArray, List.set_cons_zero, List.set_cons_succ])
  refine take_G (i := 26) (d := 52) (v := .bool true) rfl rfl (by kernel_rfl) (by kernel_rfl) (by kernel_rfl) (by kernel_rfl) (by kernel_rfl) (Or.inl ⟨by rfl, ?_⟩) hHeld ?_
  · intro wS hSw
    clear hSw hHeld
    go_simp
  (try simp only [Act.put, List.setIfInBounds_toArray, List.set_cons_zero, List.set_cons_succ])
  refine take_G (i := 27) (d := 53) (v := .bool true) rfl rfl (by kernel_rfl) (by kernel_rfl) (by kernel_rfl) (by kernel_rfl) (by kernel_rfl) (Or.inl ⟨by rfl, ?_⟩) hHeld ?_
  · intro wS hSw
    clear hSw hHeld
    go_simp
  (try simp only [Act.put, List.setIfInBounds_toArray, List.set_cons_zero, List.set_cons_succ])
  refine take_G (i := 29) (d := 55) (v := .agg #[.int .i64 4, .slice (some ⟨xb, 0, none⟩) 1 2, .slice (some ⟨xp, 0, none⟩) 4 4, .bool false, .int .i64 0, .int .i64 0]) rfl rfl (by kernel_rfl) (by kernel_rfl) (by kernel_rfl) (by kernel_rfl) (by kernel_rfl) (Or.inl ⟨by rfl, ?_⟩) hHeld ?_
  · intro wS hSw
    have k0 : wS.cell? ⟨T, 0, none⟩ = some (.int .i64 4) := Blk.cell (unhide CX wS hSw) 0
    have k1 : wS.cell? ⟨T, 1, none⟩ = some (.slice (some ⟨xb, 0, none⟩) 1 2) := Blk.cell (unhide CX wS hSw) 1
    have k2 : wS.cell? ⟨T, 2, none⟩ = some (.slice (some ⟨xp, 0, none⟩) 4 4) := Blk.cell (unhide CX wS hSw) 2
    have k3 : wS.cell? ⟨T, 3, none⟩ = some (.bool false) := Blk.cell (unhide CX wS hSw) 3
    have k4 : wS.cell? ⟨T, 4, none⟩ = some (.int .i64 0) := Blk.cell (unhide CX wS hSw) 4
    have k5 : wS.cell? ⟨T, 5, none⟩ = some (.int .i64 0) := Blk.cell (unhide CX wS hSw) 5
    clear hSw hHeld
    go_simp
  (try simp only [Act.put, List.setIfInBounds_toArray, List.set_cons_zero, List.set_cons_succ])
  refine step_G (i := 28) (by kernel_rfl) (fun K hK => ?_)
  refine wpOp_wantM rfl (by rfl) ?_
  unfold Oper.wp
  go_simp
  refine (lawTwo10 _).mono ?_
  rintro e x9 ⟨t9a, t9q, t9r, t90, t91, t92, rfl, gt, _, _, kk⟩
  have M10 := hide ((unhide M9).trans kk)
  have F9 : Hid (Calls Try.prog 17 #[.agg #[.int .i64 2, .slice (some ⟨t9a, 0, none⟩) 4 4, .slice (some ⟨t9q, 0, none⟩) 2 2, .int .i64 4294967296, .int .i64 38654705664, .int .i64 1, .slice (some ⟨t9r, 0, none⟩) 3 3], .agg #[.int .i64 4, .slice (some ⟨xb, 0, none⟩) 1 2, .slice (some ⟨xp, 0, none⟩) 4 4, .bool false, .int .i64 0, .int .i64 0]] x9 fun e w' => e = .returned (.int .i64 3) ∧ Kp x9 w') := by
    have := pFits (twoV t9a t9q t9r t90 t91 t92) (belX xb xp) x9 gt (unhide GX8 x9 ((unhide M10)))
    rw [two_fitX] at this
    exact this
  clear kk gt
  clear hHeld
  refine hK _ _ (fun _ => unhide M10) ?_
  clear hK K M9
  have hHeld := unhide M10
  (try simp only [Act.put, List.setIfInBounds_toArray, List.set_cons_zero, List.set_cons_succ])
  refine step_G (i := 30) (by kernel_rfl) (fun K hK => ?_)
  refine wpOp_wantM rfl (by rfl) ?_
  unfold Oper.wp
  go_simp
  refine (unhide F9).mono ?_
  rintro e y9 ⟨rfl, kk⟩
  have M11 := hide ((unhide M10).trans kk)
  clear kk F9
  clear hHeld
  refine hK _ _ (fun _ => unhide M11) ?_
  clear hK K M10
  have hHeld := unhide M11
  (try simp only [Act.put, List.setIfInBounds_toArray, List.set_cons_zero, List.set_cons_succ])
  refine take_G (i := 31) (d := 57) (v := .bool true) rfl rfl (by kernel_rfl) (by kernel_rfl) (by kernel_rfl) (by kernel_rfl) (by kernel_rfl) (Or.inl ⟨by rfl, ?_⟩) hHeld ?_
  · intro wS hSw
    clear hSw hHeld
    go_simp
  (try simp only [Act.put, List.setIfInBounds_toArray, List.set_cons_zero, List.set_cons_succ])
  refine take_G (i := 32) (d := 58) (v := .bool true) rfl rfl (by kernel_rfl) (by kernel_rfl) (by kernel_rfl) (by kernel_rfl) (by kernel_rfl) (Or.inl ⟨by rfl, ?_⟩) hHeld ?_
  · intro wS hSw
    clear hSw hHeld
    go_simp
  (try simp only [Act.put, List.setIfInBounds_toArray, List.set_cons_zero, List.set_cons_succ])
  refine take_G (i := 33) (d := 59) (v := .bool true) rfl rfl (by kernel_rfl) (by kernel_rfl) (by kernel_rfl) (by kernel_rfl) (by kernel_rfl) (Or.inl ⟨by rfl, ?_⟩) hHeld ?_
  · intro wS hSw
    clear hSw hHeld
    go_simp
  (try simp only [Act.put, List.setIfInBounds_toArray, List.set_cons_zero, List.set_cons_succ])
  refine take_G (i := 35) (d := 61) (v := .agg #[.int .i64 (-1), .slice (some ⟨yb, 0, none⟩) 2 2, .slice (some ⟨yp, 0, none⟩) 4 4, .bool false, .int .i64 0, .int .i64 0]) rfl rfl (by kernel_rfl) (by kernel_rfl) (by kernel_rfl) (by kernel_rfl) (by kernel_rfl) (Or.inl ⟨by rfl, ?_⟩) hHeld ?_
  · intro wS hSw
    have k0 : wS.cell? ⟨T + 1, 0, none⟩ = some (.int .i64 (-1)) := Blk.cell (unhide CY wS hSw) 0
    have k1 : wS.cell? ⟨T + 1, 1, none⟩ = some (.slice (some ⟨yb, 0, none⟩) 2 2) := Blk.cell (unhide CY wS hSw) 1
    have k2 : wS.cell? ⟨T + 1, 2, none⟩ = some (.slice (some ⟨yp, 0, none⟩) 4 4) := Blk.cell (unhide CY wS hSw) 2
    have k3 : wS.cell? ⟨T + 1, 3, none⟩ = some (.bool false) := Blk.cell (unhide CY wS hSw) 3
    have k4 : wS.cell? ⟨T + 1, 4, none⟩ = some (.int .i64 0) := Blk.cell (unhide CY wS hSw) 4
    have k5 : wS.cell? ⟨T + 1, 5, none⟩ = some (.int .i64 0) := Blk.cell (unhide CY wS hSw) 5
    clear hSw hHeld
    go_simp
  (try simp only [Act.put, List.setIfInBounds_toArray, List.set_cons_zero, List.set_cons_succ])
  refine step_G (i := 34) (by kernel_rfl) (fun K hK => ?_)
  refine wpOp_wantM rfl (by rfl) ?_
  unfold Oper.wp
  go_simp
  refine (lawTwo10 _).mono ?_
  rintro e x11 ⟨t11a, t11q, t11r, t110, t111, t112, rfl, gt, _, _, kk⟩
  have M12 := hide ((unhide M11).trans kk)
  have F11 : Hid (Calls Try.prog 17 #[.agg #[.int .i64 2, .slice (some ⟨t11a, 0, none⟩) 4 4, .slice (some ⟨t11q, 0, none⟩) 2 2, .int .i64 4294967296, .int .i64 38654705664, .int .i64 1, .slice (some ⟨t11r, 0, none⟩) 3 3], .agg #[.int .i64 (-1), .slice (some ⟨yb, 0, none⟩) 2 2, .slice (some ⟨yp, 0, none⟩) 4 4, .bool false, .int .i64 0, .int .i64 0]] x11 fun e w' => e = .returned (.int .i64 4) ∧ Kp x11 w') := by
    have := pFits (twoV t11a t11q t11r t110 t111 t112) (belY yb yp) x11 gt (unhide GY8 x11 ((unhide M12)))
    rw [two_fitY] at this
    exact this
  clear kk gt
  clear hHeld
  refine hK _ _ (fun _ => unhide M12) ?_
  clear hK K M11
  have hHeld := unhide M12
  (try simp only [Act.put, List.setIfInBounds_toArray, List.set_cons_zero, List.set_cons_succ])
  refine step_G (i := 36) (by kernel_rfl) (fun K hK => ?_)
  refine wpOp_wantM rfl (by rfl) ?_
  unfold Oper.wp
  go_simp
  refine (unhide F11).mono ?_
  rintro e y11 ⟨rfl, kk⟩
  have M13 := hide ((unhide M12).trans kk)
  clear kk F11
  clear hHeld
  refine hK _ _ (fun _ => unhide M13) ?_
  clear hK K M12
  have hHeld := unhide M13
  (try simp only [Act.put, List.setIfInBounds_toArray, List.set_cons_zero, List.set_cons_succ])
  refine take_G (i := 37) (d := 63) (v := .bool true) rfl rfl (by kernel_rfl) (by kernel_rfl) (by kernel_rfl) (by kernel_rfl) (by kernel_rfl) (Or.inl ⟨by rfl, ?_⟩) hHeld ?_
  · intro wS hSw
    clear hSw hHeld
    go_simp
  (try simp only [Act.put, List.setIfInBounds_toArray, List.set_cons_zero, List.set_cons_succ])
  refine take_G (i := 38) (d := 64) (v := .bool true) rfl rfl (by kernel_rfl) (by kernel_rfl) (by kernel_rfl) (by kernel_rfl) (by kernel_rfl) (Or.inl ⟨by rfl, ?_⟩) hHeld ?_
  · intro wS hSw
    clear hSw hHeld
    go_simp
  (try simp only [Act.put, List.setIfInBounds_toArray, List.set_cons_zero, List.set_cons_succ])
  refine step_G (i := 39) (by kernel_rfl) (fun K hK => ?_)
  refine wpOp_of rfl rfl ?_
  unfold Oper.wp
  go_simp
  refine hK _ _ (fun h => absurd rfl h) ?_
  clear hK K
  refine done_G (by kernel_rfl) ?_
  (try simp only [Act.put, List.setIfInBounds_toArray, List.set_cons_zero, List.set_cons_succ])
  clear hHeld
  refine noPanic_normalE ?_
  go_wp2
  go_ret
  exact ⟨rfl, (unhide KW).trans (unhide M13)⟩

end Go.Proofs.Ytpanfppnkgokdaa

/- ModelMoves. -/
namespace Go.Proofs.Ytpanfppnkgokdaa
open Go.RowKit Go.Shelf Go.Proofs Go.Proofs.Wd
set_option linter.unusedVariables false
set_option linter.unusedSimpArgs false
set_option maxRecDepth 10000

/-- n truth values. -/
def bools (n : Nat) (F : Nat → Bool) : Array Value := ((List.range n).map fun i => Value.bool (F i)).toArray
theorem bools_size (n : Nat) (F : Nat → Bool) : (bools n F).size = n := by simp [bools]
theorem bools_at (n : Nat) (F : Nat → Bool) (i : Nat) (h : i < n) : (bools n F)[i]? = some (.bool (F i)) := by simp [bools, h]
theorem bools_none (n : Nat) (F : Nat → Bool) (i : Nat) (h : ¬ i < n) : (bools n F)[i]? = none := by simp [bools]; omega
theorem bools_set (n : Nat) (F : Nat → Bool) (k : Nat) (v : Bool) : (bools n F).setIfInBounds k (.bool v) = bools n (fun i => if i = k then v else F i) := by
  apply Array.ext_getElem?
  intro i
  rw [Array.getElem?_setIfInBounds]
  by_cases hi : i < n
  · rw [bools_at n F i hi, bools_at n _ i hi, bools_size]
    by_cases e : k = i
    · subst e; simp [hi]
    · simp [e, Ne.symm e]
  · rw [bools_none n F i hi, bools_none n _ i hi, bools_size]
    by_cases e : k = i
    · subst e; simp [hi]
    · simp [e]
theorem made_bools (n : Nat) : madeCells #[.bool false] n = bools n (fun _ => false) := by
  apply Array.ext_getElem?
  intro i
  by_cases h : i < n
  · rw [bools_at n _ i h]; simp [madeCells, h, Nat.mod_one]
  · rw [bools_none n _ i h]; simp [madeCells]; omega
theorem Try.infoBool : (Try.prog.info? 4).map (fun i => (i.zero, i.size, i.bytes)) = some (some (.bool false), 1, 1) := by kernel_rfl
theorem make_bools (n : Nat) (hn : n ≤ 1000000) (w : World) : (Instr.makeSlice 47 (.int .i64 n) (.int .i64 n)).run Try.prog w = .ok (.slice (some ⟨w.heap.size, 0, none⟩) n n) (w.alloc (.cells (bools n (fun _ => false)) 4)) := by
  obtain ⟨i0, hi, hz0, hz1, hz2⟩ := info_parts Try.infoBool
  have := run_make (P := Try.prog) w 47 4 i0 (.bool false) Try.underlying47 hi hz0 .i64 .i64 n n (by omega) (Int.le_refl _) (by rw [hz2]; omega) (by omega)
  rw [hz1, Int.toNat_natCast, Nat.mul_one] at this
  rw [this, ← made_bools]
  rfl
/-- What is led on goes up by t at least. -/
def upT (n t : Nat) (F : Nat → Bool) : Prop := ∀ i j, i < n → j < n → F (i * n + j) = true → i + t ≤ j
def updB (F : Nat → Bool) (k : Nat) (v : Bool) : Nat → Bool := fun i => if i = k then v else F i
theorem at_inj {n i j a b : Nat} (hj : j < n) (hb : b < n) (e : i * n + j = a * n + b) : i = a ∧ j = b := by
  have h1 := div_at i j n hj
  have h2 := mod_at i j n hj
  rw [e, div_at a b n hb] at h1
  rw [e, mod_at a b n hb] at h2
  exact ⟨h1.symm, h2.symm⟩
theorem upT.set {n t a b : Nat} {F : Nat → Bool} {v : Bool} (h : upT n t F) (hb : b < n) (hv : v = true → a + t ≤ b) : upT n t (updB F (a * n + b) v) := fun i j hi hj e => by
  unfold updB at e
  split at e
  · rename_i e2
    obtain ⟨rfl, rfl⟩ := at_inj hj hb e2
    exact hv e
  · exact h i j hi hj e
theorem upT.diag {n t k : Nat} {F : Nat → Bool} (h : upT n (t + 1) F) (hk : k < n) : F (k * n + k) = false := by
  cases e : F (k * n + k) with
  | false => rfl
  | true => have := h k k hk hk e; omega
theorem upT.none {n k : Nat} {F : Nat → Bool} (h : upT n n F) (hk : k < n * n) : F k = false := by
  have h1 := place_lt k n n hk
  have e := place_eq k n
  cases h2 : F k with
  | false => rfl
  | true =>
    rw [← e] at h2
    exact absurd (Nat.le_trans (Nat.le_add_left _ _) (h _ _ h1.1 h1.2 h2)) (Nat.not_le.2 h1.2)
theorem upT.step {n t p q r : Nat} {F G : Nat → Bool} {Z : Nat → Int} (hF : upT n t F) (hG : upT n (t + 1) G) (hZ : ∀ i, i < n → ∀ k, k < n → k ≤ i → Z (i * n + k) = 0) (hp : p < n) (hq : q < n) (hr : r < n) (h : F (p * n + q) = true) : upT n (t + 1) (updB G (p * n + r) (G (p * n + r) || (Z (q * n + r) != 0))) := by
  refine hG.set hr fun e => ?_
  rw [Bool.or_eq_true] at e
  rcases e with e | e
  · exact hG p r hp hr e
  · have h1 := hF p q hp hq h
    have h2 : q < r := by
      refine Nat.lt_of_not_le fun hle => ?_
      rw [hZ q hq r hr hle] at e
      simp at e
    omega
/-- One row of truth values, and two. -/
def MvK (w3 : World) (nn L : Nat) (F : Nat → Bool) (W : World) : Prop := Kp w3 W ∧ w3.heap.size ≤ L ∧ Blk L (bools nn F) 4 W
def MvT (w3 : World) (nn L : Nat) (F : Nat → Bool) (X : Nat) (G : Nat → Bool) (W : World) : Prop := MvK w3 nn L F W ∧ MvK w3 nn X G W ∧ L ≠ X
theorem MvK.set {w3 : World} {nn L : Nat} {F : Nat → Bool} {W : World} (h : MvK w3 nn L F W) (k : Nat) (v : Bool) : MvK w3 nn L (updB F k v) (W.setCell ⟨L, k, none⟩ (.bool v)) := by
  refine ⟨h.1.mod (U := L) ((Mod.refl _ _).setCell _ _) h.2.1, h.2.1, ?_⟩
  have := Blk.set h.2.2 k (.bool v)
  rw [bools_set] at this
  exact this
theorem MvT.set {w3 : World} {nn L X : Nat} {F G : Nat → Bool} {W : World} (h : MvT w3 nn L F X G W) (k : Nat) (v : Bool) : MvT w3 nn L F X (updB G k v) (W.setCell ⟨X, k, none⟩ (.bool v)) := by
  have md : Mod X W (W.setCell ⟨X, k, none⟩ (.bool v)) := (Mod.refl _ _).setCell _ _
  exact ⟨⟨h.1.1.mod md h.2.1.2.1, h.1.2.1, Blk.keep h.1.2.2 md h.2.2⟩, h.2.1.set k v, h.2.2⟩
theorem MvT.drew {w3 : World} {nn L X : Nat} {F G : Nat → Bool} {W : World} (h : MvT w3 nn L F X G W) : MvT w3 nn L F X G W.drew := h
theorem MvK.made {w3 : World} {nn : Nat} {W : World} (k : Kp w3 W) : MvK w3 nn W.heap.size (fun _ => false) (W.alloc (.cells (bools nn (fun _ => false)) 4)) := ⟨k.alloc _ _, k.2.2.2, Blk.new _ _ _⟩
theorem MvT.made {w3 : World} {nn L : Nat} {F : Nat → Bool} {W : World} (h : MvK w3 nn L F W) : MvT w3 nn L F W.heap.size (fun _ => false) (W.alloc (.cells (bools nn (fun _ => false)) 4)) :=
  ⟨⟨h.1.alloc _ _, h.2.1, Blk.grown h.2.2 ((Grown.refl _).alloc _ _)⟩, MvK.made h.1, Nat.ne_of_lt (Blk.lt h.2.2)⟩

set_option maxRecDepth 50000 in
set_option maxHeartbeats 16000000 in
theorem lawModelMoves (m : DV) (w : World) (hm : m.okIn w) :
    Calls Try.prog 5 #[.agg m.cells] w fun e w' => e = .returned (.bool true) ∧ Kp w w' := by
  unfold DV.cells
  have S0 : Hid (Kp w (w.alloc (.cells #[.int .i64 m.N, .slice m.A.ao m.A.len m.A.cap, .slice m.Q.ao m.Q.len m.Q.cap, .int .i64 m.tick, .int .i64 m.gate, .int .i64 m.rmin, .slice m.ro m.rl m.rc] 25)) ∧ Blk w.heap.size m.cells 25 (w.alloc (.cells #[.int .i64 m.N, .slice m.A.ao m.A.len m.A.cap, .slice m.Q.ao m.Q.len m.Q.cap, .int .i64 m.tick, .int .i64 m.gate, .int .i64 m.rmin, .slice m.ro m.rl m.rc] 25))) := ⟨(Kp.refl _).alloc _ _, Blk.new w _ _⟩
  have HM := hide hm
  clear hm
  go_enter Try.func5, Try.ntmps5
  go_wp2_with fail
  generalize (w.alloc (.cells #[.int .i64 m.N, .slice m.A.ao m.A.len m.A.cap, .slice m.Q.ao m.Q.len m.Q.cap, .int .i64 m.tick, .int .i64 m.gate, .int .i64 m.rmin, .slice m.ro m.rl m.rc] 25)) = w0 at *
  refine (lawModelKnown _).mono ?_
  rintro e w1 ⟨rfl, k1⟩
  have S1 : Hid (Kp w w1 ∧ Blk w.heap.size m.cells 25 w1) := ⟨(unhide S0).1.trans k1, Blk.kp (unhide S0).2 k1⟩
  clear k1 S0
  obtain ⟨y0, y1, y2, y3, y4, y5, y6⟩ := ((unhide S1).2).cellsD
  go_wp2_with fail
  refine (kitLongM m w1 ((unhide HM).rvs.kp (unhide S1).1)).mono ?_
  rintro e w2 ⟨r, rfl, g1, hs⟩
  have HS := hide hs
  have S2 : Hid (Kp w w2 ∧ Blk w.heap.size m.cells 25 w2) := ⟨(unhide S1).1.grown g1, Blk.grown (unhide S1).2 g1⟩
  clear g1 hs S1 y0 y1 y2 y3 y4 y5 y6
  cases r with
  | true =>
    go_wp2
    go_ret
    exact ⟨rfl, (unhide S2).1⟩
  | false =>
    have GG : Hid (∀ wx, Kp w wx → m.good wx) := fun wx k => ((unhide HM).good (by first | exact unhide HS rfl | exact unhide HS trivial)).kp k
    clear HM HS
    obtain ⟨y0, y1, y2, y3, y4, y5, y6⟩ := ((unhide S2).2).cellsD
    go_wp2_with fail
    refine (pCheck m w2 (unhide GG _ (unhide S2).1)).mono ?_
    rintro e w3 ⟨rfl, k3⟩
    have S3 : Hid (Kp w w3 ∧ Blk w.heap.size m.cells 25 w3 ∧ m.good w3) := ⟨(unhide S2).1.trans k3, Blk.kp (unhide S2).2 k3, unhide GG _ ((unhide S2).1.trans k3)⟩
    clear k3 S2 y0 y1 y2 y3 y4 y5 y6 GG
    generalize w.heap.size = Mx at *
    by_cases hok : okD m
    · rw [show chkD m = 0 from if_pos hok]
      obtain ⟨n, eN⟩ : ∃ n : Nat, m.N = n := ⟨m.N.toNat, (Int.toNat_of_nonneg (Int.le_trans (by decide) hok.1.1)).symm⟩
      obtain ⟨nn, hnn⟩ : ∃ nn, n * n = nn := ⟨_, rfl⟩
      have HN : Hid (1 ≤ n ∧ n ≤ 6 ∧ 1 ≤ nn ∧ nn ≤ 36 ∧ m.A.len = nn) := by
        obtain ⟨⟨h1, h2⟩, ⟨h3, _⟩, _⟩ := hok
        rw [eN] at h1 h2 h3
        rw [Int.toNat_natCast, hnn] at h3
        have n1 : 1 ≤ n := by omega
        have n6 : n ≤ 6 := by omega
        have q1 : 1 * 1 ≤ n * n := Nat.mul_le_mul n1 n1
        have q2 : n * n ≤ 6 * 6 := Nat.mul_le_mul n6 n6
        exact ⟨n1, n6, by omega, by omega, h3⟩
      have HZ : Hid (∀ i, i < n → ∀ k, k < n → k ≤ i → m.A.Z (i * n + k) = 0) := by
        obtain ⟨_, ⟨_, _, h⟩, _⟩ := hok
        rw [eN, Int.toNat_natCast] at h
        exact fun i hi k hk hle => ((h i hi).2 k hk).2 hle
      have wn : wrap64 ((n : Int) * (n : Int)) = (nn : Int) := wrapP n n nn hnn (by have := unhide HN; omega)
      have wni : IntKind.i64.wrap ((n : Int) * (n : Int)) = (nn : Int) := wrapPi n n nn hnn (by have := unhide HN; omega)
      obtain ⟨ab, ao, ea, _⟩ := (unhide S3).2.2.1.1.at (show 0 < m.A.len by have := unhide HN; omega)
      have CA : Hid (∀ k, k < nn → w3.cell? ⟨ab, ao + k, none⟩ = some (.int .i64 (m.A.Z k))) := fun k hk => by
        obtain ⟨b', o', e', hc⟩ := (unhide S3).2.2.1.1.at (show k < m.A.len by rw [(unhide HN).2.2.2.2]; exact hk)
        rw [ea] at e'
        cases e'
        exact hc
      have C0 : Hid (∀ wx, Kp w3 wx → wx.cell? ⟨Mx, 0, none⟩ = some (.int .i64 (n : Int)) ∧ wx.cell? ⟨Mx, 1, none⟩ = some (.slice (some ⟨ab, ao, none⟩) nn m.A.cap) ∧ ∀ k, k < nn → wx.cell? ⟨ab, ao + k, none⟩ = some (.int .i64 (m.A.Z k))) := fun wx k => by
        have B := Blk.kp (unhide S3).2.1 k
        refine ⟨by rw [← eN]; exact B.cellsD.1, by rw [← ea, ← (unhide HN).2.2.2.2]; exact B.cellsD.2.1, fun j hj => k.cell (unhide CA j hj)⟩
      have HE := hide hnn
      obtain ⟨y0, y1, _⟩ := unhide C0 w3 (Kp.refl _)
      have d0 : decide ((n : Int) < 1) = false := decide_eq_false (by have := unhide HN; omega)
      have d1 : decide ((6 : Int) < (n : Int)) = false := decide_eq_false (by have := unhide HN; omega)
      have dl : ((nn : Int) != (nn : Int)) = false := by simp
      have MK := make_bools nn (by have := unhide HN; omega)
      have KK : Hid (MvK w3 nn w3.heap.size (fun _ => false) (w3.alloc (.cells (bools nn (fun _ => false)) 4))) := MvK.made (Kp.refl _)
      clear hok eN hnn ea CA
      go_wp2_with fail
      generalize (w3.alloc (.cells (bools nn (fun _ => false)) 4)) = wA at *
      obtain ⟨LA, hLA⟩ : ∃ L, w3.heap.size = L := ⟨_, rfl⟩
      rw [hLA] at KK ⊢
      have HA := hide hLA
      clear hLA y0 y1 d0 d1 dl wn
      have n6 : n ≤ 6 := (unhide HN).2.1
      go_loopw [5] (fun i wr => ∃ (k : Nat) (F : Nat → Bool), k ≤ n ∧ i = .int .i64 k ∧ Hid (MvK w3 nn LA F wr ∧ upT n 0 F)) (fun i _ => n - (intOf i).toNat)
      case atStart => exact ⟨0, fun _ => false, Nat.zero_le _, rfl, unhide KK, fun _ _ _ _ h => by cases h⟩
      case round =>
        obtain ⟨k, F, hk, rfl, HI⟩ := hrel
        clear KK
        obtain ⟨y0, _, _⟩ := unhide C0 wr (unhide HI).1.1
        by_cases hlt : k < n
        · obtain ⟨rn, hrn⟩ : ∃ rn, k * n = rn := ⟨_, rfl⟩
          obtain ⟨x, hx⟩ : ∃ x, rn + k = x := ⟨_, rfl⟩
          have hxl : x < nn := by have h := place_in k k n n hlt hlt; rw [unhide HE, hrn, hx] at h; exact h
          have b6 : nn ≤ 36 := (unhide HN).2.2.2.1
          have wa : IntKind.i64.wrap ((k : Int) * (n : Int)) = (rn : Int) := wrapPi k n rn hrn (by omega)
          have wb : IntKind.i64.wrap ((rn : Int) + (k : Int)) = (x : Int) := wrapAi rn k x hx (by omega)
          have wa2 : wrap64 ((k : Int) * (n : Int)) = (rn : Int) := wrapP k n rn hrn (by omega)
          have wb2 : wrap64 ((rn : Int) + (k : Int)) = (x : Int) := wrapA rn k x hx (by omega)
          have i0 : (0 : Int) ≤ (x : Int) := Int.natCast_nonneg _
          have i1 : (x : Int) < (nn : Int) := Int.ofNat_lt.2 hxl
          have c1 : wr.cell? ⟨LA, x, none⟩ = some (.bool (F x)) := by rw [Blk.cell (unhide HI).1.2.2, bools_at nn _ x hxl]
          have f1 : wr.frozen? ⟨LA, x, none⟩ = false := Blk.free (unhide HI).1.2.2 x
          have HP : Hid (MvK w3 nn LA (updB F x true) (wr.setCell ⟨LA, x, none⟩ (.bool true)) ∧ upT n 0 (updB F x true)) := ⟨(unhide HI).1.set x true, by have h := (unhide HI).2.set (a := k) (b := k) (v := true) hlt (fun _ => Nat.le_refl _); rw [hrn, hx] at h; exact h⟩
          have NX : Hid (k + 1 ≤ n) := hlt
          clear hrn hx hxl b6 HI hk
          go_wp2_with fail
          clear wa wb wa2 wb2 i0 i1 c1 f1 y0
          go_wp2
          go_roundw
          case rel => exact ⟨k + 1, _, unhide NX, by go_num, HP⟩
          case measure => have := unhide NX; simp [intOf]; omega
        · obtain rfl : k = n := by omega
          clear hlt hk
          have KI : Hid (MvK w3 nn LA F wr ∧ upT k 0 F) := HI
          clear HI
          go_wp2_with fail
          clear y0
          go_loopw [6, 4, 7, 8, 9, 10, 11] (fun t l _ _ _ _ _ wr => ∃ (k2 L : Nat) (F : Nat → Bool), k2 ≤ k ∧ t = .int .i64 k2 ∧ l = .slice (some ⟨L, 0, none⟩) nn nn ∧ Hid (MvK w3 nn L F wr ∧ upT k k2 F)) (fun t _ _ _ _ _ _ _ => k - (intOf t).toNat)
          case atStart => exact ⟨0, LA, F, Nat.zero_le _, rfl, rfl, KI⟩
          case round =>
            obtain ⟨t, L, F, ht, rfl, rfl, HI⟩ := hrel
            clear KI
            obtain ⟨y0, _, _⟩ := unhide C0 wr (unhide HI).1.1
            by_cases hlt : t < k
            · have T0 : Hid (MvT w3 nn L F wr.heap.size (fun _ => false) (wr.alloc (.cells (bools nn (fun _ => false)) 4)) ∧ upT k (t + 1) (fun _ => false)) := ⟨MvT.made (unhide HI).1, fun _ _ _ _ h => by cases h⟩
              have NT : Hid (t + 1 ≤ k) := hlt
              have UF := hide (unhide HI).2
              clear HI ht
              have wn : wrap64 ((k : Int) * (k : Int)) = (nn : Int) := wrapP k k nn (unhide HE) (by have := unhide HN; omega)
              go_wp2_with fail
              generalize (wr.alloc (.cells (bools nn (fun _ => false)) 4)) = wB at *
              generalize wr.heap.size = X at *
              clear y0 wn
              go_loopw [8, 9, 10] (fun i _ _ wr => ∃ (p : Nat) (G : Nat → Bool), p ≤ k ∧ i = .int .i64 p ∧ Hid (MvT w3 nn L F X G wr ∧ upT k (t + 1) G)) (fun i _ _ _ => k - (intOf i).toNat)
              case atStart => exact ⟨0, fun _ => false, Nat.zero_le _, rfl, T0⟩
              case round =>
                obtain ⟨p, G, hp, rfl, HI⟩ := hrel
                clear T0
                obtain ⟨y0, _, _⟩ := unhide C0 wr (unhide HI).1.1.1
                by_cases hlp : p < k
                · have T1 := HI
                  have NP : Hid (p + 1 ≤ k) := hlp
                  clear HI hp
                  go_wp2_with fail
                  clear y0
                  go_loopw [9, 10] (fun i _ wr => ∃ (q : Nat) (G : Nat → Bool), q ≤ k ∧ i = .int .i64 q ∧ Hid (MvT w3 nn L F X G wr ∧ upT k (t + 1) G)) (fun i _ _ => k - (intOf i).toNat)
                  case atStart => exact ⟨0, G, Nat.zero_le _, rfl, T1⟩
                  case round =>
                    obtain ⟨q, G, hq, rfl, HI⟩ := hrel
                    clear T1
                    obtain ⟨y0, _, _⟩ := unhide C0 wr (unhide HI).1.1.1
                    by_cases hlq : q < k
                    · have T2 := HI
                      have NQ : Hid (q + 1 ≤ k) := hlq
                      obtain ⟨rn, hrn⟩ : ∃ rn, p * k = rn := ⟨_, rfl⟩
                      obtain ⟨z, hz⟩ : ∃ z, rn + q = z := ⟨_, rfl⟩
                      have hzl : z < nn := by have h := place_in p q k k (unhide NP) hlq; rw [unhide HE, hrn, hz] at h; exact h
                      have b6 : nn ≤ 36 := (unhide HN).2.2.2.1
                      have wa : IntKind.i64.wrap ((p : Int) * (k : Int)) = (rn : Int) := wrapPi p k rn hrn (by omega)
                      have wb : IntKind.i64.wrap ((rn : Int) + (q : Int)) = (z : Int) := wrapAi rn q z hz (by omega)
                      have wa2 : wrap64 ((p : Int) * (k : Int)) = (rn : Int) := wrapP p k rn hrn (by omega)
                      have wb2 : wrap64 ((rn : Int) + (q : Int)) = (z : Int) := wrapA rn q z hz (by omega)
                      have i0 : (0 : Int) ≤ (z : Int) := Int.natCast_nonneg _
                      have i1 : (z : Int) < (nn : Int) := Int.ofNat_lt.2 hzl
                      obtain ⟨fz, hfz⟩ : ∃ f, F z = f := ⟨_, rfl⟩
                      have CL : Hid (∀ G' wx, MvT w3 nn L F X G' wx → wx.cell? ⟨L, z, none⟩ = some (.bool fz)) := fun G' wx h => by rw [Blk.cell h.1.2.2, bools_at nn _ z hzl, hfz]
                      have HF : Hid (F (p * k + q) = fz) := by rw [hrn, hz]; exact hfz
                      have HRN := hide hrn
                      clear HI hq hfz hrn hz hzl b6
                      go_wp2_with fail
                      clear y0
                      go_loopw [10] (fun i wr => ∃ (r : Nat) (G : Nat → Bool), r ≤ k ∧ i = .int .i64 r ∧ Hid (MvT w3 nn L F X G wr ∧ upT k (t + 1) G)) (fun i _ => k - (intOf i).toNat)
                      case atStart => exact ⟨0, G, Nat.zero_le _, rfl, T2⟩
                      case round =>
                        obtain ⟨r, G, hr, rfl, HI⟩ := hrel
                        clear T2
                        obtain ⟨y0, y1, yc⟩ := unhide C0 wr (unhide HI).1.1.1
                        have c0 := unhide CL G wr (unhide HI).1
                        cases fz with
                        | false =>
                          have T3 := HI
                          clear HI yc hr
                          go_wp2_with fail
                          clear wa wb wa2 wb2 i0 i1 c0 y0 y1
                          go_wp2
                          go_roundw
                          case rel => exact ⟨q + 1, G, unhide NQ, by go_num, T3⟩
                          case measure => have := unhide NQ; simp [intOf]; omega
                        | true =>
                          by_cases hlr : r < k
                          · obtain ⟨x, hx⟩ : ∃ x, rn + r = x := ⟨_, rfl⟩
                            obtain ⟨qn, hqn⟩ : ∃ x, q * k = x := ⟨_, rfl⟩
                            obtain ⟨y, hy⟩ : ∃ x, qn + r = x := ⟨_, rfl⟩
                            have hxl : x < nn := by have h := place_in p r k k (unhide NP) hlr; rw [unhide HE, unhide HRN, hx] at h; exact h
                            have hyl : y < nn := by have h := place_in q r k k (unhide NQ) hlr; rw [unhide HE, hqn, hy] at h; exact h
                            have b6 : nn ≤ 36 := (unhide HN).2.2.2.1
                            have ba : IntKind.i64.wrap ((p : Int) * (k : Int)) = (rn : Int) := wa
                            have bb : IntKind.i64.wrap ((rn : Int) + (r : Int)) = (x : Int) := wrapAi rn r x hx (by omega)
                            have bc : IntKind.i64.wrap ((q : Int) * (k : Int)) = (qn : Int) := wrapPi q k qn hqn (by omega)
                            have bd : IntKind.i64.wrap ((qn : Int) + (r : Int)) = (y : Int) := wrapAi qn r y hy (by omega)
                            have bb2 : wrap64 ((rn : Int) + (r : Int)) = (x : Int) := wrapA rn r x hx (by omega)
                            have bc2 : wrap64 ((q : Int) * (k : Int)) = (qn : Int) := wrapP q k qn hqn (by omega)
                            have bd2 : wrap64 ((qn : Int) + (r : Int)) = (y : Int) := wrapA qn r y hy (by omega)
                            have i2 : (0 : Int) ≤ (x : Int) := Int.natCast_nonneg _
                            have i3 : (x : Int) < (nn : Int) := Int.ofNat_lt.2 hxl
                            have i4 : (0 : Int) ≤ (y : Int) := Int.natCast_nonneg _
                            have i5 : (y : Int) < (nn : Int) := Int.ofNat_lt.2 hyl
                            obtain ⟨gx, hgx⟩ : ∃ g, G x = g := ⟨_, rfl⟩
                            obtain ⟨ay, hay⟩ : ∃ a, m.A.Z y = a := ⟨_, rfl⟩
                            have c2 : wr.cell? ⟨X, x, none⟩ = some (.bool gx) := by rw [Blk.cell (unhide HI).1.2.1.2.2, bools_at nn _ x hxl, hgx]
                            have f2 : wr.frozen? ⟨X, x, none⟩ = false := Blk.free (unhide HI).1.2.1.2.2 x
                            have c3 : wr.cell? ⟨ab, ao + y, none⟩ = some (.int .i64 ay) := by rw [yc y hyl, hay]
                            have HP : Hid (MvT w3 nn L F X (updB G x (gx || (ay != 0))) (wr.drew.setCell ⟨X, x, none⟩ (.bool (gx || (ay != 0)))) ∧ upT k (t + 1) (updB G x (gx || (ay != 0)))) := by
                              refine ⟨(unhide HI).1.drew.set x _, ?_⟩
                              have h := upT.step (Z := m.A.Z) (unhide UF) (unhide HI).2 (unhide HZ) (unhide NP) (unhide NQ) hlr (unhide HF)
                              rw [unhide HRN, hx, hqn, hy, hgx, hay] at h
                              exact h
                            have NR : Hid (r + 1 ≤ k) := hlr
                            clear hx hqn hy hxl hyl b6 hgx hay HI hr yc
                            go_wp2_with fail
                            clear c0 i0 i1 wb wb2
                            refine region_G (fun w' => w'.cell? ⟨Mx, 0, none⟩ = some (.int .i64 (k : Int)) ∧ w'.cell? ⟨Mx, 1, none⟩ = some (.slice (some ⟨ab, ao, none⟩) nn m.A.cap) ∧ w'.cell? ⟨X, x, none⟩ = some (.bool gx) ∧ w'.cell? ⟨ab, ao + y, none⟩ = some (.int .i64 ay)) 30 (by kernel_rfl) ⟨y0, y1, c2, c3⟩ (fun hHeld => ?_)
                            refine take_G (i := 0) (d := 102) (v := .slice (some ⟨X, 0, none⟩) nn nn) rfl rfl (by kernel_rfl) (by kernel_rfl) (by kernel_rfl) (by kernel_rfl) (by kernel_rfl) (Or.inl ⟨by rfl, ?_⟩) hHeld ?_
                            · intro wS hSw
                              obtain ⟨z0, z1, z2, z3⟩ := hSw
                              clear hHeld
                              go_simp
                            (try simp only [Act.put, List.setIfInBounds_toArray, List.set_cons_zero, List.set_cons_succ])
                            refine take_G (i := 1) (d := 103) (v := .int .i64 (p : Int)) rfl rfl (by kernel_rfl) (by kernel_rfl) (by kernel_rfl) (by kernel_rfl) (by kernel_rfl) (Or.inl ⟨by rfl, ?_⟩) hHeld ?_
                            · intro wS hSw
                              obtain ⟨z0, z1, z2, z3⟩ := hSw
                              clear hHeld
                              go_simp
                            (try simp only [Act.put, List.setIfInBounds_toArray, List.set_cons_zero, List.set_cons_succ])
                            refine take_G (i := 2) (d := 104) (v := .pointer (some ⟨Mx, 0, none⟩)) rfl rfl (by kernel_rfl) (by kernel_rfl) (by kernel_rfl) (by kernel_rfl) (by kernel_rfl) (Or.inl ⟨by rfl, ?_⟩) hHeld ?_
                            · intro wS hSw
                              obtain ⟨z0, z1, z2, z3⟩ := hSw
                              clear hHeld
                              go_simp
                            (try simp only [Act.put, List.setIfInBounds_toArray, List.set_cons_zero, List.set_cons_succ])
                            refine take_G (i := 3) (d := 105) (v := .int .i64 (k : Int)) rfl rfl (by kernel_rfl) (by kernel_rfl) (by kernel_rfl) (by kernel_rfl) (by kernel_rfl) (Or.inl ⟨by rfl, ?_⟩) hHeld ?_
                            · intro wS hSw
                              obtain ⟨z0, z1, z2, z3⟩ := hSw
                              clear hHeld
                              go_simp
                            (try simp only [Act.put, List.setIfInBounds_toArray, List.set_cons_zero, List.set_cons_succ])
                            refine take_G (i := 4) (d := 106) (v := .int .i64 (rn : Int)) rfl rfl (by kernel_rfl) (by kernel_rfl) (by kernel_rfl) (by kernel_rfl) (by kernel_rfl) (Or.inl ⟨by rfl, ?_⟩) hHeld ?_
                            · intro wS hSw
                              obtain ⟨z0, z1, z2, z3⟩ := hSw
                              clear hHeld
                              go_simp
                            (try simp only [Act.put, List.setIfInBounds_toArray, List.set_cons_zero, List.set_cons_succ])
                            refine take_G (i := 5) (d := 107) (v := .int .i64 (r : Int)) rfl rfl (by kernel_rfl) (by kernel_rfl) (by kernel_rfl) (by kernel_rfl) (by kernel_rfl) (Or.inl ⟨by rfl, ?_⟩) hHeld ?_
                            · intro wS hSw
                              obtain ⟨z0, z1, z2, z3⟩ := hSw
                              clear hHeld
                              go_simp
                            (try simp only [Act.put, List.setIfInBounds_toArray, List.set_cons_zero, List.set_cons_succ])
                            refine take_G (i := 6) (d := 108) (v := .int .i64 (x : Int)) rfl rfl (by kernel_rfl) (by kernel_rfl) (by kernel_rfl) (by kernel_rfl) (by kernel_rfl) (Or.inl ⟨by rfl, ?_⟩) hHeld ?_
                            · intro wS hSw
                              obtain ⟨z0, z1, z2, z3⟩ := hSw
                              clear hHeld
                              go_simp
                            (try simp only [Act.put, List.setIfInBounds_toArray, List.set_cons_zero, List.set_cons_succ])
                            refine take_G (i := 7) (d := 109) (v := .slice (some ⟨X, 0, none⟩) nn nn) rfl rfl (by kernel_rfl) (by kernel_rfl) (by kernel_rfl) (by kernel_rfl) (by kernel_rfl) (Or.inl ⟨by rfl, ?_⟩) hHeld ?_
                            · intro wS hSw
                              obtain ⟨z0, z1, z2, z3⟩ := hSw
                              clear hHeld
                              go_simp
                            (try simp only [Act.put, List.setIfInBounds_toArray, List.set_cons_zero, List.set_cons_succ])
                            refine take_G (i := 8) (d := 110) (v := .int .i64 (p : Int)) rfl rfl (by kernel_rfl) (by kernel_rfl) (by kernel_rfl) (by kernel_rfl) (by kernel_rfl) (Or.inl ⟨by rfl, ?_⟩) hHeld ?_
                            · intro wS hSw
                              obtain ⟨z0, z1, z2, z3⟩ := hSw
                              clear hHeld
                              go_simp
                            (try simp only [Act.put, List.setIfInBounds_toArray, List.set_cons_zero, List.set_cons_succ])
                            refine take_G (i := 9) (d := 111) (v := .pointer (some ⟨Mx, 0, none⟩)) rfl rfl (by kernel_rfl) (by kernel_rfl) (by kernel_rfl) (by kernel_rfl) (by kernel_rfl) (Or.inl ⟨by rfl, ?_⟩) hHeld ?_
                            · intro wS hSw
                              obtain ⟨z0, z1, z2, z3⟩ := hSw
                              clear hHeld
                              go_simp
                            (try simp only [Act.put, List.setIfInBounds_toArray, List.set_cons_zero, List.set_cons_succ])
                            refine take_G (i := 10) (d := 112) (v := .int .i64 (k : Int)) rfl rfl (by kernel_rfl) (by kernel_rfl) (by kernel_rfl) (by kernel_rfl) (by kernel_rfl) (Or.inl ⟨by rfl, ?_⟩) hHeld ?_
                            · intro wS hSw
                              obtain ⟨z0, z1, z2, z3⟩ := hSw
                              clear hHeld
                              go_simp
                            (try simp only [Act.put, List.setIfInBounds_toArray, List.set_cons_zero, List.set_cons_succ])
                            refine take_G (i := 11) (d := 113) (v := .int .i64 (rn : Int)) rfl rfl (by kernel_rfl) (by kernel_rfl) (by kernel_rfl) (by kernel_rfl) (by kernel_rfl) (Or.inl ⟨by rfl, ?_⟩) hHeld ?_
                            · intro wS hSw
                              obtain ⟨z0, z1, z2, z3⟩ := hSw
                              clear hHeld
                              go_simp
                            (try simp only [Act.put, List.setIfInBounds_toArray, List.set_cons_zero, List.set_cons_succ])
                            refine take_G (i := 12) (d := 114) (v := .int .i64 (r : Int)) rfl rfl (by kernel_rfl) (by kernel_rfl) (by kernel_rfl) (by kernel_rfl) (by kernel_rfl) (Or.inl ⟨by rfl, ?_⟩) hHeld ?_
                            · intro wS hSw
                              obtain ⟨z0, z1, z2, z3⟩ := hSw
                              clear hHeld
                              go_simp
                            (try simp only [Act.put, List.setIfInBounds_toArray, List.set_cons_zero, List.set_cons_succ])
                            refine take_G (i := 13) (d := 115) (v := .int .i64 (x : Int)) rfl rfl (by kernel_rfl) (by kernel_rfl) (by kernel_rfl) (by kernel_rfl) (by kernel_rfl) (Or.inl ⟨by rfl, ?_⟩) hHeld ?_
                            · intro wS hSw
                              obtain ⟨z0, z1, z2, z3⟩ := hSw
                              clear hHeld
                              go_simp
                            (try simp only [Act.put, List.setIfInBounds_toArray, List.set_cons_zero, List.set_cons_succ])
                            refine take_G (i := 14) (d := 116) (v := .pointer (some ⟨X, x, none⟩)) rfl rfl (by kernel_rfl) (by kernel_rfl) (by kernel_rfl) (by kernel_rfl) (by kernel_rfl) (Or.inl ⟨by rfl, ?_⟩) hHeld ?_
                            · intro wS hSw
                              obtain ⟨z0, z1, z2, z3⟩ := hSw
                              clear hHeld
                              go_simp
                            (try simp only [Act.put, List.setIfInBounds_toArray, List.set_cons_zero, List.set_cons_succ])
                            refine take_G (i := 15) (d := 117) (v := .bool gx) rfl rfl (by kernel_rfl) (by kernel_rfl) (by kernel_rfl) (by kernel_rfl) (by kernel_rfl) (Or.inl ⟨by rfl, ?_⟩) hHeld ?_
                            · intro wS hSw
                              obtain ⟨z0, z1, z2, z3⟩ := hSw
                              clear hHeld
                              go_simp
                            (try simp only [Act.put, List.setIfInBounds_toArray, List.set_cons_zero, List.set_cons_succ])
                            refine take_G (i := 16) (d := 118) (v := .bool gx) rfl rfl (by kernel_rfl) (by kernel_rfl) (by kernel_rfl) (by kernel_rfl) (by kernel_rfl) (Or.inl ⟨by rfl, ?_⟩) hHeld ?_
                            · intro wS hSw
                              obtain ⟨z0, z1, z2, z3⟩ := hSw
                              clear hHeld
                              go_simp
                            (try simp only [Act.put, List.setIfInBounds_toArray, List.set_cons_zero, List.set_cons_succ])
                            cases gx with
                            | true =>
                              refine take_G (i := 17) (d := 119) (v := undef) rfl rfl (by kernel_rfl) (by kernel_rfl) (by kernel_rfl) (by kernel_rfl) (by kernel_rfl) (Or.inr ⟨by rfl, rfl⟩) hHeld ?_
                              (try simp only [Act.put, List.setIfInBounds_toArray, List.set_cons_zero, List.set_cons_succ])
                              refine take_G (i := 18) (d := 120) (v := undef) rfl rfl (by kernel_rfl) (by kernel_rfl) (by kernel_rfl) (by kernel_rfl) (by kernel_rfl) (Or.inr ⟨by rfl, rfl⟩) hHeld ?_
                              (try simp only [Act.put, List.setIfInBounds_toArray, List.set_cons_zero, List.set_cons_succ])
                              refine take_G (i := 19) (d := 121) (v := undef) rfl rfl (by kernel_rfl) (by kernel_rfl) (by kernel_rfl) (by kernel_rfl) (by kernel_rfl) (Or.inr ⟨by rfl, rfl⟩) hHeld ?_
                              (try simp only [Act.put, List.setIfInBounds_toArray, List.set_cons_zero, List.set_cons_succ])
                              refine take_G (i := 20) (d := 122) (v := undef) rfl rfl (by kernel_rfl) (by kernel_rfl) (by kernel_rfl) (by kernel_rfl) (by kernel_rfl) (Or.inr ⟨by rfl, rfl⟩) hHeld ?_
                              (try simp only [Act.put, List.setIfInBounds_toArray, List.set_cons_zero, List.set_cons_succ])
                              refine take_G (i := 21) (d := 123) (v := undef) rfl rfl (by kernel_rfl) (by kernel_rfl) (by kernel_rfl) (by kernel_rfl) (by kernel_rfl) (Or.inr ⟨by rfl, rfl⟩) hHeld ?_
                              (try simp only [Act.put, List.setIfInBounds_toArray, List.set_cons_zero, List.set_cons_succ])
                              refine take_G (i := 22) (d := 124) (v := undef) rfl rfl (by kernel_rfl) (by kernel_rfl) (by kernel_rfl) (by kernel_rfl) (by kernel_rfl) (Or.inr ⟨by rfl, rfl⟩) hHeld ?_
                              (try simp only [Act.put, List.setIfInBounds_toArray, List.set_cons_zero, List.set_cons_succ])
                              refine take_G (i := 23) (d := 125) (v := undef) rfl rfl (by kernel_rfl) (by kernel_rfl) (by kernel_rfl) (by kernel_rfl) (by kernel_rfl) (Or.inr ⟨by rfl, rfl⟩) hHeld ?_
                              (try simp only [Act.put, List.setIfInBounds_toArray, List.set_cons_zero, List.set_cons_succ])
                              refine take_G (i := 24) (d := 126) (v := undef) rfl rfl (by kernel_rfl) (by kernel_rfl) (by kernel_rfl) (by kernel_rfl) (by kernel_rfl) (Or.inr ⟨by rfl, rfl⟩) hHeld ?_
                              (try simp only [Act.put, List.setIfInBounds_toArray, List.set_cons_zero, List.set_cons_succ])
                              refine take_G (i := 25) (d := 127) (v := undef) rfl rfl (by kernel_rfl) (by kernel_rfl) (by kernel_rfl) (by kernel_rfl) (by kernel_rfl) (Or.inr ⟨by rfl, rfl⟩) hHeld ?_
                              (try simp only [Act.put, List.setIfInBounds_toArray, List.set_cons_zero, List.set_cons_succ])
                              refine take_G (i := 26) (d := 128) (v := undef) rfl rfl (by kernel_rfl) (by kernel_rfl) (by kernel_rfl) (by kernel_rfl) (by kernel_rfl) (Or.inr ⟨by rfl, rfl⟩) hHeld ?_
                              (try simp only [Act.put, List.setIfInBounds_toArray, List.set_cons_zero, List.set_cons_succ])
                              refine take_G (i := 27) (d := 129) (v := undef) rfl rfl (by kernel_rfl) (by kernel_rfl) (by kernel_rfl) (by kernel_rfl) (by kernel_rfl) (Or.inr ⟨by rfl, rfl⟩) hHeld ?_
                              (try simp only [Act.put, List.setIfInBounds_toArray, List.set_cons_zero, List.set_cons_succ])
                              refine take_G (i := 28) (d := 130) (v := .bool true) rfl rfl (by kernel_rfl) (by kernel_rfl) (by kernel_rfl) (by kernel_rfl) (by kernel_rfl) (Or.inl ⟨by rfl, ?_⟩) hHeld ?_
                              · intro wS hSw
                                obtain ⟨z0, z1, z2, z3⟩ := hSw
                                clear hHeld
                                go_simp
                              (try simp only [Act.put, List.setIfInBounds_toArray, List.set_cons_zero, List.set_cons_succ])
                              refine take_G (i := 29) (d := 131) (v := .pointer (some ⟨X, x, none⟩)) rfl rfl (by kernel_rfl) (by kernel_rfl) (by kernel_rfl) (by kernel_rfl) (by kernel_rfl) (Or.inl ⟨by rfl, ?_⟩) hHeld ?_
                              · intro wS hSw
                                obtain ⟨z0, z1, z2, z3⟩ := hSw
                                clear hHeld
                                go_simp
                              (try simp only [Act.put, List.setIfInBounds_toArray, List.set_cons_zero, List.set_cons_succ])
                              refine step_G (i := 30) (by kernel_rfl) (fun K hK => ?_)
                              refine wpOp_of rfl rfl ?_
                              unfold Oper.wp
                              go_simp
                              refine hK _ _ (fun h => absurd rfl h) ?_
                              clear hK K
                              refine done_G (by kernel_rfl) ?_
                              clear wa wa2 ba bb bc bd bb2 bc2 bd2 i2 i3 i4 i5 hHeld c2 f2 c3 y0 y1
                              refine noPanic_normalE ?_
                              go_wp2
                              go_roundw
                              case rel => exact ⟨r + 1, _, unhide NR, by go_num, HP⟩
                              case measure => have := unhide NR; simp [intOf]; omega
                            | false =>
                              refine take_G (i := 17) (d := 119) (v := .pointer (some ⟨Mx, 1, none⟩)) rfl rfl (by kernel_rfl) (by kernel_rfl) (by kernel_rfl) (by kernel_rfl) (by kernel_rfl) (Or.inl ⟨by rfl, ?_⟩) hHeld ?_
                              · intro wS hSw
                                obtain ⟨z0, z1, z2, z3⟩ := hSw
                                clear hHeld
                                go_simp
                              (try simp only [Act.put, List.setIfInBounds_toArray, List.set_cons_zero, List.set_cons_succ])
                              refine take_G (i := 18) (d := 120) (v := .slice (some ⟨ab, ao, none⟩) nn m.A.cap) rfl rfl (by kernel_rfl) (by kernel_rfl) (by kernel_rfl) (by kernel_rfl) (by kernel_rfl) (Or.inl ⟨by rfl, ?_⟩) hHeld ?_
                              · intro wS hSw
                                obtain ⟨z0, z1, z2, z3⟩ := hSw
                                clear hHeld
                                go_simp
                              (try simp only [Act.put, List.setIfInBounds_toArray, List.set_cons_zero, List.set_cons_succ])
                              refine take_G (i := 19) (d := 121) (v := .int .i64 (q : Int)) rfl rfl (by kernel_rfl) (by kernel_rfl) (by kernel_rfl) (by kernel_rfl) (by kernel_rfl) (Or.inl ⟨by rfl, ?_⟩) hHeld ?_
                              · intro wS hSw
                                obtain ⟨z0, z1, z2, z3⟩ := hSw
                                clear hHeld
                                go_simp
                              (try simp only [Act.put, List.setIfInBounds_toArray, List.set_cons_zero, List.set_cons_succ])
                              refine take_G (i := 20) (d := 122) (v := .pointer (some ⟨Mx, 0, none⟩)) rfl rfl (by kernel_rfl) (by kernel_rfl) (by kernel_rfl) (by kernel_rfl) (by kernel_rfl) (Or.inl ⟨by rfl, ?_⟩) hHeld ?_
                              · intro wS hSw
                                obtain ⟨z0, z1, z2, z3⟩ := hSw
                                clear hHeld
                                go_simp
                              (try simp only [Act.put, List.setIfInBounds_toArray, List.set_cons_zero, List.set_cons_succ])
                              refine take_G (i := 21) (d := 123) (v := .int .i64 (k : Int)) rfl rfl (by kernel_rfl) (by kernel_rfl) (by kernel_rfl) (by kernel_rfl) (by kernel_rfl) (Or.inl ⟨by rfl, ?_⟩) hHeld ?_
                              · intro wS hSw
                                obtain ⟨z0, z1, z2, z3⟩ := hSw
                                clear hHeld
                                go_simp
                              (try simp only [Act.put, List.setIfInBounds_toArray, List.set_cons_zero, List.set_cons_succ])
                              refine take_G (i := 22) (d := 124) (v := .int .i64 (qn : Int)) rfl rfl (by kernel_rfl) (by kernel_rfl) (by kernel_rfl) (by kernel_rfl) (by kernel_rfl) (Or.inl ⟨by rfl, ?_⟩) hHeld ?_
                              · intro wS hSw
                                obtain ⟨z0, z1, z2, z3⟩ := hSw
                                clear hHeld
                                go_simp
                              (try simp only [Act.put, List.setIfInBounds_toArray, List.set_cons_zero, List.set_cons_succ])
                              refine take_G (i := 23) (d := 125) (v := .int .i64 (r : Int)) rfl rfl (by kernel_rfl) (by kernel_rfl) (by kernel_rfl) (by kernel_rfl) (by kernel_rfl) (Or.inl ⟨by rfl, ?_⟩) hHeld ?_
                              · intro wS hSw
                                obtain ⟨z0, z1, z2, z3⟩ := hSw
                                clear hHeld
                                go_simp
                              (try simp only [Act.put, List.setIfInBounds_toArray, List.set_cons_zero, List.set_cons_succ])
                              refine take_G (i := 24) (d := 126) (v := .int .i64 (y : Int)) rfl rfl (by kernel_rfl) (by kernel_rfl) (by kernel_rfl) (by kernel_rfl) (by kernel_rfl) (Or.inl ⟨by rfl, ?_⟩) hHeld ?_
                              · intro wS hSw
                                obtain ⟨z0, z1, z2, z3⟩ := hSw
                                clear hHeld
                                go_simp
                              (try simp only [Act.put, List.setIfInBounds_toArray, List.set_cons_zero, List.set_cons_succ])
                              refine take_G (i := 25) (d := 127) (v := .pointer (some ⟨ab, ao + y, none⟩)) rfl rfl (by kernel_rfl) (by kernel_rfl) (by kernel_rfl) (by kernel_rfl) (by kernel_rfl) (Or.inl ⟨by rfl, ?_⟩) hHeld ?_
                              · intro wS hSw
                                obtain ⟨z0, z1, z2, z3⟩ := hSw
                                clear hHeld
                                go_simp
                              (try simp only [Act.put, List.setIfInBounds_toArray, List.set_cons_zero, List.set_cons_succ])
                              refine take_G (i := 26) (d := 128) (v := .int .i64 ay) rfl rfl (by kernel_rfl) (by kernel_rfl) (by kernel_rfl) (by kernel_rfl) (by kernel_rfl) (Or.inl ⟨by rfl, ?_⟩) hHeld ?_
                              · intro wS hSw
                                obtain ⟨z0, z1, z2, z3⟩ := hSw
                                clear hHeld
                                go_simp
                              (try simp only [Act.put, List.setIfInBounds_toArray, List.set_cons_zero, List.set_cons_succ])
                              refine take_G (i := 27) (d := 129) (v := .bool (ay != 0)) rfl rfl (by kernel_rfl) (by kernel_rfl) (by kernel_rfl) (by kernel_rfl) (by kernel_rfl) (Or.inl ⟨by rfl, ?_⟩) hHeld ?_
                              · intro wS hSw
                                obtain ⟨z0, z1, z2, z3⟩ := hSw
                                clear hHeld
                                go_simp
                              (try simp only [Act.put, List.setIfInBounds_toArray, List.set_cons_zero, List.set_cons_succ])
                              refine take_G (i := 28) (d := 130) (v := .bool (ay != 0)) rfl rfl (by kernel_rfl) (by kernel_rfl) (by kernel_rfl) (by kernel_rfl) (by kernel_rfl) (Or.inl ⟨by rfl, ?_⟩) hHeld ?_
                              · intro wS hSw
                                obtain ⟨z0, z1, z2, z3⟩ := hSw
                                clear hHeld
                                go_simp
                              (try simp only [Act.put, List.setIfInBounds_toArray, List.set_cons_zero, List.set_cons_succ])
                              refine take_G (i := 29) (d := 131) (v := .pointer (some ⟨X, x, none⟩)) rfl rfl (by kernel_rfl) (by kernel_rfl) (by kernel_rfl) (by kernel_rfl) (by kernel_rfl) (Or.inl ⟨by rfl, ?_⟩) hHeld ?_
                              · intro wS hSw
                                obtain ⟨z0, z1, z2, z3⟩ := hSw
                                clear hHeld
                                go_simp
                              (try simp only [Act.put, List.setIfInBounds_toArray, List.set_cons_zero, List.set_cons_succ])
                              refine step_G (i := 30) (by kernel_rfl) (fun K hK => ?_)
                              refine wpOp_of rfl rfl ?_
                              unfold Oper.wp
                              go_simp
                              refine hK _ _ (fun h => absurd rfl h) ?_
                              clear hK K
                              refine done_G (by kernel_rfl) ?_
                              clear wa wa2 ba bb bc bd bb2 bc2 bd2 i2 i3 i4 i5 hHeld c2 f2 c3 y0 y1
                              refine noPanic_normalE ?_
                              go_wp2
                              go_roundw
                              case rel => exact ⟨r + 1, _, unhide NR, by go_num, HP⟩
                              case measure => have := unhide NR; simp [intOf]; omega
                          · obtain rfl : r = k := by omega
                            have T3 := HI
                            clear HI yc hr hlr
                            go_wp2_with fail
                            clear wa wb wa2 wb2 i0 i1 c0 y0 y1
                            go_wp2
                            go_roundw
                            case rel => exact ⟨q + 1, G, unhide NQ, by go_num, T3⟩
                            case measure => have := unhide NQ; simp [intOf]; omega
                    · obtain rfl : q = k := by omega
                      have T3 := HI
                      clear HI hq hlq
                      go_wp2_with fail
                      clear y0
                      go_wp2
                      go_roundw
                      case rel => exact ⟨p + 1, G, unhide NP, by go_num, T3⟩
                      case measure => have := unhide NP; simp [intOf]; omega
                · obtain rfl : p = k := by omega
                  clear hlp hp
                  have HD : Hid (∀ q, q < p → wr.cell? ⟨X, q * p + q, none⟩ = some (.bool false)) := fun q hq => by
                    have hl := place_in q q p p hq hq
                    rw [unhide HE] at hl
                    rw [Blk.cell (unhide HI).1.2.1.2.2, bools_at nn _ _ hl, (unhide HI).2.diag hq]
                  have T4 : Hid (MvK w3 nn X G wr ∧ upT p (t + 1) G) := ⟨(unhide HI).1.2.1, (unhide HI).2⟩
                  clear HI
                  go_wp2_with fail
                  clear y0
                  go_loop [11] (fun i => ∃ q : Nat, q ≤ p ∧ i = .int .i64 q) (fun i => p - (intOf i).toNat)
                  case atStart => exact ⟨0, Nat.zero_le _, rfl⟩
                  case round =>
                    obtain ⟨q, hq, rfl⟩ := hrel
                    obtain ⟨y0, _, _⟩ := unhide C0 wr (unhide T4).1.1
                    by_cases hlq : q < p
                    · have c := unhide HD q hlq
                      obtain ⟨rn, hrn⟩ : ∃ rn, q * p = rn := ⟨_, rfl⟩
                      rw [hrn] at c
                      obtain ⟨z, hz⟩ : ∃ z, rn + q = z := ⟨_, rfl⟩
                      rw [hz] at c
                      have hzl : z < nn := by have h := place_in q q p p hlq hlq; rw [unhide HE, hrn, hz] at h; exact h
                      have b6 : nn ≤ 36 := (unhide HN).2.2.2.1
                      have wa : IntKind.i64.wrap ((q : Int) * (p : Int)) = (rn : Int) := wrapPi q p rn hrn (by omega)
                      have wb : IntKind.i64.wrap ((rn : Int) + (q : Int)) = (z : Int) := wrapAi rn q z hz (by omega)
                      have wa2 : wrap64 ((q : Int) * (p : Int)) = (rn : Int) := wrapP q p rn hrn (by omega)
                      have wb2 : wrap64 ((rn : Int) + (q : Int)) = (z : Int) := wrapA rn q z hz (by omega)
                      have i0 : (0 : Int) ≤ (z : Int) := Int.natCast_nonneg _
                      have i1 : (z : Int) < (nn : Int) := Int.ofNat_lt.2 hzl
                      have NQ : Hid (q + 1 ≤ p) := hlq
                      clear hrn hz hzl b6 hq
                      go_wp2_with fail
                      clear wa wb wa2 wb2 i0 i1 c y0
                      go_wp2
                      go_round
                      case rel => exact ⟨q + 1, unhide NQ, by go_num⟩
                      case measure => have := unhide NQ; simp [intOf]; omega
                    · obtain rfl : q = p := by omega
                      clear hq hlq
                      go_wp2_with fail
                      clear y0
                      go_wp2
                      go_roundw
                      case rel => exact ⟨t + 1, X, G, unhide NT, by go_num, rfl, T4⟩
                      case measure => have := unhide NT; simp [intOf]; omega
            · obtain rfl : t = k := by omega
              clear hlt ht
              have HO : Hid (Kp w3 wr ∧ ∀ q, q < nn → wr.cell? ⟨L, q, none⟩ = some (.bool false)) := ⟨(unhide HI).1.1, fun q hq => by rw [Blk.cell (unhide HI).1.2.2, bools_at nn _ q hq, (unhide HI).2.none (by rw [unhide HE]; exact hq)]⟩
              clear HI
              have n36 : nn ≤ 36 := (unhide HN).2.2.2.1
              go_wp2_with fail
              clear y0
              go_loop [12] (fun i => ∃ q : Nat, q ≤ nn ∧ i = .int .i64 q) (fun i => nn - (intOf i).toNat)
              case atStart => exact ⟨0, Nat.zero_le _, rfl⟩
              case round =>
                obtain ⟨q, hq, rfl⟩ := hrel
                by_cases hlq : q < nn
                · have c := (unhide HO).2 q hlq
                  have i0 : (0 : Int) ≤ (q : Int) := Int.natCast_nonneg _
                  have i1 : (q : Int) < (nn : Int) := Int.ofNat_lt.2 hlq
                  go_wp2
                  go_round
                  case rel => exact ⟨q + 1, by omega, by go_num⟩
                  case measure => simp [intOf]; omega
                · obtain rfl : q = nn := by omega
                  clear hlq hq
                  have KE := hide ((unhide S3).1.trans (unhide HO).1)
                  go_wp2
                  go_ret
                  exact ⟨rfl, unhide KE⟩
    · rw [show chkD m = 2 from if_neg hok]
      go_wp2
      go_ret
      exact ⟨rfl, (unhide S3).1⟩
end Go.Proofs.Ytpanfppnkgokdaa

/- The statement ModelMoves holds for every input: the law returns true, and its arguments read afterwards as before. No condition. -/
namespace Go.Proofs.Ytpanfppnkgokdaa.modelMoves
open Go.ChangeShapes Go.WideShapes Go.ChangeAt Go.RowKit Go.Joins Go.Proofs.Wd
set_option linter.unusedVariables false
set_option linter.unusedSimpArgs false
set_option maxRecDepth 10000

theorem own : ownKnob Try.prog.godebug = none := by kernel_rfl

set_option maxRecDepth 100000 in
theorem lifted (os : Os) (started : os.Started) (H : Type) (enc : TypeId × Value → H) :
    ReturnsInHanded {} Try.checked os 5 .any (Rows.modelMovesSpec.pre6 enc Try.prog Try.f5 Rows.modelMovesRow.domain false) (Rows.modelMovesSpec.post enc Try.prog Try.f5 false true false false) := by
  refine returnsInHanded_of_change (C := Try.checked) own started (by kernel_rfl) Try.func5
    (ChangeSpec.witness6 (enc := enc) (C := Try.checked) false ⟨#[], #[.agg #[.int .i64 0, .slice none 0 0, .slice none 0 0, .int .i64 0, .int .i64 0, .int .i64 0, .slice none 0 0]], []⟩ 8 (by kernel_rfl) (by kernel_rfl) (by kernel_rfl) (by kernel_rfl)) ?_
  intro W base args ds gs before hval0 hW hcnd _
  have hval : ∀ (j : Nat) t v, Try.f5.params[j]? = some t → args[j]? = some v → Value.okWide Try.prog W .any base t v := hval0
  have hW' := hW
  obtain ⟨p, q, hA0, hV, rfl, hfz, hnd⟩ := hW
  have hA : DataW.TrodAll enc Try.prog W 0 (fun _ => true) true Try.f5.params.toList args.toList ds p := hA0
  rw [Try.params5] at hA hval
  obtain ⟨v0, vs0, d0, ds0, p0, q0, hargs, rfl, rfl, h0, r0⟩ := trodAll_cons hA
  obtain ⟨rfl, rfl, rfl⟩ := trodAll_nil r0
  obtain rfl : args = #[v0] := by cases args; simp_all
  obtain ⟨rfl, rfl⟩ := trodVars_none hV
  have hlt := hW'.lt
  have k0 := h0
  obtain ⟨fuel0, t0⟩ := h0
  obtain ⟨cs0, rfl, _⟩ := okWide_struct Try.underlying25 (hval 0 25 v0 rfl rfl)
  obtain ⟨x0, e0, ok0⟩ := open_model t0
  obtain rfl : cs0 = x0.cells := Array.ext' (by simpa [Value.cells] using e0)
  clear hA0 hval0
  refine (lawModelMoves x0 W ok0).mono fun e W' ⟨he, hg⟩ => ?_
  subst he
  exact ⟨_, rfl, post_of_kp (pa := p0 ++ ([])) (pv := []) hW' (fun _ => (trodAll_cons_mk (shut_bool Try.underlying4 _) trodAll_mk0)) (trodAll_cons_mk (WideElems.Trod_stays laid (by kernel_rfl) (of_decide_eq_true (by kernel_rfl)) k0 (fun x hx => hg.same (hlt x (by simp [hx]))) (fun x hx => by simpa using hlt x (by simp [hx]))) trodAll_mk0) rfl hg⟩

end Go.Proofs.Ytpanfppnkgokdaa.modelMoves
namespace Go.Proofs.Ytpanfppnkgokdaa
theorem modelMoves_holds : Rows.ModelMovesSaid :=
  OpenClaim.holds_of_wide 5 Try.f5 rfl rfl rfl rfl rfl rfl rfl ⟨rfl, rfl, rfl, rfl, rfl⟩ rfl rfl rfl rfl rfl (by kernel_rfl) Try.func5 (by kernel_rfl)
    (of_decide_eq_true (by kernel_rfl)) (by unfold Func.isWrapper; first | (rw [if_pos (by decide +kernel)]; kernel_rfl) | (rw [if_neg (by decide +kernel)]; exact ⟨rfl, rfl⟩))
    (fun os started H enc _ => modelMoves.lifted os started H enc)
#print axioms modelMoves_holds
end Go.Proofs.Ytpanfppnkgokdaa
