/- MdlX MdlZ ModelRowsLaw, one after another. -/
import Derived.Test.YtpanfppnkgokdaaMdlProg
import Derived.Test.YtpanfppnkgokdaaMdlDoc
import Derived.BigQuiet
import Derived.Test.YtpanfppnkgokdaaRows
import Derived.ProofKit
import Derived.OpenShut
import Derived.Lib.SmallJoins
/- A law over a model and a belief that are handed in: what is known, and copies. -/
namespace Go.Proofs.Ytpanfppnkgokdaa
open Go.RowKit Go.Shelf Go.Proofs.Wd
set_option linter.unusedVariables false
set_option linter.unusedSimpArgs false
set_option maxRecDepth 10000

theorem LV.okIn.good {x : LV} {W : World} (h : x.okIn W) : x.good W := ⟨h.row, ⟨h.le, h.nil⟩, h.nums⟩
theorem DV.okIn.good {m : DV} {W : World} (h : m.okIn W) (s : smallM m) : m.good W :=
  ⟨h.A.good, h.Q.good, h.rvs, fun i hi => ⟨(h.each i hi).h.good, (h.each i hi).s, (h.each i hi).r⟩, ⟨h.le, h.nil⟩, ⟨h.N, h.tick, h.gate, h.rmin⟩, s.1, s.2.1, s.2.2.1, s.2.2.2⟩
theorem BV.okIn.good {b : BV} {W : World} (h : b.okIn W) (s : smallB b) : b.good W := ⟨h.x.good, h.p.good, ⟨h.at', h.pass, h.fail⟩, by have := s.1; omega, s.2⟩
/-- Which blocks a model's lists lie in. -/
theorem lv_dep {x : LV} {w w' : World} (h : x.good w') (off : ∀ U, U < w.heap.size → Off U x.len x.ao) : ∃ Bs : List Nat, (∀ k ∈ Bs, w.heap.size ≤ k ∧ k < w'.heap.size) ∧ Dep Bs x.good := by
  obtain ⟨Bs, h1, h2⟩ := row_dep h.1 off
  exact ⟨Bs, h1, fun w1 w2 he hg => ⟨h2 w1 w2 he hg.1, hg.2⟩⟩
theorem rvs_dep {ro : Option Addr} {n : Nat} {X : Nat → RV} {w w' : World} (h : RVs w' ro n X) (off : ∀ U, U < w.heap.size → Off U n ro) : ∃ Bs : List Nat, (∀ k ∈ Bs, w.heap.size ≤ k ∧ k < w'.heap.size) ∧ Dep Bs (fun wx => RVs wx ro n X) := by
  by_cases hn : n = 0
  · exact ⟨[], fun _ h => absurd h List.not_mem_nil, fun _ _ _ _ => Or.inl hn⟩
  · rcases h with h0 | ⟨b, o, rfl, hc⟩
    · exact absurd h0 hn
    · have lt : b < w'.heap.size := by
        have := hc 0 (by omega) 0 (by omega)
        exact heap_gt (v := .int .i64 (X 0).s) this
      refine ⟨[b], fun k hk => ?_, fun w1 w2 he h => ?_⟩
      · rcases List.mem_singleton.1 hk with rfl
        exact ⟨Nat.le_of_not_lt fun hlt => off k hlt (by omega) _ rfl rfl, lt⟩
      · rcases h with h0 | ⟨b', o', e, hc'⟩
        · exact absurd h0 hn
        · cases e
          exact Or.inr ⟨b, o, rfl, fun i hi j hj => (World.cell?_of_block (he b (by simp))).trans (hc' i hi j hj)⟩
theorem each_dep {X : Nat → RV} {w w' : World} : ∀ n : Nat, (∀ i, i < n → (X i).h.good w' ∧ I64 (X i).s ∧ I64 (X i).r) → (∀ U, U < w.heap.size → ∀ i, i < n → Off U (X i).h.len (X i).h.ao) → ∃ Bs : List Nat, (∀ k ∈ Bs, w.heap.size ≤ k ∧ k < w'.heap.size) ∧ Dep Bs (fun wx => ∀ i, i < n → (X i).h.good wx ∧ I64 (X i).s ∧ I64 (X i).r)
  | 0, _, _ => ⟨[], fun _ h => absurd h List.not_mem_nil, fun _ _ _ _ i hi => absurd hi (Nat.not_lt_zero _)⟩
  | n + 1, h, off => by
    obtain ⟨A, a1, a2⟩ := each_dep n (fun i hi => h i (by omega)) (fun U hU i hi => off U hU i (by omega))
    obtain ⟨C, c1, c2⟩ := lv_dep (w := w) (h n (by omega)).1 (fun U hU => off U hU n (by omega))
    refine ⟨A ++ C, fun k hk => (List.mem_append.1 hk).elim (a1 k) (c1 k), fun w1 w2 he hg i hi => ?_⟩
    rcases Nat.lt_or_ge i n with h1 | h1
    · exact a2 w1 w2 (fun k hk => he k (List.mem_append_left _ hk)) (fun i hi => hg i (by omega)) i h1
    · obtain rfl : i = n := by omega
      exact ⟨c2 w1 w2 (fun k hk => he k (List.mem_append_right _ hk)) (hg i hi).1, (hg i hi).2⟩
theorem good_dep {m : DV} {w w' : World} (h : m.good w') (off : ∀ U, U < w.heap.size → Off U m.A.len m.A.ao ∧ Off U m.Q.len m.Q.ao ∧ Off U m.rl m.ro ∧ ∀ i, i < m.rl → Off U (m.X i).h.len (m.X i).h.ao) : ∃ Bs : List Nat, (∀ k ∈ Bs, w.heap.size ≤ k ∧ k < w'.heap.size) ∧ Dep Bs m.good := by
  obtain ⟨A, a1, a2⟩ := lv_dep (w := w) h.1 (fun U hU => (off U hU).1)
  obtain ⟨B, b1, b2⟩ := lv_dep (w := w) h.2.1 (fun U hU => (off U hU).2.1)
  obtain ⟨C, c1, c2⟩ := rvs_dep (w := w) h.2.2.1 (fun U hU => (off U hU).2.2.1)
  obtain ⟨D, d1, d2⟩ := each_dep (w := w) m.rl h.2.2.2.1 (fun U hU => (off U hU).2.2.2)
  refine ⟨A ++ (B ++ (C ++ D)), fun k hk => (List.mem_append.1 hk).elim (a1 k) (fun hk => (List.mem_append.1 hk).elim (b1 k) (fun hk => (List.mem_append.1 hk).elim (c1 k) (d1 k))), fun w1 w2 he hg => ⟨a2 w1 w2 (fun k hk => he k (by simp [hk])) hg.1, b2 w1 w2 (fun k hk => he k (by simp [hk])) hg.2.1, c2 w1 w2 (fun k hk => he k (by simp [hk])) hg.2.2.1, d2 w1 w2 (fun k hk => he k (by simp [hk])) hg.2.2.2.1, hg.2.2.2.2⟩⟩
/-- A copy of a model. -/
def GD (m : DV) (v : Value) (w : World) : Prop := ∃ m' : DV, v = .agg m'.cells ∧ m'.good w ∧ simD m m'
theorem gd_dep {m : DV} {w w' : World} {e : Ending} (h : CopyDP m w e w') : ∃ v Bs F, e = .returned v ∧ Kp w w' ∧ (∀ k ∈ Bs, w.heap.size ≤ k ∧ k < w'.heap.size) ∧ Dep Bs F ∧ F w' ∧ ∀ wx, F wx → GD m v wx := by
  obtain ⟨m', rfl, h1, h2, h3, h4⟩ := h
  obtain ⟨Bs, b1, b2⟩ := good_dep h1 h3
  exact ⟨_, Bs, m'.good, rfl, h4, b1, b2, h1, fun wx hg => ⟨m', rfl, hg, h2⟩⟩
end Go.Proofs.Ytpanfppnkgokdaa

/- ModelRows. -/
namespace Go.Proofs.Ytpanfppnkgokdaa
open Go.RowKit Go.Shelf Go.Proofs Go.Proofs.Wd
set_option linter.unusedVariables false
set_option linter.unusedSimpArgs false
set_option maxRecDepth 10000

/-- The rows of the first k sensors, one behind the other. -/
def allRows (X : Nat → RV) (n : Nat) : Nat → List RV
  | 0 => []
  | k + 1 => allRows X n k ++ seenR X ((k + 1 : Nat) : Int) n
theorem seenR_yes {X : Nat → RV} {s : Int} {n : Nat} (h : (X n).s = s) : seenR X s (n + 1) = seenR X s n ++ [X n] := by rw [seenR, if_pos h]
theorem seenR_no {X : Nat → RV} {s : Int} {n : Nat} (h : (X n).s ≠ s) : seenR X s (n + 1) = seenR X s n := by rw [seenR, if_neg h]
theorem seenR_nil {X : Nat → RV} {s : Int} : ∀ {n : Nat}, (∀ i, i < n → (X i).s ≠ s) → seenR X s n = []
  | 0, _ => rfl
  | n + 1, h => by rw [seenR_no (h n (by omega)), seenR_nil (fun i hi => h i (by omega))]
theorem allRows_low {X : Nat → RV} {n : Nat} : ∀ {k : Nat}, (k : Int) < (X n).s → allRows X (n + 1) k = allRows X n k
  | 0, _ => rfl
  | k + 1, h => by
    show allRows X (n + 1) k ++ _ = allRows X n k ++ _
    rw [allRows_low (by omega), seenR_no (by omega)]
theorem allRows_high {X : Nat → RV} {n : Nat} (hs : ∀ i, i < n → (X i).s ≤ (X n).s) (h1 : 1 ≤ (X n).s) : ∀ {k : Nat}, (X n).s ≤ (k : Int) → allRows X (n + 1) k = allRows X n k ++ [X n]
  | 0, h => by omega
  | k + 1, h => by
    show allRows X (n + 1) k ++ _ = (allRows X n k ++ _) ++ _
    by_cases e : (X n).s = ((k + 1 : Nat) : Int)
    · rw [allRows_low (by omega), seenR_yes e, List.append_assoc]
    · rw [allRows_high hs h1 (by omega), seenR_no e, seenR_nil (fun i hi he => by have := hs i hi; omega)]
      simp
theorem sorted_of {N rmin : Int} {X : Nat → RV} {n : Nat} (h : ∀ i, i < n → okRow N rmin (lastS X i) (X i)) : ∀ j, j < n → ∀ i, i < j → (X i).s ≤ (X j).s
  | 0, _, i, hi => absurd hi (Nat.not_lt_zero _)
  | j + 1, hj, i, hi => by
    have h1 : (X j).s ≤ (X (j + 1)).s := (h (j + 1) hj).1.2.2
    rcases Nat.lt_or_ge i j with h2 | h2
    · exact Int.le_trans (sorted_of h j (by omega) i h2) h1
    · obtain rfl : i = j := by omega
      exact h1
theorem allRows_all {N rmin : Int} {X : Nat → RV} : ∀ {n : Nat}, (∀ i, i < n → okRow N rmin (lastS X i) (X i)) → allRows X n 16 = (List.range n).map X
  | 0, _ => by
    have : ∀ k, allRows X 0 k = [] := fun k => by
      induction k with
      | zero => rfl
      | succ k ih => show allRows X 0 k ++ _ = []; rw [ih]; rfl
    exact this 16
  | n + 1, h => by
    rw [allRows_high (sorted_of h n (by omega)) (h n (by omega)).1.1 (show (X n).s ≤ ((16 : Nat) : Int) from (h n (by omega)).1.2.1), allRows_all (fun i hi => h i (by omega)), List.range_succ, List.map_append]
    rfl
def RwA (y x : RV) (W : World) : Prop := ∃ a p, x = cpRV y a p ∧ (y.h.len = 0 ∨ ∃ B, a = some ⟨B, 0, none⟩ ∧ Own B y.h.len y.h.Z W)
/-- Rows that are gathered. -/
def AlI (base : Nat) (pre : List RV) (v : Value) (AL : List RV) (W : World) : Prop := RLs W base v AL ∧ AL.length = pre.length ∧ ∀ (i : Nat) (x y : RV), AL[i]? = some x → pre[i]? = some y → RwA y x W
theorem AlI.kp {base : Nat} {pre AL : List RV} {v : Value} {W W' : World} (h : AlI base pre v AL W) (k : Kp W W') : AlI base pre v AL W' :=
  ⟨h.1.kp k, h.2.1, fun i x y hx hy => let ⟨a, p, e, o⟩ := h.2.2 i x y hx hy; ⟨a, p, e, o.imp id fun ⟨B, e1, e2⟩ => ⟨B, e1, e2.kp k⟩⟩⟩
theorem rls_neZ {W : World} {base B n : Nat} {v : Value} {l : List RV} {Z : Nat → Int} (h : RLs W base v l) (o : Own B n Z W) : some B ≠ v.ownBlock := fun e => by
  obtain ⟨cur, hb, _⟩ := o
  rcases h.2 with ⟨e2, _⟩ | ⟨g', c, cur', e2, _, hg, _⟩
  · rw [e2] at e; cases e
  · rw [e2] at e
    cases e
    exact blk_ne' hb hg rfl
theorem flatR_app (a b : List RV) : flatR (a ++ b) = flatR a ++ flatR b := by
  unfold flatR
  rw [List.flatMap_append]
theorem AlI.app {base b2 : Nat} {pre AL Y l : List RV} {v v2 v' : Value} {W W' : World} (h : AlI base pre v AL W) (hL : RCp b2 v2 Y l W) (hO : OwnRs b2 l W) (hown : W'.ownsRow base 41 3 v' (AL.length + l.length) (flatR AL ++ flatR l)) (hg : W.grownBy W' v.ownBlock) : AlI base (pre ++ Y) v' (AL ++ l) W' := by
  refine ⟨?_, by rw [List.length_append, List.length_append, h.2.1, hL.2.1], fun i x y hx hy => ?_⟩
  · show W'.ownsRow base 41 3 v' (AL ++ l).length (flatR (AL ++ l))
    rw [List.length_append, flatR_app]
    exact hown
  · rw [List.getElem?_append] at hx hy
    split at hx
    · rename_i hi
      rw [if_pos (by rw [← h.2.1]; exact hi)] at hy
      obtain ⟨a, p, e, o⟩ := h.2.2 i x y hx hy
      exact ⟨a, p, e, o.imp id fun ⟨B, e1, e2⟩ => ⟨B, e1, e2.by hg (rls_neZ h.1 e2)⟩⟩
    · rename_i hi
      rw [if_neg (by rw [← h.2.1]; exact hi), ← h.2.1] at hy
      obtain ⟨a, p, rfl, _⟩ := hL.2.2 _ x y hx hy
      refine ⟨a, p, rfl, ?_⟩
      rcases hO _ _ hx with e | ⟨B, e1, _, e2, _⟩
      · exact Or.inl e
      · exact Or.inr ⟨B, e1, e2.by hg (rls_neZ h.1 e2)⟩
/-- The law's state. -/
def RwS (w : World) (m : DV) (Mx : Nat) (W : World) : Prop := Kp w W ∧ Blk Mx m.cells 25 W ∧ m.good W
theorem RwS.kp {w : World} {m : DV} {Mx : Nat} {W W' : World} (h : RwS w m Mx W) (k : Kp W W') : RwS w m Mx W' := ⟨h.1.trans k, Blk.kp h.2.1 k, h.2.2.kp k⟩
theorem RwS.by {w : World} {m : DV} {Mx : Nat} {W W' : World} {row : Option Nat} (h : RwS w m Mx W) (hg : W.grownBy W' row) (W5 : World) (h5 : RwS w m Mx W5) (k5 : Kp W5 W) (hr : ∀ k, row = some k → W5.heap.size ≤ k) : RwS w m Mx W' := h5.kp (k5.by hg hr)
theorem allRows_len {X : Nat → RV} {n : Nat} : ∀ k, (allRows X n k).length ≤ k * n
  | 0 => by show 0 ≤ _; omega
  | k + 1 => by
    have h1 := allRows_len (X := X) (n := n) k
    have h2 := seenR_len X ((k + 1 : Nat) : Int) n
    show (allRows X n k ++ _).length ≤ _
    rw [List.length_append, Nat.add_mul, Nat.one_mul]
    omega

set_option maxRecDepth 50000 in
set_option maxHeartbeats 16000000 in
theorem lawModelRows (m : DV) (w : World) (hm : m.okIn w) :
    Calls Try.prog 6 #[.agg m.cells] w fun e w' => e = .returned (.bool true) ∧ Kp w w' := by
  unfold DV.cells
  have S0 : Hid (Kp w (w.alloc (.cells #[.int .i64 m.N, .slice m.A.ao m.A.len m.A.cap, .slice m.Q.ao m.Q.len m.Q.cap, .int .i64 m.tick, .int .i64 m.gate, .int .i64 m.rmin, .slice m.ro m.rl m.rc] 25)) ∧ Blk w.heap.size m.cells 25 (w.alloc (.cells #[.int .i64 m.N, .slice m.A.ao m.A.len m.A.cap, .slice m.Q.ao m.Q.len m.Q.cap, .int .i64 m.tick, .int .i64 m.gate, .int .i64 m.rmin, .slice m.ro m.rl m.rc] 25))) := ⟨(Kp.refl _).alloc _ _, Blk.new w _ _⟩
  have HM := hide hm
  clear hm
  go_enter Try.func6, Try.ntmps6
  go_wp2_with fail
  generalize (w.alloc (.cells #[.int .i64 m.N, .slice m.A.ao m.A.len m.A.cap, .slice m.Q.ao m.Q.len m.Q.cap, .int .i64 m.tick, .int .i64 m.gate, .int .i64 m.rmin, .slice m.ro m.rl m.rc] 25)) = w0 at *
  refine (lawAwakeMdl _).mono ?_
  rintro e w1 ⟨rfl, k1⟩
  have S1 : Hid (Kp w w1 ∧ Blk w.heap.size m.cells 25 w1) := ⟨(unhide S0).1.trans k1, Blk.kp (unhide S0).2 k1⟩
  clear k1 S0
  obtain ⟨y0, y1, y2, y3, y4, y5, y6⟩ := ((unhide S1).2).cellsD
  go_wp2_with fail
  refine (kitLongM m w1 ((unhide HM).rvs.kp (unhide S1).1)).mono ?_
  rintro e w2 ⟨r, rfl, g1, hs⟩
  have HS := hide hs
  have S2 : Hid (Kp w w2 ∧ Blk w.heap.size m.cells 25 w2) := ⟨(unhide S1).1.grown g1, Blk.grown (unhide S1).2 g1⟩
  clear g1 hs S1 y0 y1 y2 y3 y4 y5 y6
  cases r with
  | true =>
    go_wp2
    go_ret
    exact ⟨rfl, (unhide S2).1⟩
  | false =>
    have GG : Hid (∀ wx, Kp w wx → m.good wx) := fun wx k => ((unhide HM).good (by first | exact unhide HS rfl | exact unhide HS trivial)).kp k
    clear HM HS
    obtain ⟨y0, y1, y2, y3, y4, y5, y6⟩ := ((unhide S2).2).cellsD
    go_wp2_with fail
    refine (pCheck m w2 (unhide GG _ (unhide S2).1)).mono ?_
    rintro e w3 ⟨rfl, k3⟩
    have S3 : Hid (RwS w m w.heap.size w3) := ⟨(unhide S2).1.trans k3, Blk.kp (unhide S2).2 k3, unhide GG _ ((unhide S2).1.trans k3)⟩
    clear k3 S2 y0 y1 y2 y3 y4 y5 y6 GG
    generalize w.heap.size = Mx at *
    by_cases hok : okD m
    · have HO := hide hok
      rw [show chkD m = 0 from if_pos hok]
      clear hok
      obtain ⟨i0, hi, hz0, hz1, hz2⟩ := info_parts Try.infoRow
      go_wp2_with fail
      go_loopw [5, 4, 6] (fun i a _ wr => ∃ (k : Nat) (sv : Int) (AL : List RV), k ≤ 16 ∧ i = .int .i64 sv ∧ Hid (sv = (k : Int) + 1 ∧ AlI w3.heap.size (allRows m.X m.rl k) a AL wr ∧ Kp w3 wr)) (fun i _ _ _ => 20 - (intOf i).toNat)
      case atStart => exact ⟨0, 1, [], Nat.zero_le _, rfl, rfl, ⟨⟨rfl, Or.inl ⟨rfl, rfl⟩⟩, rfl, fun i x y hx => by cases hx⟩, Kp.refl _⟩
      case round =>
        obtain ⟨k, sv, AL, hk, rfl, HI⟩ := hrel
        have SR := hide ((unhide S3).kp (unhide HI).2.2)
        by_cases hlt : k < 16
        · have ds : decide (sv ≤ 16) = true := decide_eq_true (by have := (unhide HI).1; omega)
          have is : Hid (I64 sv) := by have := (unhide HI).1; show I64 sv; unfold I64; omega
          have cw : wrap64 (sv + 1) = sv + 1 := by have := (unhide HI).1; unfold wrap64; omega
          have HK : Hid (k < 16 ∧ sv = (k : Int) + 1) := ⟨hlt, (unhide HI).1⟩
          obtain ⟨y0, y1, y2, y3, y4, y5, y6⟩ := ((unhide SR).2.1).cellsD
          clear hlt hk
          go_wp2_with fail
          refine (pRows m sv wr (unhide is) (unhide SR).2.2).mono ?_
          rintro e w4 ⟨v, l, rfl, hL, hO, k4⟩
          obtain ⟨lo, lc, rfl, hM, hlc, _⟩ := hL.1.rvs
          have S4 := hide ((unhide SR).kp k4)
          have L4 : Hid (RCp wr.heap.size (.slice lo l.length lc) (seenR m.X sv m.rl) l w4 ∧ OwnRs wr.heap.size l w4 ∧ AlI w3.heap.size (allRows m.X m.rl k) u4 AL w4 ∧ Kp w3 w4) := ⟨hL, hO, (unhide HI).2.1.kp k4, (unhide HI).2.2.trans k4⟩
          clear hL hO k4 hM hlc HI SR y0 y1 y2 y3 y4 y5 y6
          obtain ⟨y0, y1, y2, y3, y4, y5, y6⟩ := ((unhide S4).2.1).cellsD
          have PD := pDim m sv w4 (unhide is) (unhide S4).2.2
          rw [← (unhide L4).1.2.1] at PD
          have dl : ((l.length : Int) != (l.length : Int)) = false := by simp
          go_wp2_with fail
          refine PD.mono ?_
          rintro e w5 ⟨rfl, k5⟩
          have S5 := hide ((unhide S4).kp k5)
          have L5 : Hid (RCp wr.heap.size (.slice lo l.length lc) (seenR m.X sv m.rl) l w5 ∧ OwnRs wr.heap.size l w5 ∧ AlI w3.heap.size (allRows m.X m.rl k) u4 AL w5 ∧ Kp w3 w5) := by
            obtain ⟨a1, a2, a3, a4⟩ := unhide L4
            exact ⟨a1.kp k5, fun i x hx => (a2 i x hx).imp id fun ⟨B, e1, e2, e3, e4⟩ => ⟨B, e1, e2, e3.kp k5, e4⟩, a3.kp k5, a4.trans k5⟩
          clear PD k5 S4 L4 y0 y1 y2 y3 y4 y5 y6
          have lb : Hid (AL.length ≤ 480 ∧ l.length ≤ 30) := by
            have h1 := allRows_len (X := m.X) (n := m.rl) k
            have h2 := (unhide L5).2.2.1.2.1
            have h3 := (unhide L5).1.2.1
            have h4 := seenR_len m.X sv m.rl
            have h5 : m.rl ≤ 30 := (unhide S5).2.2.2.2.2.2.2.2.2.2.1
            have h6 : k * m.rl ≤ 16 * 30 := Nat.mul_le_mul (Nat.le_of_lt (unhide HK).1) h5
            exact ⟨by omega, by omega⟩
          have OM : Hid (w5.ownsRow w3.heap.size 41 3 u4 AL.length (flatR AL)) := (unhide L5).2.2.1.1
          have KD : Hid ((∀ k, u4.ownBlock = some k → w3.heap.size ≤ k) ∧ w3.heap.size ≤ w5.heap.size) := ⟨fun q e => ((unhide OM).lt q e).1, (unhide L5).2.2.2.2.2.2⟩
          cases lo with
          | none =>
            have l0 : l = [] ∧ lc = 0 := by
              rcases (unhide L5).1.1.2 with ⟨e, e0⟩ | ⟨g, c, cur, e, _⟩
              · injection e with _ _ e3
                exact ⟨List.eq_nil_of_length_eq_zero e0, e3⟩
              · injection e with e1; cases e1
            obtain ⟨rfl, rfl⟩ := l0
            have N6 : Hid (AlI w3.heap.size (allRows m.X m.rl (k + 1)) u4 (AL ++ []) w5 ∧ Kp w3 w5) := by
              have e0 : seenR m.X sv m.rl = [] := List.eq_nil_of_length_eq_zero ((unhide L5).1.2.1).symm
              refine ⟨?_, (unhide L5).2.2.2⟩
              have e1 : allRows m.X m.rl (k + 1) = allRows m.X m.rl k := by
                show allRows m.X m.rl k ++ seenR m.X ((k + 1 : Nat) : Int) m.rl = _
                rw [show ((k + 1 : Nat) : Int) = sv from (unhide HK).2.symm, e0, List.append_nil]
              rw [e1, List.append_nil]
              exact (unhide L5).2.2.1
            have NT := hide (unhide HK)
            clear L5 S5 dl
            go_wp2_with (at_builtin; refine wpList_append_own_none rfl _ _ 23 rfl w3.heap.size 41 i0 3 Try.underlying23 hi _ _ _ rfl (unhide OM) rfl ?_)
            go_roundw
            case rel => exact ⟨k + 1, sv + 1, AL ++ [], (unhide NT).1, by (first | rfl | go_num), by show sv + 1 = ((k + 1 : Nat) : Int) + 1; rw [(unhide NT).2]; rfl, (unhide N6).1, (unhide N6).2⟩
            case measure => have h1 := (unhide NT).1; have h2 := (unhide NT).2; simp [intOf]; omega
          | some ad =>
            have NEW : Hid ((∀ j u, (flatR l)[j]? = some u → w5.cell? (ad.add j) = some u) ∧ (flatR l).length = l.length * 3) := by
              rcases (unhide L5).1.1.2 with ⟨e, _⟩ | ⟨g, c, cur, e, _, hb, _, _, _, ht⟩
              · injection e with e1; cases e1
              · injection e with e1 e2 e3
                cases e1
                refine ⟨fun j u hj => ?_, flatR_len l⟩
                rw [← ht, List.getElem?_take] at hj
                split at hj
                · rw [Go.WideShapes.add_plain, Nat.zero_add, Blk.cell hb]
                  simpa using hj
                · cases hj
            have ONE : Hid (∀ u ∈ flatR l, u.oneCell' = true) := fun u hu => by
              obtain ⟨x, _, hx⟩ := List.mem_flatMap.1 hu
              exact cells_oneRV x u hx
            have NT := hide (unhide HK)
            clear dl
            go_wp2_with (at_builtin; refine wpList_append_own _ rfl _ _ 23 rfl w3.heap.size 41 i0 (.agg #[.int .i64 0, .slice none 0 0, .int .i64 0]) 3 40 Try.underlying23 hi hz0 hz1 hz2 rfl (by decide) _ _ _ rfl (unhide OM) ad l.length lc (flatR l) rfl (unhide NEW).2 (unhide NEW).1 (unhide ONE) (by have := unhide lb; unfold maxLen; omega) (by have := unhide lb; omega) (unhide KD).2 ?_; intro v6 w6 hown6 hgrow6 _; have N6 : Hid (AlI w3.heap.size (allRows m.X m.rl (k + 1)) v6 (AL ++ l) w6 ∧ Kp w3 w6) := ⟨(by have e := (unhide L5).2.2.1.app (unhide L5).1 (unhide L5).2.1 hown6 hgrow6; rw [show sv = ((k + 1 : Nat) : Int) from (unhide HK).2] at e; exact e), (unhide L5).2.2.2.by hgrow6 (unhide KD).1⟩; clear hown6 hgrow6)
            go_roundw
            case rel => exact ⟨k + 1, sv + 1, AL ++ l, (unhide NT).1, by (first | rfl | go_num), by show sv + 1 = ((k + 1 : Nat) : Int) + 1; rw [(unhide NT).2]; rfl, (unhide N6).1, (unhide N6).2⟩
            case measure => have h1 := (unhide NT).1; have h2 := (unhide NT).2; simp [intOf]; omega
        · obtain rfl : k = 16 := by omega
          have ds : decide (sv ≤ 16) = false := decide_eq_false (by have := (unhide HI).1; omega)
          have E : Hid (AlI w3.heap.size ((List.range m.rl).map m.X) u4 AL wr) := by
            have := (unhide HI).2.1
            rw [allRows_all (unhide HO).2.2.2.2.2.2] at this
            exact this
          clear hlt hk HI
          obtain ⟨lo, lc, rfl, hM, hlc, _⟩ := (unhide E).1.rvs
          have hn : AL.length = m.rl := by have := (unhide E).2.1; simpa using this
          rw [hn] at hM ⊢
          have AT : Hid (RVs wr lo m.rl (ixR AL) ∧ ∀ i, i < m.rl → ∃ a p, ixR AL i = cpRV (m.X i) a p ∧ Row wr a (m.X i).h.len (m.X i).h.Z) := by
            refine ⟨hM, fun i hi => ?_⟩
            obtain ⟨x, hx⟩ : ∃ x, AL[i]? = some x := ⟨_, List.getElem?_eq_getElem (by omega)⟩
            obtain ⟨a, p, e, o⟩ := (unhide E).2.2 i x (m.X i) hx (by rw [List.getElem?_map, List.getElem?_range hi]; rfl)
            refine ⟨a, p, by rw [ixR_at hx, e], ?_⟩
            rcases o with o | ⟨B, rfl, o⟩
            · exact Or.inl o
            · exact o.row
          have rb : Hid (m.rl ≤ 24) := (unhide HO).2.2.2.2.2.1
          clear E hM hlc hn S3
          go_wp2_with fail
          go_loopw [7] (fun i wq => ∃ k : Nat, k ≤ m.rl ∧ i = .int .i64 k ∧ Hid (RwS w m Mx wq ∧ RVs wq lo m.rl (ixR AL) ∧ ∀ i, i < m.rl → ∃ a p, ixR AL i = cpRV (m.X i) a p ∧ Row wq a (m.X i).h.len (m.X i).h.Z)) (fun i _ => m.rl - (intOf i).toNat)
          case atStart => exact ⟨0, Nat.zero_le _, rfl, unhide SR, unhide AT⟩
          case round =>
            obtain ⟨q, hq, rfl, HQ⟩ := hrel
            clear SR AT
            have q24 : m.rl ≤ 24 := unhide rb
            by_cases hlq : q < m.rl
            · obtain ⟨bb, oo, rfl, c0, c1, c2⟩ := (unhide HQ).2.1.at hlq
              obtain ⟨a, pp, e1, _⟩ := (unhide HQ).2.2 q hlq
              rw [e1] at c0 c1 c2
              dsimp only [cpRV] at c0 c1 c2
              have j0 : (0 : Int) ≤ (q : Int) := Int.natCast_nonneg _
              have j1 : (q : Int) < (m.rl : Int) := Int.ofNat_lt.2 hlq
              have okr := (unhide HO).2.2.2.2.2.2 q hlq
              have y0 : wr.cell? ⟨Mx, 0, none⟩ = some (.int .i64 m.N) := (unhide HQ).1.2.1.cellsD.1
              have y5 : wr.cell? ⟨Mx, 5, none⟩ = some (.int .i64 m.rmin) := (unhide HQ).1.2.1.cellsD.2.2.2.2.2.1
              have d1 : (((m.X q).h.len : Int) != m.N) = false := by rw [okr.2.1]; simp
              have d2 : decide ((m.X q).r < m.rmin) = false := decide_eq_false (Int.not_lt.2 okr.2.2.1)
              have d3 : decide ((m.X q).r < 1) = false := decide_eq_false (Int.not_lt.2 (Int.le_trans (unhide HO).2.2.2.2.1 okr.2.2.1))
              have NX : Hid (q + 1 ≤ m.rl) := hlq
              have Z0 : Hid (∀ t, RwS w m Mx (wr.drewN t) ∧ RVs (wr.drewN t) (some ⟨bb, oo, none⟩) m.rl (ixR AL) ∧ ∀ i, i < m.rl → ∃ a p, ixR AL i = cpRV (m.X i) a p ∧ Row (wr.drewN t) a (m.X i).h.len (m.X i).h.Z) := fun t => unhide HQ
              clear okr e1 hlq HQ
              go_wp2_with fail
              go_quiet (fail)
              go_wp2
              go_roundw
              case rel => exact ⟨q + 1, unhide NX, by go_num, unhide Z0 _⟩
              case measure => have h1 := unhide NX; simp [intOf]; omega
            · obtain rfl : q = m.rl := by omega
              clear hlq hq
              have y6 : wr.cell? ⟨Mx, 6, none⟩ = some (.slice m.ro m.rl m.rc) := (unhide HQ).1.2.1.cellsD.2.2.2.2.2.2
              have SM := hide (kitSameR lo m.ro m.rl lc m.rc (by omega) (ixR AL) m.X wr ⟨(unhide HQ).2.1, (unhide HQ).1.2.2.2.2.1, fun i hi => by
                obtain ⟨a, pp, e1, e2⟩ := (unhide HQ).2.2 i hi
                have g := (unhide HQ).1.2.2
                rw [e1]
                exact ⟨⟨rfl, rfl, rfl, fun _ _ => rfl⟩, (by have := g.2.2.2.2.2.2.2.2.2 i hi; show (m.X i).h.len ≤ 1000000; omega), e2, (g.2.2.2.1 i hi).1.1⟩⟩)
              go_wp2_with fail
              refine (unhide SM).mono ?_
              rintro e w8 ⟨rfl, k8⟩
              have KE := hide ((unhide HQ).1.1.trans k8)
              clear SM k8 HQ y6
              go_wp2
              go_ret
              exact ⟨rfl, unhide KE⟩
    · rw [show chkD m = 2 from if_neg hok]
      go_wp2
      go_ret
      exact ⟨rfl, (unhide S3).1⟩
end Go.Proofs.Ytpanfppnkgokdaa

/- The statement ModelRows holds for every input: the law returns true, and its arguments read afterwards as before. No condition. -/
namespace Go.Proofs.Ytpanfppnkgokdaa.modelRows
open Go.ChangeShapes Go.WideShapes Go.ChangeAt Go.RowKit Go.Joins Go.Proofs.Wd
set_option linter.unusedVariables false
set_option linter.unusedSimpArgs false
set_option maxRecDepth 10000

theorem own : ownKnob Try.prog.godebug = none := by kernel_rfl

set_option maxRecDepth 100000 in
theorem lifted (os : Os) (started : os.Started) (H : Type) (enc : TypeId × Value → H) :
    ReturnsInHanded {} Try.checked os 6 .any (Rows.modelRowsSpec.pre6 enc Try.prog Try.f6 Rows.modelRowsRow.domain false) (Rows.modelRowsSpec.post enc Try.prog Try.f6 false true false false) := by
  refine returnsInHanded_of_change (C := Try.checked) own started (by kernel_rfl) Try.func6
    (ChangeSpec.witness6 (enc := enc) (C := Try.checked) false ⟨#[], #[.agg #[.int .i64 0, .slice none 0 0, .slice none 0 0, .int .i64 0, .int .i64 0, .int .i64 0, .slice none 0 0]], []⟩ 8 (by kernel_rfl) (by kernel_rfl) (by kernel_rfl) (by kernel_rfl)) ?_
  intro W base args ds gs before hval0 hW hcnd _
  have hval : ∀ (j : Nat) t v, Try.f6.params[j]? = some t → args[j]? = some v → Value.okWide Try.prog W .any base t v := hval0
  have hW' := hW
  obtain ⟨p, q, hA0, hV, rfl, hfz, hnd⟩ := hW
  have hA : DataW.TrodAll enc Try.prog W 0 (fun _ => true) true Try.f6.params.toList args.toList ds p := hA0
  rw [Try.params6] at hA hval
  obtain ⟨v0, vs0, d0, ds0, p0, q0, hargs, rfl, rfl, h0, r0⟩ := trodAll_cons hA
  obtain ⟨rfl, rfl, rfl⟩ := trodAll_nil r0
  obtain rfl : args = #[v0] := by cases args; simp_all
  obtain ⟨rfl, rfl⟩ := trodVars_none hV
  have hlt := hW'.lt
  have k0 := h0
  obtain ⟨fuel0, t0⟩ := h0
  obtain ⟨cs0, rfl, _⟩ := okWide_struct Try.underlying25 (hval 0 25 v0 rfl rfl)
  obtain ⟨x0, e0, ok0⟩ := open_model t0
  obtain rfl : cs0 = x0.cells := Array.ext' (by simpa [Value.cells] using e0)
  clear hA0 hval0
  refine (lawModelRows x0 W ok0).mono fun e W' ⟨he, hg⟩ => ?_
  subst he
  exact ⟨_, rfl, post_of_kp (pa := p0 ++ ([])) (pv := []) hW' (fun _ => (trodAll_cons_mk (shut_bool Try.underlying4 _) trodAll_mk0)) (trodAll_cons_mk (WideElems.Trod_stays laid (by kernel_rfl) (of_decide_eq_true (by kernel_rfl)) k0 (fun x hx => hg.same (hlt x (by simp [hx]))) (fun x hx => by simpa using hlt x (by simp [hx]))) trodAll_mk0) rfl hg⟩

end Go.Proofs.Ytpanfppnkgokdaa.modelRows
namespace Go.Proofs.Ytpanfppnkgokdaa
theorem modelRows_holds : Rows.ModelRowsSaid :=
  OpenClaim.holds_of_wide 6 Try.f6 rfl rfl rfl rfl rfl rfl rfl ⟨rfl, rfl, rfl, rfl, rfl⟩ rfl rfl rfl rfl rfl (by kernel_rfl) Try.func6 (by kernel_rfl)
    (of_decide_eq_true (by kernel_rfl)) (by unfold Func.isWrapper; first | (rw [if_pos (by decide +kernel)]; kernel_rfl) | (rw [if_neg (by decide +kernel)]; exact ⟨rfl, rfl⟩))
    (fun os started H enc _ => modelRows.lifted os started H enc)
#print axioms modelRows_holds
end Go.Proofs.Ytpanfppnkgokdaa
