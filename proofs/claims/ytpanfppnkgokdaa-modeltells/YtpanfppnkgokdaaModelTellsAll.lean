/- MdlX MdlY ModelTellsLaw, one after another. -/
import Derived.Test.YtpanfppnkgokdaaMdlProg
import Derived.Test.YtpanfppnkgokdaaMdlDoc
import Derived.Test.YtpanfppnkgokdaaMdlBase
import Derived.Test.YtpanfppnkgokdaaRows
import Derived.ProofKit
import Derived.OpenShut
import Derived.Lib.SmallJoins
/- A law over a model and a belief that are handed in: what is known, and copies. -/
namespace Go.Proofs.Ytpanfppnkgokdaa
open Go.RowKit Go.Shelf Go.Proofs.Wd
set_option linter.unusedVariables false
set_option linter.unusedSimpArgs false
set_option maxRecDepth 10000

theorem LV.okIn.good {x : LV} {W : World} (h : x.okIn W) : x.good W := ⟨h.row, ⟨h.le, h.nil⟩, h.nums⟩
theorem DV.okIn.good {m : DV} {W : World} (h : m.okIn W) (s : smallM m) : m.good W :=
  ⟨h.A.good, h.Q.good, h.rvs, fun i hi => ⟨(h.each i hi).h.good, (h.each i hi).s, (h.each i hi).r⟩, ⟨h.le, h.nil⟩, ⟨h.N, h.tick, h.gate, h.rmin⟩, s.1, s.2.1, s.2.2.1, s.2.2.2⟩
theorem BV.okIn.good {b : BV} {W : World} (h : b.okIn W) (s : smallB b) : b.good W := ⟨h.x.good, h.p.good, ⟨h.at', h.pass, h.fail⟩, by have := s.1; omega, s.2⟩
/-- Which blocks a model's lists lie in. -/
theorem lv_dep {x : LV} {w w' : World} (h : x.good w') (off : ∀ U, U < w.heap.size → Off U x.len x.ao) : ∃ Bs : List Nat, (∀ k ∈ Bs, w.heap.size ≤ k ∧ k < w'.heap.size) ∧ Dep Bs x.good := by
  obtain ⟨Bs, h1, h2⟩ := row_dep h.1 off
  exact ⟨Bs, h1, fun w1 w2 he hg => ⟨h2 w1 w2 he hg.1, hg.2⟩⟩
theorem rvs_dep {ro : Option Addr} {n : Nat} {X : Nat → RV} {w w' : World} (h : RVs w' ro n X) (off : ∀ U, U < w.heap.size → Off U n ro) : ∃ Bs : List Nat, (∀ k ∈ Bs, w.heap.size ≤ k ∧ k < w'.heap.size) ∧ Dep Bs (fun wx => RVs wx ro n X) := by
  by_cases hn : n = 0
  · exact ⟨[], fun _ h => absurd h List.not_mem_nil, fun _ _ _ _ => Or.inl hn⟩
  · rcases h with h0 | ⟨b, o, rfl, hc⟩
    · exact absurd h0 hn
    · have lt : b < w'.heap.size := by
        have := hc 0 (by omega) 0 (by omega)
        exact heap_gt (v := .int .i64 (X 0).s) this
      refine ⟨[b], fun k hk => ?_, fun w1 w2 he h => ?_⟩
      · rcases List.mem_singleton.1 hk with rfl
        exact ⟨Nat.le_of_not_lt fun hlt => off k hlt (by omega) _ rfl rfl, lt⟩
      · rcases h with h0 | ⟨b', o', e, hc'⟩
        · exact absurd h0 hn
        · cases e
          exact Or.inr ⟨b, o, rfl, fun i hi j hj => (World.cell?_of_block (he b (by simp))).trans (hc' i hi j hj)⟩
theorem each_dep {X : Nat → RV} {w w' : World} : ∀ n : Nat, (∀ i, i < n → (X i).h.good w' ∧ I64 (X i).s ∧ I64 (X i).r) → (∀ U, U < w.heap.size → ∀ i, i < n → Off U (X i).h.len (X i).h.ao) → ∃ Bs : List Nat, (∀ k ∈ Bs, w.heap.size ≤ k ∧ k < w'.heap.size) ∧ Dep Bs (fun wx => ∀ i, i < n → (X i).h.good wx ∧ I64 (X i).s ∧ I64 (X i).r)
  | 0, _, _ => ⟨[], fun _ h => absurd h List.not_mem_nil, fun _ _ _ _ i hi => absurd hi (Nat.not_lt_zero _)⟩
  | n + 1, h, off => by
    obtain ⟨A, a1, a2⟩ := each_dep n (fun i hi => h i (by omega)) (fun U hU i hi => off U hU i (by omega))
    obtain ⟨C, c1, c2⟩ := lv_dep (w := w) (h n (by omega)).1 (fun U hU => off U hU n (by omega))
    refine ⟨A ++ C, fun k hk => (List.mem_append.1 hk).elim (a1 k) (c1 k), fun w1 w2 he hg i hi => ?_⟩
    rcases Nat.lt_or_ge i n with h1 | h1
    · exact a2 w1 w2 (fun k hk => he k (List.mem_append_left _ hk)) (fun i hi => hg i (by omega)) i h1
    · obtain rfl : i = n := by omega
      exact ⟨c2 w1 w2 (fun k hk => he k (List.mem_append_right _ hk)) (hg i hi).1, (hg i hi).2⟩
theorem good_dep {m : DV} {w w' : World} (h : m.good w') (off : ∀ U, U < w.heap.size → Off U m.A.len m.A.ao ∧ Off U m.Q.len m.Q.ao ∧ Off U m.rl m.ro ∧ ∀ i, i < m.rl → Off U (m.X i).h.len (m.X i).h.ao) : ∃ Bs : List Nat, (∀ k ∈ Bs, w.heap.size ≤ k ∧ k < w'.heap.size) ∧ Dep Bs m.good := by
  obtain ⟨A, a1, a2⟩ := lv_dep (w := w) h.1 (fun U hU => (off U hU).1)
  obtain ⟨B, b1, b2⟩ := lv_dep (w := w) h.2.1 (fun U hU => (off U hU).2.1)
  obtain ⟨C, c1, c2⟩ := rvs_dep (w := w) h.2.2.1 (fun U hU => (off U hU).2.2.1)
  obtain ⟨D, d1, d2⟩ := each_dep (w := w) m.rl h.2.2.2.1 (fun U hU => (off U hU).2.2.2)
  refine ⟨A ++ (B ++ (C ++ D)), fun k hk => (List.mem_append.1 hk).elim (a1 k) (fun hk => (List.mem_append.1 hk).elim (b1 k) (fun hk => (List.mem_append.1 hk).elim (c1 k) (d1 k))), fun w1 w2 he hg => ⟨a2 w1 w2 (fun k hk => he k (by simp [hk])) hg.1, b2 w1 w2 (fun k hk => he k (by simp [hk])) hg.2.1, c2 w1 w2 (fun k hk => he k (by simp [hk])) hg.2.2.1, d2 w1 w2 (fun k hk => he k (by simp [hk])) hg.2.2.2.1, hg.2.2.2.2⟩⟩
/-- A copy of a model. -/
def GD (m : DV) (v : Value) (w : World) : Prop := ∃ m' : DV, v = .agg m'.cells ∧ m'.good w ∧ simD m m'
theorem gd_dep {m : DV} {w w' : World} {e : Ending} (h : CopyDP m w e w') : ∃ v Bs F, e = .returned v ∧ Kp w w' ∧ (∀ k ∈ Bs, w.heap.size ≤ k ∧ k < w'.heap.size) ∧ Dep Bs F ∧ F w' ∧ ∀ wx, F wx → GD m v wx := by
  obtain ⟨m', rfl, h1, h2, h3, h4⟩ := h
  obtain ⟨Bs, b1, b2⟩ := good_dep h1 h3
  exact ⟨_, Bs, m'.good, rfl, h4, b1, b2, h1, fun wx hg => ⟨m', rfl, hg, h2⟩⟩
end Go.Proofs.Ytpanfppnkgokdaa

/- ModelTells. -/
namespace Go.Proofs.Ytpanfppnkgokdaa
open Go.RowKit Go.Shelf Go.Proofs Go.Proofs.Wd
set_option linter.unusedVariables false
set_option linter.unusedSimpArgs false
set_option maxRecDepth 10000
attribute [local go_sem ↓] Go.wp_at_zero Go.wp_at_succ

/-- The law's state: what was handed in, its copies. -/
def TlS (w : World) (m n : DV) (b c : BV) (Mx Bx A7 A8 : Nat) (W : World) : Prop := Kp w W ∧ (Blk Mx m.cells 25 W ∧ Blk Bx b.cells 27 W ∧ Blk A7 n.cells 25 W ∧ Blk A8 c.cells 27 W) ∧ (m.good W ∧ n.good W ∧ b.good W ∧ c.good W) ∧ simD m n ∧ simB b c
theorem TlS.kp {w : World} {m n : DV} {b c : BV} {Mx Bx A7 A8 : Nat} {W W' : World} (h : TlS w m n b c Mx Bx A7 A8 W) (k : Kp W W') : TlS w m n b c Mx Bx A7 A8 W' :=
  ⟨h.1.trans k, ⟨Blk.kp h.2.1.1 k, Blk.kp h.2.1.2.1 k, Blk.kp h.2.1.2.2.1 k, Blk.kp h.2.1.2.2.2 k⟩, ⟨h.2.2.1.1.kp k, h.2.2.1.2.1.kp k, h.2.2.1.2.2.1.kp k, h.2.2.1.2.2.2.kp k⟩, h.2.2.2⟩
theorem gbo_good {b c : BV} {H : Nat} {W W0 : World} (h : b.good W0) (s : simB b c) (o1 : OwL H c.x.ao c.x.len c.x.cap c.x.Z W) (o2 : OwL H c.p.ao c.p.len c.p.cap c.p.Z W) : c.good W := by
  obtain ⟨s1, s2, s3, s4, ⟨s5, s6⟩, s7, s8⟩ := s
  refine ⟨⟨o1.parts.2.1, o1.parts.1, fun i hi => ?_⟩, ⟨o2.parts.2.1, o2.parts.1, fun i hi => ?_⟩, ⟨by rw [s1]; exact h.2.2.1.1, by rw [s3]; exact h.2.2.1.2.1, by rw [s4]; exact h.2.2.1.2.2⟩, by rw [s5]; exact h.2.2.2.1, by rw [s7]; exact h.2.2.2.2⟩
  · rw [s6]; exact h.1.2.2 i (by rw [← s5]; exact hi)
  · rw [s8]; exact h.2.1.2.2 i (by rw [← s7]; exact hi)
/-- Rows that are written over, one by one: those from the k-th on still lie apart. -/
def OvR (base k : Nat) (v : Value) (l : List RV) (w5 W : World) : Prop := Kp w5 W ∧ RLs W base v l ∧ ∀ (i : Nat) (x : RV), k ≤ i → l[i]? = some x → x.h.len = 0 ∨ ∃ B, x.h.ao = some ⟨B, 0, none⟩ ∧ base ≤ B ∧ Own B x.h.len x.h.Z W ∧ ∀ (j : Nat) (y : RV), i < j → l[j]? = some y → Off B y.h.len y.h.ao
theorem rls_ne {W : World} {base B n : Nat} {v : Value} {l : List RV} {Z : Nat → Int} (h : RLs W base v l) (o : Own B n Z W) : ∀ g, v.ownBlock = some g → g ≠ B := fun g e => by
  obtain ⟨cur, hb, _⟩ := o
  rcases h.2 with ⟨e2, _⟩ | ⟨g', c, cur', e2, _, hg, _⟩
  · rw [e2] at e; cases e
  · rw [e2] at e
    cases e
    exact (blk_ne' hb hg).symm
theorem OvR.step {base k : Nat} {v : Value} {l : List RV} {w5 W W' : World} {x : RV} {B : Nat} (h : OvR base k v l w5 W) (h5 : w5.heap.size ≤ base) (hx : l[k]? = some x) (e : x.h.ao = some ⟨B, 0, none⟩) (hB : base ≤ B) (o : Own B x.h.len x.h.Z W) (hf : ∀ (j : Nat) (y : RV), k < j → l[j]? = some y → Off B y.h.len y.h.ao) (m : Mod B W W') : OvR base (k + 1) v l w5 W' := by
  refine ⟨h.1.mod m (by omega), h.2.1.blk (fun g cs eg _ hb => Blk.keep hb m (rls_ne h.2.1 o g eg)), fun i y hi hy => ?_⟩
  rcases h.2.2 i y (by omega) hy with h0 | ⟨C, e2, h3, ⟨cur, h4, h5⟩, h6⟩
  · exact Or.inl h0
  · by_cases hn : y.h.len = 0
    · exact Or.inl hn
    · exact Or.inr ⟨C, e2, h3, ⟨cur, Blk.keep h4 m (hf i y (by omega) hy (by omega) _ e2), h5⟩, h6⟩
theorem OvR.skip {base k : Nat} {v : Value} {l : List RV} {w5 W W' : World} (h : OvR base k v l w5 W) (g : Kp W W') : OvR base (k + 1) v l w5 W' :=
  ⟨h.1.trans g, h.2.1.kp g, fun i y hi hy => (h.2.2 i y (by omega) hy).imp id fun ⟨C, e2, h3, h4, h6⟩ => ⟨C, e2, h3, h4.kp g, h6⟩⟩

theorem wrapSk (k : Nat) (h : k ≤ 1000000) : wrap64 ((k : Int) + 1) = (k : Int) + 1 := by unfold wrap64; omega
theorem seen_mem {X : Nat → RV} {s : Int} : ∀ {n i : Nat} {x : RV}, (seenR X s n)[i]? = some x → ∃ j, j < n ∧ X j = x
  | 0, i, x, h => by cases h
  | n + 1, i, x, h => by
    rw [seenR] at h
    split at h
    · rcases snoc_at h with ⟨_, h⟩ | ⟨_, rfl⟩
      · obtain ⟨j, hj, e⟩ := seen_mem h
        exact ⟨j, by omega, e⟩
      · exact ⟨n, by omega, rfl⟩
    · obtain ⟨j, hj, e⟩ := seen_mem h
      exact ⟨j, by omega, e⟩
set_option maxRecDepth 50000 in
set_option maxHeartbeats 16000000 in
theorem lawModelTells (m : DV) (b : BV) (s : Int) (is : I64 s) (w : World) (hm : m.okIn w) (hb : b.okIn w) :
    Calls Try.prog 3 #[.agg m.cells, .agg b.cells, .int .i64 s] w fun e w' => e = .returned (.bool true) ∧ Kp w w' := by
  unfold DV.cells BV.cells
  have S0 : Hid (Kp w ((w.alloc (.cells #[.int .i64 m.N, .slice m.A.ao m.A.len m.A.cap, .slice m.Q.ao m.Q.len m.Q.cap, .int .i64 m.tick, .int .i64 m.gate, .int .i64 m.rmin, .slice m.ro m.rl m.rc] 25)).alloc (.cells #[.int .i64 b.at', .slice b.x.ao b.x.len b.x.cap, .slice b.p.ao b.p.len b.p.cap, .bool b.flag, .int .i64 b.pass, .int .i64 b.fail] 27)) ∧ Blk w.heap.size #[.int .i64 m.N, .slice m.A.ao m.A.len m.A.cap, .slice m.Q.ao m.Q.len m.Q.cap, .int .i64 m.tick, .int .i64 m.gate, .int .i64 m.rmin, .slice m.ro m.rl m.rc] 25 ((w.alloc (.cells #[.int .i64 m.N, .slice m.A.ao m.A.len m.A.cap, .slice m.Q.ao m.Q.len m.Q.cap, .int .i64 m.tick, .int .i64 m.gate, .int .i64 m.rmin, .slice m.ro m.rl m.rc] 25)).alloc (.cells #[.int .i64 b.at', .slice b.x.ao b.x.len b.x.cap, .slice b.p.ao b.p.len b.p.cap, .bool b.flag, .int .i64 b.pass, .int .i64 b.fail] 27)) ∧ Blk (w.heap.size + 1) #[.int .i64 b.at', .slice b.x.ao b.x.len b.x.cap, .slice b.p.ao b.p.len b.p.cap, .bool b.flag, .int .i64 b.pass, .int .i64 b.fail] 27 ((w.alloc (.cells #[.int .i64 m.N, .slice m.A.ao m.A.len m.A.cap, .slice m.Q.ao m.Q.len m.Q.cap, .int .i64 m.tick, .int .i64 m.gate, .int .i64 m.rmin, .slice m.ro m.rl m.rc] 25)).alloc (.cells #[.int .i64 b.at', .slice b.x.ao b.x.len b.x.cap, .slice b.p.ao b.p.len b.p.cap, .bool b.flag, .int .i64 b.pass, .int .i64 b.fail] 27))) := ⟨((Kp.refl _).alloc _ _).alloc _ _, Blk.grown (Blk.new w _ _) ((Grown.refl _).alloc _ _), blk_new2 w _ _ _⟩
  have y0 : ((w.alloc (.cells #[.int .i64 m.N, .slice m.A.ao m.A.len m.A.cap, .slice m.Q.ao m.Q.len m.Q.cap, .int .i64 m.tick, .int .i64 m.gate, .int .i64 m.rmin, .slice m.ro m.rl m.rc] 25)).alloc (.cells #[.int .i64 b.at', .slice b.x.ao b.x.len b.x.cap, .slice b.p.ao b.p.len b.p.cap, .bool b.flag, .int .i64 b.pass, .int .i64 b.fail] 27)).cell? ⟨w.heap.size, 0, none⟩ = some (.int .i64 m.N) := Blk.cell (unhide S0).2.1 0
  have y1 : ((w.alloc (.cells #[.int .i64 m.N, .slice m.A.ao m.A.len m.A.cap, .slice m.Q.ao m.Q.len m.Q.cap, .int .i64 m.tick, .int .i64 m.gate, .int .i64 m.rmin, .slice m.ro m.rl m.rc] 25)).alloc (.cells #[.int .i64 b.at', .slice b.x.ao b.x.len b.x.cap, .slice b.p.ao b.p.len b.p.cap, .bool b.flag, .int .i64 b.pass, .int .i64 b.fail] 27)).cell? ⟨w.heap.size, 1, none⟩ = some (.slice m.A.ao m.A.len m.A.cap) := Blk.cell (unhide S0).2.1 1
  have y2 : ((w.alloc (.cells #[.int .i64 m.N, .slice m.A.ao m.A.len m.A.cap, .slice m.Q.ao m.Q.len m.Q.cap, .int .i64 m.tick, .int .i64 m.gate, .int .i64 m.rmin, .slice m.ro m.rl m.rc] 25)).alloc (.cells #[.int .i64 b.at', .slice b.x.ao b.x.len b.x.cap, .slice b.p.ao b.p.len b.p.cap, .bool b.flag, .int .i64 b.pass, .int .i64 b.fail] 27)).cell? ⟨w.heap.size, 2, none⟩ = some (.slice m.Q.ao m.Q.len m.Q.cap) := Blk.cell (unhide S0).2.1 2
  have y3 : ((w.alloc (.cells #[.int .i64 m.N, .slice m.A.ao m.A.len m.A.cap, .slice m.Q.ao m.Q.len m.Q.cap, .int .i64 m.tick, .int .i64 m.gate, .int .i64 m.rmin, .slice m.ro m.rl m.rc] 25)).alloc (.cells #[.int .i64 b.at', .slice b.x.ao b.x.len b.x.cap, .slice b.p.ao b.p.len b.p.cap, .bool b.flag, .int .i64 b.pass, .int .i64 b.fail] 27)).cell? ⟨w.heap.size, 3, none⟩ = some (.int .i64 m.tick) := Blk.cell (unhide S0).2.1 3
  have y4 : ((w.alloc (.cells #[.int .i64 m.N, .slice m.A.ao m.A.len m.A.cap, .slice m.Q.ao m.Q.len m.Q.cap, .int .i64 m.tick, .int .i64 m.gate, .int .i64 m.rmin, .slice m.ro m.rl m.rc] 25)).alloc (.cells #[.int .i64 b.at', .slice b.x.ao b.x.len b.x.cap, .slice b.p.ao b.p.len b.p.cap, .bool b.flag, .int .i64 b.pass, .int .i64 b.fail] 27)).cell? ⟨w.heap.size, 4, none⟩ = some (.int .i64 m.gate) := Blk.cell (unhide S0).2.1 4
  have y5 : ((w.alloc (.cells #[.int .i64 m.N, .slice m.A.ao m.A.len m.A.cap, .slice m.Q.ao m.Q.len m.Q.cap, .int .i64 m.tick, .int .i64 m.gate, .int .i64 m.rmin, .slice m.ro m.rl m.rc] 25)).alloc (.cells #[.int .i64 b.at', .slice b.x.ao b.x.len b.x.cap, .slice b.p.ao b.p.len b.p.cap, .bool b.flag, .int .i64 b.pass, .int .i64 b.fail] 27)).cell? ⟨w.heap.size, 5, none⟩ = some (.int .i64 m.rmin) := Blk.cell (unhide S0).2.1 5
  have y6 : ((w.alloc (.cells #[.int .i64 m.N, .slice m.A.ao m.A.len m.A.cap, .slice m.Q.ao m.Q.len m.Q.cap, .int .i64 m.tick, .int .i64 m.gate, .int .i64 m.rmin, .slice m.ro m.rl m.rc] 25)).alloc (.cells #[.int .i64 b.at', .slice b.x.ao b.x.len b.x.cap, .slice b.p.ao b.p.len b.p.cap, .bool b.flag, .int .i64 b.pass, .int .i64 b.fail] 27)).cell? ⟨w.heap.size, 6, none⟩ = some (.slice m.ro m.rl m.rc) := Blk.cell (unhide S0).2.1 6
  have HM := hide hm
  have HB := hide hb
  clear hm hb
  go_enter Try.func3, Try.ntmps3
  go_wp2_with fail
  generalize ((w.alloc (.cells #[.int .i64 m.N, .slice m.A.ao m.A.len m.A.cap, .slice m.Q.ao m.Q.len m.Q.cap, .int .i64 m.tick, .int .i64 m.gate, .int .i64 m.rmin, .slice m.ro m.rl m.rc] 25)).alloc (.cells #[.int .i64 b.at', .slice b.x.ao b.x.len b.x.cap, .slice b.p.ao b.p.len b.p.cap, .bool b.flag, .int .i64 b.pass, .int .i64 b.fail] 27)) = w0 at *
  refine (kitLongM m w0 ((unhide HM).rvs.kp (unhide S0).1)).mono ?_
  rintro e w1 ⟨r, rfl, g1, hs⟩
  have HS := hide hs
  have S1 : Hid (Kp w w1 ∧ Blk w.heap.size #[.int .i64 m.N, .slice m.A.ao m.A.len m.A.cap, .slice m.Q.ao m.Q.len m.Q.cap, .int .i64 m.tick, .int .i64 m.gate, .int .i64 m.rmin, .slice m.ro m.rl m.rc] 25 w1 ∧ Blk (w.heap.size + 1) #[.int .i64 b.at', .slice b.x.ao b.x.len b.x.cap, .slice b.p.ao b.p.len b.p.cap, .bool b.flag, .int .i64 b.pass, .int .i64 b.fail] 27 w1) := ⟨(unhide S0).1.grown g1, Blk.grown (unhide S0).2.1 g1, Blk.grown (unhide S0).2.2 g1⟩
  clear g1 hs S0 y0 y1 y2 y3 y4 y5 y6
  cases r with
  | true =>
    go_wp2_with fail
    refine (lawAwakeMdl _).mono ?_
    rintro e w2 ⟨rfl, k2⟩
    have KE := hide ((unhide S1).1.trans k2)
    clear k2 S1
    go_wp2
    go_ret
    exact ⟨rfl, unhide KE⟩
  | false =>
    have z0 : w1.cell? ⟨w.heap.size + 1, 0, none⟩ = some (.int .i64 b.at') := Blk.cell (unhide S1).2.2 0
    have z1 : w1.cell? ⟨w.heap.size + 1, 1, none⟩ = some (.slice b.x.ao b.x.len b.x.cap) := Blk.cell (unhide S1).2.2 1
    have z2 : w1.cell? ⟨w.heap.size + 1, 2, none⟩ = some (.slice b.p.ao b.p.len b.p.cap) := Blk.cell (unhide S1).2.2 2
    have z3 : w1.cell? ⟨w.heap.size + 1, 3, none⟩ = some (.bool b.flag) := Blk.cell (unhide S1).2.2 3
    have z4 : w1.cell? ⟨w.heap.size + 1, 4, none⟩ = some (.int .i64 b.pass) := Blk.cell (unhide S1).2.2 4
    have z5 : w1.cell? ⟨w.heap.size + 1, 5, none⟩ = some (.int .i64 b.fail) := Blk.cell (unhide S1).2.2 5
    go_wp2_with fail
    refine (kitLongB b w1).mono ?_
    rintro e w2 ⟨rfl, g2⟩
    have S2 : Hid (Kp w w2 ∧ Blk w.heap.size #[.int .i64 m.N, .slice m.A.ao m.A.len m.A.cap, .slice m.Q.ao m.Q.len m.Q.cap, .int .i64 m.tick, .int .i64 m.gate, .int .i64 m.rmin, .slice m.ro m.rl m.rc] 25 w2 ∧ Blk (w.heap.size + 1) #[.int .i64 b.at', .slice b.x.ao b.x.len b.x.cap, .slice b.p.ao b.p.len b.p.cap, .bool b.flag, .int .i64 b.pass, .int .i64 b.fail] 27 w2) := ⟨(unhide S1).1.grown g2, Blk.grown (unhide S1).2.1 g2, Blk.grown (unhide S1).2.2 g2⟩
    clear g2 S1 z0 z1 z2 z3 z4 z5
    obtain ⟨r2, hr2⟩ : ∃ r2, (decide (12 < b.x.len) || decide (40 < b.p.len)) = r2 := ⟨_, rfl⟩
    rw [hr2]
    have HR2 := hide hr2
    clear hr2
    cases r2 with
    | true =>
      go_wp2_with fail
      refine (lawAwakeMdl _).mono ?_
      rintro e w3 ⟨rfl, k2⟩
      have KE := hide ((unhide S2).1.trans k2)
      clear k2 S2
      go_wp2
      go_ret
      exact ⟨rfl, unhide KE⟩
    | false =>
      have SB : Hid (smallB b) := by
        have h := unhide HR2
        rw [Bool.or_eq_false_iff] at h
        exact ⟨Nat.not_lt.1 (of_decide_eq_false h.1), Nat.not_lt.1 (of_decide_eq_false h.2)⟩
      have GG : Hid (∀ wx, Kp w wx → m.good wx ∧ b.good wx) := fun wx k => ⟨((unhide HM).good (by first | exact unhide HS rfl | exact unhide HS trivial)).kp k, ((unhide HB).good (unhide SB)).kp k⟩
      clear HR2 SB HM HB HS
      go_wp2_with fail
      generalize w.heap.size = Mx at *
      refine regN3 (w := w2) [.pure 20 (.agg m.cells), .call 21 (GD m), .pure 22 (.agg b.cells), .call 23 (GBo b w2.heap.size), .alloc 7 zD 25, .alloc 8 zB 27, .store 4 1 aggOf, .store 5 3 aggOf] (fun wx => Kp w2 wx) (by kernel_rfl) rfl (by kernel_rfl) (by kernel_rfl) (by kernel_rfl) (by kernel_rfl) ?_ (show Kp w2 w2 from Kp.refl _) (fun a b k h => h.trans k) (fun A a b hA mk h => h.mk mk hA) ?_
      · refine And.intro (okLoadD (B := Mx) rfl (by kernel_rfl) rfl (fun wx k => Blk.kp (unhide S2).2.1 k)) ?_
        refine And.intro (okCall13 (j := 0) rfl rfl (by kernel_rfl) (fun w => enters_of Try.func11 (by kernel_rfl) rfl _ w) (fun wx k hH => (kitCopyD m wx (unhide GG wx ((unhide S2).1.trans k)).1).mono (fun e w' hc => gd_dep hc))) ?_
        refine And.intro (okLoadB (B := Mx + 1) rfl (by kernel_rfl) rfl (fun wx k => Blk.kp (unhide S2).2.2 k)) ?_
        refine And.intro (okCall13 (j := 2) rfl rfl (by kernel_rfl) (fun w => enters_of Try.func12 (by kernel_rfl) rfl _ w) (fun wx k hH => ?_)) ?_
        · have g := (unhide GG wx ((unhide S2).1.trans k)).2
          exact (kitCopyBo b.at' b.pass b.fail b.flag b.x.ao b.p.ao b.x.len b.x.cap b.p.len b.p.cap b.x.Z b.p.Z (by have := g.2.2.2.1; omega) (by have := g.2.2.2.2; omega) g.1.2.1.2 g.2.1.2.1.2 wx g.1.1 g.2.1.1).mono (fun e w' hc => gbo_dep hc hH)
        refine And.intro (okAllocD rfl) (And.intro (okAllocB rfl) ?_)
        refine And.intro (okStoreD (ia := 4) (ic := 1) rfl (fun v w h => let ⟨m', e, _⟩ := h; ⟨m', e⟩) rfl rfl (by kernel_rfl) (by kernel_rfl) (by kernel_rfl)) ?_
        exact And.intro (okStoreB (ia := 5) (ic := 3) rfl (fun v w h => let ⟨b', e, _⟩ := h; ⟨b', e⟩) rfl rfl (by kernel_rfl) (by kernel_rfl) (by kernel_rfl)) trivial
      intro vals addr gs fs w5 k5 hsz fin _
      obtain ⟨n, en, gn, sn⟩ : GD m (vals 1) w5 := let ⟨h1, h2, _⟩ := fin 1 _ rfl; h2 _ h1
      obtain ⟨c, ec, sc, o1, o2, _⟩ : GBo b w2.heap.size (vals 3) w5 := let ⟨h1, h2, _⟩ := fin 3 _ rfl; h2 _ h1
      have f6 : Blk (addr 4) (aggOf (vals 1)) 25 w5 := fin 6 _ rfl _ _ _ rfl
      have f7 : Blk (addr 5) (aggOf (vals 3)) 27 w5 := fin 7 _ rfl _ _ _ rfl
      simp only [putsL, OpK.dst, OpK.val, List.foldl]
      rw [en] at f6 ⊢
      rw [ec] at f7 ⊢
      generalize addr 4 = A7 at *
      generalize addr 5 = A8 at *
      have gm := unhide GG w5 ((unhide S2).1.trans k5)
      have S5 : Hid (TlS w m n b c Mx (Mx + 1) A7 A8 w5) := ⟨(unhide S2).1.trans k5, ⟨Blk.kp (unhide S2).2.1 k5, Blk.kp (unhide S2).2.2 k5, f6, f7⟩, ⟨gm.1, gn, gm.2, gbo_good gm.2 sc o1 o2⟩, sn, sc⟩
      clear k5 hsz fin en ec gn sn sc o1 o2 f6 f7 gm S2 GG
      simp only [List.setIfInBounds_toArray, List.set_cons_zero, List.set_cons_succ]
      unfold DV.cells BV.cells
      go_wp2_with fail
      have M0 : Hid (Kp w5 w5.drew) := (show Kp w5 w5 from Kp.refl _)
      refine region_G (fun w' => Kp w5 w') 7 (by kernel_rfl) (unhide M0) (fun hHeld => ?_)
      refine take_G (i := 0) (d := 24) (v := .agg #[.int .i64 n.N, .slice n.A.ao n.A.len n.A.cap, .slice n.Q.ao n.Q.len n.Q.cap, .int .i64 n.tick, .int .i64 n.gate, .int .i64 n.rmin, .slice n.ro n.rl n.rc]) rfl rfl (by kernel_rfl) (by kernel_rfl) (by kernel_rfl) (by kernel_rfl) (by kernel_rfl) (Or.inl ⟨by rfl, ?_⟩) hHeld ?_
      · intro wS hSw
        obtain ⟨k0, k1, k2, k3, k4, k5, k6⟩ := ((unhide S5).kp hSw).2.1.2.2.1.cellsD
        clear hSw hHeld
        go_simp
      (try simp only [Act.put, List.setIfInBounds_toArray, List.set_cons_zero, List.set_cons_succ])
      refine take_G (i := 1) (d := 25) (v := .int .i64 s) rfl rfl (by kernel_rfl) (by kernel_rfl) (by kernel_rfl) (by kernel_rfl) (by kernel_rfl) (Or.inl ⟨by rfl, ?_⟩) hHeld ?_
      · intro wS hSw
        clear hSw hHeld
        go_simp
      (try simp only [Act.put, List.setIfInBounds_toArray, List.set_cons_zero, List.set_cons_succ])
      refine take_G (i := 3) (d := 27) (v := .agg #[.int .i64 m.N, .slice m.A.ao m.A.len m.A.cap, .slice m.Q.ao m.Q.len m.Q.cap, .int .i64 m.tick, .int .i64 m.gate, .int .i64 m.rmin, .slice m.ro m.rl m.rc]) rfl rfl (by kernel_rfl) (by kernel_rfl) (by kernel_rfl) (by kernel_rfl) (by kernel_rfl) (Or.inl ⟨by rfl, ?_⟩) hHeld ?_
      · intro wS hSw
        obtain ⟨k0, k1, k2, k3, k4, k5, k6⟩ := ((unhide S5).kp hSw).2.1.1.cellsD
        clear hSw hHeld
        go_simp
      (try simp only [Act.put, List.setIfInBounds_toArray, List.set_cons_zero, List.set_cons_succ])
      refine take_G (i := 4) (d := 28) (v := .int .i64 s) rfl rfl (by kernel_rfl) (by kernel_rfl) (by kernel_rfl) (by kernel_rfl) (by kernel_rfl) (Or.inl ⟨by rfl, ?_⟩) hHeld ?_
      · intro wS hSw
        clear hSw hHeld
        go_simp
      (try simp only [Act.put, List.setIfInBounds_toArray, List.set_cons_zero, List.set_cons_succ])
      refine step_G (i := 2) (by kernel_rfl) (fun K hK => ?_)
      refine wpOp_wantM rfl (by rfl) ?_
      unfold Oper.wp
      go_simp
      refine (pRows n s _ is ((unhide S5).kp hHeld).2.2.1.2.1).mono ?_
      rintro e x1 ⟨v, l1, rfl, hL, hO, kk⟩
      have M1 := hide ((unhide M0).trans kk)
      obtain ⟨lo, lc, rfl, hM, hlc, _⟩ := hL.1.rvs
      have R1 : Hid (RCp w5.heap.size (.slice lo l1.length lc) (seenR n.X s n.rl) l1 x1 ∧ OwnRs w5.heap.size l1 x1 ∧ Kp w5 x1) := ⟨hL, hO, kk⟩
      clear hL hO kk hM hlc
      clear hHeld
      refine hK _ _ (fun _ => unhide M1) ?_
      clear hK K M0
      have hHeld := unhide M1
      (try simp only [Act.put, List.setIfInBounds_toArray, List.set_cons_zero, List.set_cons_succ])
      refine step_G (i := 5) (by kernel_rfl) (fun K hK => ?_)
      refine wpOp_wantM rfl (by rfl) ?_
      unfold Oper.wp
      go_simp
      refine (refRowsD m s _ ((unhide S5).kp hHeld).2.2.1.1).mono ?_
      rintro e x2 ⟨v, l2, rfl, hL, kk⟩
      have M2 := hide ((unhide M1).trans kk)
      obtain ⟨lp, ld, rfl, hM, hlc, _⟩ := hL.1.rvs
      have hL3 := hL.2.1
      have R2 : Hid (RCp x1.heap.size (.slice lp l2.length ld) (seenR m.X s m.rl) l2 x2 ∧ Kp x1 x2) := ⟨hL, kk⟩
      clear hL kk hM hlc hL3
      clear hHeld
      refine hK _ _ (fun _ => unhide M2) ?_
      clear hK K M1
      have hHeld := unhide M2
      (try simp only [Act.put, List.setIfInBounds_toArray, List.set_cons_zero, List.set_cons_succ])
      refine take_G (i := 6) (d := 9) (v := .slice lo l1.length lc) rfl rfl (by kernel_rfl) (by kernel_rfl) (by kernel_rfl) (by kernel_rfl) (by kernel_rfl) (Or.inl ⟨by rfl, ?_⟩) hHeld ?_
      · intro wS hSw
        clear hSw hHeld
        go_simp
      (try simp only [Act.put, List.setIfInBounds_toArray, List.set_cons_zero, List.set_cons_succ])
      refine step_G (i := 7) (by kernel_rfl) (fun K hK => ?_)
      refine wpOp_of rfl rfl ?_
      unfold Oper.wp
      go_simp
      refine hK _ _ (fun h => absurd rfl h) ?_
      clear hK K
      refine done_G (by kernel_rfl) ?_
      (try simp only [Act.put, List.setIfInBounds_toArray, List.set_cons_zero, List.set_cons_succ])
      clear hHeld
      refine noPanic_normalE ?_
      have RR : Hid (l1.length = l2.length ∧ (∀ (i : Nat) (x y : RV), l1[i]? = some x → l2[i]? = some y → eqRV x y) ∧ l1.length = (seenR m.X s m.rl).length ∧ l1.length ≤ 30) := by
        obtain ⟨a1, a2⟩ := seen_sim (s := s) (n := m.rl) (fun i hi => (unhide S5).2.2.2.1.2.2.2.2.2.2.2 i hi)
        have en : n.rl = m.rl := (unhide S5).2.2.2.1.2.2.2.2.2.2.1
        obtain ⟨⟨_, b2, b3⟩, _⟩ := unhide R1
        obtain ⟨⟨_, c2, c3⟩, _⟩ := unhide R2
        rw [en] at b2 b3
        refine ⟨by omega, fun i x y hx hy => ?_, by omega, by have := seenR_len m.X s m.rl; have := (unhide S5).2.2.1.1.2.2.2.2.2.2.2.2.1; omega⟩
        have ix := (List.getElem?_eq_some_iff.1 hx).1
        obtain ⟨x0, hx0⟩ : ∃ x0, (seenR n.X s m.rl)[i]? = some x0 := ⟨_, List.getElem?_eq_getElem (by omega)⟩
        obtain ⟨y0, hy0⟩ : ∃ y0, (seenR m.X s m.rl)[i]? = some y0 := ⟨_, List.getElem?_eq_getElem (by omega)⟩
        obtain ⟨p1, p2, rfl, _⟩ := b3 i x x0 hx hx0
        obtain ⟨q1, q2, rfl, _⟩ := c3 i y y0 hy hy0
        obtain ⟨e1, e2, e3, e4⟩ := a2 i x0 y0 hx0 hy0
        exact ⟨e1, e2, e3, fun p _ => by rw [show (cpRV x0 p1 p2).h.Z = x0.h.Z from rfl, show (cpRV y0 q1 q2).h.Z = y0.h.Z from rfl, e4]⟩

      have S6 := hide ((unhide S5).kp (unhide M2))
      have K5 := hide (unhide M2)
      have PC : Hid (∀ wx, Kp x2 wx → Calls Try.prog 15 #[.agg #[.int .i64 n.N, .slice n.A.ao n.A.len n.A.cap, .slice n.Q.ao n.Q.len n.Q.cap, .int .i64 n.tick, .int .i64 n.gate, .int .i64 n.rmin, .slice n.ro n.rl n.rc]] wx fun e w' => e = .returned (.int .i64 (chkD m)) ∧ Kp wx w') := fun wx k => by
        have S := (unhide S6).kp k
        have := pCheck n wx S.2.2.1.2.1
        rw [S.2.2.2.1.chk] at this
        exact this
      have RC : Hid (∀ wx, Kp x2 wx → Calls Try.prog 16 #[.agg #[.int .i64 m.N, .slice m.A.ao m.A.len m.A.cap, .slice m.Q.ao m.Q.len m.Q.cap, .int .i64 m.tick, .int .i64 m.gate, .int .i64 m.rmin, .slice m.ro m.rl m.rc]] wx fun e w' => e = .returned (.int .i64 (chkD m)) ∧ Kp wx w') := fun wx k => (refCheck m wx ((unhide S6).kp k).2.2.1.1.rows).mono fun e w' h => ⟨h.1, Kp.of h.2⟩
      have PF : Hid (∀ wx, Kp x2 wx → Calls Try.prog 17 #[.agg #[.int .i64 n.N, .slice n.A.ao n.A.len n.A.cap, .slice n.Q.ao n.Q.len n.Q.cap, .int .i64 n.tick, .int .i64 n.gate, .int .i64 n.rmin, .slice n.ro n.rl n.rc], .agg #[.int .i64 c.at', .slice c.x.ao c.x.len c.x.cap, .slice c.p.ao c.p.len c.p.cap, .bool c.flag, .int .i64 c.pass, .int .i64 c.fail]] wx fun e w' => e = .returned (.int .i64 (fitD m b)) ∧ Kp wx w') := fun wx k => by
        have S := (unhide S6).kp k
        have := pFits n c wx S.2.2.1.2.1 S.2.2.1.2.2.2
        rw [S.2.2.2.1.fit S.2.2.2.2] at this
        exact this
      have RF : Hid (∀ wx, Kp x2 wx → Calls Try.prog 18 #[.agg #[.int .i64 m.N, .slice m.A.ao m.A.len m.A.cap, .slice m.Q.ao m.Q.len m.Q.cap, .int .i64 m.tick, .int .i64 m.gate, .int .i64 m.rmin, .slice m.ro m.rl m.rc], .agg #[.int .i64 b.at', .slice b.x.ao b.x.len b.x.cap, .slice b.p.ao b.p.len b.p.cap, .bool b.flag, .int .i64 b.pass, .int .i64 b.fail]] wx fun e w' => e = .returned (.int .i64 (fitD m b)) ∧ Kp wx w') := fun wx k => (refFits m b wx ((unhide S6).kp k).2.2.1.1.rows ((unhide S6).kp k).2.2.1.2.2.1.rows).mono fun e w' h => ⟨h.1, Kp.of h.2⟩
      have PD : Hid (∀ wx, Kp x2 wx → Calls Try.prog 19 #[.agg #[.int .i64 n.N, .slice n.A.ao n.A.len n.A.cap, .slice n.Q.ao n.Q.len n.Q.cap, .int .i64 n.tick, .int .i64 n.gate, .int .i64 n.rmin, .slice n.ro n.rl n.rc], .int .i64 s] wx fun e w' => e = .returned (.int .i64 (l2.length : Nat)) ∧ Kp wx w') := fun wx k => by
        have S := (unhide S6).kp k
        have := pDim n s wx is S.2.2.1.2.1
        have e1 : (seenR n.X s n.rl).length = l2.length := by
          have h := (unhide R1).1.2.1
          have := (unhide RR).1
          omega
        rw [e1] at this
        exact this
      have SR : Hid (∀ wx, Kp x2 wx → Calls Try.prog 20 #[.slice lo l1.length lc, .slice lp l2.length ld] wx fun e w' => e = .returned (.bool true) ∧ Kp wx w') := fun wx k => by
        obtain ⟨lo', lc', e1, h1, _, _⟩ := (unhide R1).1.1.rvs
        obtain ⟨lp', ld', e2, h2, _, _⟩ := (unhide R2).1.1.rvs
        cases e1
        cases e2
        obtain ⟨r1, r2, r3, r4⟩ := unhide RR
        have k1 := (unhide R2).2.trans k
        rw [← r1] at h2 ⊢
        refine kitSameR lo lp l1.length lc ld (by omega) (ixR l1) (ixR l2) wx ⟨h1.kp k1, h2.kp k, fun i hi => ?_⟩
        have x1' : l1[i]? = some (ixR l1 i) := by rw [List.getElem?_eq_getElem hi]; exact congrArg some (ixR_at (List.getElem?_eq_getElem hi)).symm
        have x2' : l2[i]? = some (ixR l2 i) := by
          have hi2 : i < l2.length := by omega
          rw [List.getElem?_eq_getElem hi2]; exact congrArg some (ixR_at (List.getElem?_eq_getElem hi2)).symm
        obtain ⟨x0, hx0⟩ : ∃ x0, (seenR n.X s n.rl)[i]? = some x0 := ⟨_, List.getElem?_eq_getElem (by have := (unhide R1).1.2.1; omega)⟩
        obtain ⟨y0, hy0⟩ : ∃ y0, (seenR m.X s m.rl)[i]? = some y0 := ⟨_, List.getElem?_eq_getElem (by have := (unhide R2).1.2.1; omega)⟩
        obtain ⟨p1, p2, f1, _, f2, _⟩ := (unhide R1).1.2.2 i _ x0 x1' hx0
        obtain ⟨q1, q2, g1, _, g2, _⟩ := (unhide R2).1.2.2 i _ y0 x2' hy0
        have eq := r2 i _ _ x1' x2'
        have hl0 : x0.h.len ≤ 12 := by
          obtain ⟨j, hj, hxj⟩ := seen_mem hx0
          have := (unhide S5).2.2.1.2.1.2.2.2.2.2.2.2.2.2 j hj
          rw [hxj] at this
          exact this
        refine ⟨eq, ?_, ?_, ?_⟩
        · rw [f1]; show x0.h.len ≤ 1000000; omega
        · rw [f1]; exact f2.kp k1
        · rw [g1]; exact g2.kp k
      have EL : Hid (l1.length = l2.length) := (unhide RR).1
      generalize chkD m = ck at *
      generalize fitD m b = ft at *
      go_wp2_with fail
      have V0 : Hid (Kp x2 x2.drew) := (show Kp x2 x2 from Kp.refl _)
      refine region_G (fun w' => Kp x2 w') 27 (by kernel_rfl) (unhide V0) (fun hHeld => ?_)
      refine take_G (i := 0) (d := 30) (v := .agg #[.int .i64 n.N, .slice n.A.ao n.A.len n.A.cap, .slice n.Q.ao n.Q.len n.Q.cap, .int .i64 n.tick, .int .i64 n.gate, .int .i64 n.rmin, .slice n.ro n.rl n.rc]) rfl rfl (by kernel_rfl) (by kernel_rfl) (by kernel_rfl) (by kernel_rfl) (by kernel_rfl) (Or.inl ⟨by rfl, ?_⟩) hHeld ?_
      · intro wS hSw
        obtain ⟨k0, k1, k2, k3, k4, k5, k6⟩ := ((unhide S6).kp hSw).2.1.2.2.1.cellsD
        clear hSw hHeld
        go_simp
      (try simp only [Act.put, List.setIfInBounds_toArray, List.set_cons_zero, List.set_cons_succ])
      refine take_G (i := 2) (d := 32) (v := .agg #[.int .i64 m.N, .slice m.A.ao m.A.len m.A.cap, .slice m.Q.ao m.Q.len m.Q.cap, .int .i64 m.tick, .int .i64 m.gate, .int .i64 m.rmin, .slice m.ro m.rl m.rc]) rfl rfl (by kernel_rfl) (by kernel_rfl) (by kernel_rfl) (by kernel_rfl) (by kernel_rfl) (Or.inl ⟨by rfl, ?_⟩) hHeld ?_
      · intro wS hSw
        obtain ⟨k0, k1, k2, k3, k4, k5, k6⟩ := ((unhide S6).kp hSw).2.1.1.cellsD
        clear hSw hHeld
        go_simp
      (try simp only [Act.put, List.setIfInBounds_toArray, List.set_cons_zero, List.set_cons_succ])
      refine step_G (i := 1) (by kernel_rfl) (fun K hK => ?_)
      refine wpOp_wantM rfl (by rfl) ?_
      unfold Oper.wp
      go_simp
      refine (unhide PC _ hHeld).mono ?_
      rintro e u1 ⟨rfl, kk⟩
      have V1 := hide ((unhide V0).trans kk)
      clear kk PC
      clear hHeld
      refine hK _ _ (fun _ => unhide V1) ?_
      clear hK K V0
      have hHeld := unhide V1
      (try simp only [Act.put, List.setIfInBounds_toArray, List.set_cons_zero, List.set_cons_succ])
      refine step_G (i := 3) (by kernel_rfl) (fun K hK => ?_)
      refine wpOp_wantM rfl (by rfl) ?_
      unfold Oper.wp
      go_simp
      refine (unhide RC _ hHeld).mono ?_
      rintro e u2 ⟨rfl, kk⟩
      have V2 := hide ((unhide V1).trans kk)
      clear kk RC
      clear hHeld
      refine hK _ _ (fun _ => unhide V2) ?_
      clear hK K V1
      have hHeld := unhide V2
      (try simp only [Act.put, List.setIfInBounds_toArray, List.set_cons_zero, List.set_cons_succ])
      refine take_G (i := 4) (d := 34) (v := .bool true) rfl rfl (by kernel_rfl) (by kernel_rfl) (by kernel_rfl) (by kernel_rfl) (by kernel_rfl) (Or.inl ⟨by rfl, ?_⟩) hHeld ?_
      · intro wS hSw
        clear hSw hHeld
        go_simp
      (try simp only [Act.put, List.setIfInBounds_toArray, List.set_cons_zero, List.set_cons_succ])
      refine take_G (i := 5) (d := 35) (v := .bool true) rfl rfl (by kernel_rfl) (by kernel_rfl) (by kernel_rfl) (by kernel_rfl) (by kernel_rfl) (Or.inl ⟨by rfl, ?_⟩) hHeld ?_
      · intro wS hSw
        clear hSw hHeld
        go_simp
      (try simp only [Act.put, List.setIfInBounds_toArray, List.set_cons_zero, List.set_cons_succ])
      refine take_G (i := 6) (d := 36) (v := .agg #[.int .i64 n.N, .slice n.A.ao n.A.len n.A.cap, .slice n.Q.ao n.Q.len n.Q.cap, .int .i64 n.tick, .int .i64 n.gate, .int .i64 n.rmin, .slice n.ro n.rl n.rc]) rfl rfl (by kernel_rfl) (by kernel_rfl) (by kernel_rfl) (by kernel_rfl) (by kernel_rfl) (Or.inl ⟨by rfl, ?_⟩) hHeld ?_
      · intro wS hSw
        obtain ⟨k0, k1, k2, k3, k4, k5, k6⟩ := ((unhide S6).kp hSw).2.1.2.2.1.cellsD
        clear hSw hHeld
        go_simp
      (try simp only [Act.put, List.setIfInBounds_toArray, List.set_cons_zero, List.set_cons_succ])
      refine take_G (i := 7) (d := 37) (v := .agg #[.int .i64 c.at', .slice c.x.ao c.x.len c.x.cap, .slice c.p.ao c.p.len c.p.cap, .bool c.flag, .int .i64 c.pass, .int .i64 c.fail]) rfl rfl (by kernel_rfl) (by kernel_rfl) (by kernel_rfl) (by kernel_rfl) (by kernel_rfl) (Or.inl ⟨by rfl, ?_⟩) hHeld ?_
      · intro wS hSw
        obtain ⟨k0, k1, k2, k3, k4, k5⟩ := ((unhide S6).kp hSw).2.1.2.2.2.cellsB
        clear hSw hHeld
        go_simp
      (try simp only [Act.put, List.setIfInBounds_toArray, List.set_cons_zero, List.set_cons_succ])
      refine take_G (i := 9) (d := 39) (v := .agg #[.int .i64 m.N, .slice m.A.ao m.A.len m.A.cap, .slice m.Q.ao m.Q.len m.Q.cap, .int .i64 m.tick, .int .i64 m.gate, .int .i64 m.rmin, .slice m.ro m.rl m.rc]) rfl rfl (by kernel_rfl) (by kernel_rfl) (by kernel_rfl) (by kernel_rfl) (by kernel_rfl) (Or.inl ⟨by rfl, ?_⟩) hHeld ?_
      · intro wS hSw
        obtain ⟨k0, k1, k2, k3, k4, k5, k6⟩ := ((unhide S6).kp hSw).2.1.1.cellsD
        clear hSw hHeld
        go_simp
      (try simp only [Act.put, List.setIfInBounds_toArray, List.set_cons_zero, List.set_cons_succ])
      refine take_G (i := 10) (d := 40) (v := .agg #[.int .i64 b.at', .slice b.x.ao b.x.len b.x.cap, .slice b.p.ao b.p.len b.p.cap, .bool b.flag, .int .i64 b.pass, .int .i64 b.fail]) rfl rfl (by kernel_rfl) (by kernel_rfl) (by kernel_rfl) (by kernel_rfl) (by kernel_rfl) (Or.inl ⟨by rfl, ?_⟩) hHeld ?_
      · intro wS hSw
        obtain ⟨k0, k1, k2, k3, k4, k5⟩ := ((unhide S6).kp hSw).2.1.2.1.cellsB
        clear hSw hHeld
        go_simp
      (try simp only [Act.put, List.setIfInBounds_toArray, List.set_cons_zero, List.set_cons_succ])
      refine step_G (i := 8) (by kernel_rfl) (fun K hK => ?_)
      refine wpOp_wantM rfl (by rfl) ?_
      unfold Oper.wp
      go_simp
      refine (unhide PF _ hHeld).mono ?_
      rintro e u3 ⟨rfl, kk⟩
      have V3 := hide ((unhide V2).trans kk)
      clear kk PF
      clear hHeld
      refine hK _ _ (fun _ => unhide V3) ?_
      clear hK K V2
      have hHeld := unhide V3
      (try simp only [Act.put, List.setIfInBounds_toArray, List.set_cons_zero, List.set_cons_succ])
      refine step_G (i := 11) (by kernel_rfl) (fun K hK => ?_)
      refine wpOp_wantM rfl (by rfl) ?_
      unfold Oper.wp
      go_simp
      refine (unhide RF _ hHeld).mono ?_
      rintro e u4 ⟨rfl, kk⟩
      have V4 := hide ((unhide V3).trans kk)
      clear kk RF
      clear hHeld
      refine hK _ _ (fun _ => unhide V4) ?_
      clear hK K V3
      have hHeld := unhide V4
      (try simp only [Act.put, List.setIfInBounds_toArray, List.set_cons_zero, List.set_cons_succ])
      refine take_G (i := 12) (d := 42) (v := .bool true) rfl rfl (by kernel_rfl) (by kernel_rfl) (by kernel_rfl) (by kernel_rfl) (by kernel_rfl) (Or.inl ⟨by rfl, ?_⟩) hHeld ?_
      · intro wS hSw
        clear hSw hHeld
        go_simp
      (try simp only [Act.put, List.setIfInBounds_toArray, List.set_cons_zero, List.set_cons_succ])
      refine take_G (i := 13) (d := 43) (v := .bool true) rfl rfl (by kernel_rfl) (by kernel_rfl) (by kernel_rfl) (by kernel_rfl) (by kernel_rfl) (Or.inl ⟨by rfl, ?_⟩) hHeld ?_
      · intro wS hSw
        clear hSw hHeld
        go_simp
      (try simp only [Act.put, List.setIfInBounds_toArray, List.set_cons_zero, List.set_cons_succ])
      refine take_G (i := 14) (d := 44) (v := .bool true) rfl rfl (by kernel_rfl) (by kernel_rfl) (by kernel_rfl) (by kernel_rfl) (by kernel_rfl) (Or.inl ⟨by rfl, ?_⟩) hHeld ?_
      · intro wS hSw
        clear hSw hHeld
        go_simp
      (try simp only [Act.put, List.setIfInBounds_toArray, List.set_cons_zero, List.set_cons_succ])
      refine take_G (i := 15) (d := 45) (v := .agg #[.int .i64 n.N, .slice n.A.ao n.A.len n.A.cap, .slice n.Q.ao n.Q.len n.Q.cap, .int .i64 n.tick, .int .i64 n.gate, .int .i64 n.rmin, .slice n.ro n.rl n.rc]) rfl rfl (by kernel_rfl) (by kernel_rfl) (by kernel_rfl) (by kernel_rfl) (by kernel_rfl) (Or.inl ⟨by rfl, ?_⟩) hHeld ?_
      · intro wS hSw
        obtain ⟨k0, k1, k2, k3, k4, k5, k6⟩ := ((unhide S6).kp hSw).2.1.2.2.1.cellsD
        clear hSw hHeld
        go_simp
      (try simp only [Act.put, List.setIfInBounds_toArray, List.set_cons_zero, List.set_cons_succ])
      refine take_G (i := 16) (d := 46) (v := .int .i64 s) rfl rfl (by kernel_rfl) (by kernel_rfl) (by kernel_rfl) (by kernel_rfl) (by kernel_rfl) (Or.inl ⟨by rfl, ?_⟩) hHeld ?_
      · intro wS hSw
        clear hSw hHeld
        go_simp
      (try simp only [Act.put, List.setIfInBounds_toArray, List.set_cons_zero, List.set_cons_succ])
      refine take_G (i := 18) (d := 48) (v := .slice lp l2.length ld) rfl rfl (by kernel_rfl) (by kernel_rfl) (by kernel_rfl) (by kernel_rfl) (by kernel_rfl) (Or.inl ⟨by rfl, ?_⟩) hHeld ?_
      · intro wS hSw
        clear hSw hHeld
        go_simp
      (try simp only [Act.put, List.setIfInBounds_toArray, List.set_cons_zero, List.set_cons_succ])
      refine take_G (i := 19) (d := 49) (v := .int .i64 (l2.length : Nat)) rfl rfl (by kernel_rfl) (by kernel_rfl) (by kernel_rfl) (by kernel_rfl) (by kernel_rfl) (Or.inl ⟨by rfl, ?_⟩) hHeld ?_
      · intro wS hSw
        clear hSw hHeld
        go_simp
      (try simp only [Act.put, List.setIfInBounds_toArray, List.set_cons_zero, List.set_cons_succ])
      refine step_G (i := 17) (by kernel_rfl) (fun K hK => ?_)
      refine wpOp_wantM rfl (by rfl) ?_
      unfold Oper.wp
      go_simp
      refine (unhide PD _ hHeld).mono ?_
      rintro e u5 ⟨rfl, kk⟩
      have V5 := hide ((unhide V4).trans kk)
      clear kk PD
      clear hHeld
      refine hK _ _ (fun _ => unhide V5) ?_
      clear hK K V4
      have hHeld := unhide V5
      (try simp only [Act.put, List.setIfInBounds_toArray, List.set_cons_zero, List.set_cons_succ])
      refine take_G (i := 20) (d := 50) (v := .bool true) rfl rfl (by kernel_rfl) (by kernel_rfl) (by kernel_rfl) (by kernel_rfl) (by kernel_rfl) (Or.inl ⟨by rfl, ?_⟩) hHeld ?_
      · intro wS hSw
        clear hSw hHeld
        go_simp
      (try simp only [Act.put, List.setIfInBounds_toArray, List.set_cons_zero, List.set_cons_succ])
      refine take_G (i := 21) (d := 51) (v := .bool true) rfl rfl (by kernel_rfl) (by kernel_rfl) (by kernel_rfl) (by kernel_rfl) (by kernel_rfl) (Or.inl ⟨by rfl, ?_⟩) hHeld ?_
      · intro wS hSw
        clear hSw hHeld
        go_simp
      (try simp only [Act.put, List.setIfInBounds_toArray, List.set_cons_zero, List.set_cons_succ])
      refine take_G (i := 22) (d := 52) (v := .bool true) rfl rfl (by kernel_rfl) (by kernel_rfl) (by kernel_rfl) (by kernel_rfl) (by kernel_rfl) (Or.inl ⟨by rfl, ?_⟩) hHeld ?_
      · intro wS hSw
        clear hSw hHeld
        go_simp
      (try simp only [Act.put, List.setIfInBounds_toArray, List.set_cons_zero, List.set_cons_succ])
      refine take_G (i := 23) (d := 53) (v := .slice lo l1.length lc) rfl rfl (by kernel_rfl) (by kernel_rfl) (by kernel_rfl) (by kernel_rfl) (by kernel_rfl) (Or.inl ⟨by rfl, ?_⟩) hHeld ?_
      · intro wS hSw
        clear hSw hHeld
        go_simp
      (try simp only [Act.put, List.setIfInBounds_toArray, List.set_cons_zero, List.set_cons_succ])
      refine take_G (i := 24) (d := 54) (v := .slice lp l2.length ld) rfl rfl (by kernel_rfl) (by kernel_rfl) (by kernel_rfl) (by kernel_rfl) (by kernel_rfl) (Or.inl ⟨by rfl, ?_⟩) hHeld ?_
      · intro wS hSw
        clear hSw hHeld
        go_simp
      (try simp only [Act.put, List.setIfInBounds_toArray, List.set_cons_zero, List.set_cons_succ])
      refine step_G (i := 25) (by kernel_rfl) (fun K hK => ?_)
      refine wpOp_wantM rfl (by rfl) ?_
      unfold Oper.wp
      go_simp
      refine (unhide SR _ hHeld).mono ?_
      rintro e u6 ⟨rfl, kk⟩
      have V6 := hide ((unhide V5).trans kk)
      clear kk SR
      clear hHeld
      refine hK _ _ (fun _ => unhide V6) ?_
      clear hK K V5
      have hHeld := unhide V6
      (try simp only [Act.put, List.setIfInBounds_toArray, List.set_cons_zero, List.set_cons_succ])
      refine take_G (i := 26) (d := 56) (v := .bool true) rfl rfl (by kernel_rfl) (by kernel_rfl) (by kernel_rfl) (by kernel_rfl) (by kernel_rfl) (Or.inl ⟨by rfl, ?_⟩) hHeld ?_
      · intro wS hSw
        clear hSw hHeld
        go_simp
      (try simp only [Act.put, List.setIfInBounds_toArray, List.set_cons_zero, List.set_cons_succ])
      refine step_G (i := 27) (by kernel_rfl) (fun K hK => ?_)
      refine wpOp_of rfl rfl ?_
      unfold Oper.wp
      go_simp
      refine hK _ _ (fun h => absurd rfl h) ?_
      clear hK K
      refine done_G (by kernel_rfl) ?_
      (try simp only [Act.put, List.setIfInBounds_toArray, List.set_cons_zero, List.set_cons_succ])
      clear hHeld
      refine noPanic_normalE ?_
      have LP : Hid (OvR w5.heap.size 0 (.slice lo l1.length lc) l1 w5 u6) := by
        obtain ⟨r1, r2, r3⟩ := unhide R1
        have k2 := (unhide R2).2.trans (unhide V6)
        exact ⟨r3.trans k2, r1.1.kp k2, fun i x _ hx => (r2 i x hx).imp id fun ⟨B, e1, e2, e3, e4⟩ => ⟨B, e1, e2, e3.kp k2, e4⟩⟩
      have HL : Hid (l1.length ≤ 30 ∧ ∀ (i : Nat) (x : RV), l1[i]? = some x → x.h.len ≤ 12) := ⟨(unhide RR).2.2.2, fun i x hx => by
        have hi := (List.getElem?_eq_some_iff.1 hx).1
        obtain ⟨x0, hx0⟩ : ∃ x0, (seenR n.X s n.rl)[i]? = some x0 := ⟨_, List.getElem?_eq_getElem (by have := (unhide R1).1.2.1; omega)⟩
        obtain ⟨p1, p2, rfl, _⟩ := (unhide R1).1.2.2 i _ x0 hx hx0
        obtain ⟨j, hj, hxj⟩ := seen_mem hx0
        have := (unhide S5).2.2.1.2.1.2.2.2.2.2.2.2.2.2 j hj
        rw [hxj] at this
        exact this⟩
      clear R1 R2 RR S6 K5 EL V6
      obtain ⟨nl, hnl⟩ : ∃ nl, l1.length = nl := ⟨_, rfl⟩
      rw [hnl] at LP HL ⊢
      have HN := hide hnl
      clear hnl
      go_wp2_with fail
      go_loopw [12] (fun i wr => ∃ k : Nat, k ≤ nl ∧ i = .int .i64 k ∧ Hid (OvR w5.heap.size k (.slice lo nl lc) l1 w5 wr)) (fun i _ => nl - (intOf i).toNat)
      case atStart => exact ⟨0, Nat.zero_le _, rfl, LP⟩
      case round =>
        obtain ⟨k, hk, rfl, HI⟩ := hrel
        clear LP
        by_cases hlt : k < nl
        · have i0 : (0 : Int) ≤ (k : Int) := Int.natCast_nonneg _
          have i1 : (k : Int) < (nl : Int) := Int.ofNat_lt.2 hlt
          have B1 : Hid (k + 1 ≤ nl ∧ nl ≤ 30) := ⟨hlt, (unhide HL).1⟩
          have n30 : nl ≤ 30 := (unhide HL).1
          have hkl : k < l1.length := by rw [unhide HN]; exact hlt
          obtain ⟨x, hx⟩ : ∃ x, l1[k]? = some x := ⟨_, List.getElem?_eq_getElem hkl⟩
          obtain ⟨lo', lc', e1, hM, _, _⟩ := (unhide HI).2.1.rvs
          rw [unhide HN] at e1 hM
          cases e1
          obtain ⟨bb, oo, rfl, _, c1, _⟩ := hM.at hlt
          rw [ixR_at hx] at c1
          have hx12 := (unhide HL).2 k x hx
          rcases (unhide HI).2.2 k x (Nat.le_refl _) hx with h0 | ⟨Bk, e2, h3, h4, h5⟩
          · have OI := hide ((kitOverI wr.heap.size x.h.ao x.h.len x.h.cap x.h.Z (Nat.le_trans hx12 (by decide)) wr (Or.inl h0)).mono fun e w' h => (⟨h.1, (unhide HI).skip ⟨h.2.1, h.2.2.1, fun q hq => h.2.2.2.1 q hq (Nat.ne_of_lt hq), h.2.2.2.2.2⟩⟩ : e = .returned (.tuple #[]) ∧ OvR w5.heap.size (k + 1) (.slice (some ⟨bb, oo, none⟩) nl lc) l1 w5 w'))
            clear hM HI hlt hkl hx h0
            go_wp2_with fail
            refine (unhide OI).mono ?_
            rintro e v1 ⟨rfl, h2⟩
            have H2 := hide h2
            clear h2 OI c1
            go_wp2
            go_roundw
            case rel => exact ⟨k + 1, (unhide B1).1, by go_num, H2⟩
            case measure => simp [intOf]; exact Nat.sub_lt_sub_left (unhide B1).1 (Nat.lt_succ_self k)
          · have OI := hide ((kitOverI Bk x.h.ao x.h.len x.h.cap x.h.Z (Nat.le_trans hx12 (by decide)) wr (Or.inr ⟨e2, h4⟩)).mono fun e w' h => (⟨h.1, (unhide HI).step (Nat.le_refl _) hx e2 h3 h4 h5 h.2⟩ : e = .returned (.tuple #[]) ∧ OvR w5.heap.size (k + 1) (.slice (some ⟨bb, oo, none⟩) nl lc) l1 w5 w'))
            clear hM HI hlt hkl hx e2 h3 h4 h5
            go_wp2_with fail
            refine (unhide OI).mono ?_
            rintro e v1 ⟨rfl, h2⟩
            have H2 := hide h2
            clear h2 OI c1
            go_wp2
            go_roundw
            case rel => exact ⟨k + 1, (unhide B1).1, by go_num, H2⟩
            case measure => simp [intOf]; exact Nat.sub_lt_sub_left (unhide B1).1 (Nat.lt_succ_self k)
        · obtain rfl : k = nl := by omega
          have S7 := hide ((unhide S5).kp (unhide HI).1)
          clear HI S5 HL HN hlt hk
          obtain ⟨n0, n1, n2, n3, n4, n5, n6⟩ := (unhide S7).2.1.2.2.1.cellsD
          obtain ⟨m0, m1, m2, m3, m4, m5, m6⟩ := (unhide S7).2.1.1.cellsD
          go_wp2_with fail
          refine (kitSameD m n _ (unhide S7).2.2.1.1 (unhide S7).2.2.1.2.1 (unhide S7).2.2.2.1).mono ?_
          rintro e v2 ⟨rfl, kk⟩
          have S8 := hide ((unhide S7).kp kk)
          clear kk S7 n0 n1 n2 n3 n4 n5 n6 m0 m1 m2 m3 m4 m5 m6
          obtain ⟨c0, c1, c2, c3, c4, c5⟩ := (unhide S8).2.1.2.2.2.cellsB
          obtain ⟨b0, b1, b2, b3, b4, b5⟩ := (unhide S8).2.1.2.1.cellsB
          go_wp2_with fail
          refine (kitSameB b c _ (unhide S8).2.2.1.2.2.1 (unhide S8).2.2.1.2.2.2 (unhide S8).2.2.2.2).mono ?_
          rintro e v3 ⟨rfl, kk⟩
          have S9 := hide ((unhide S8).kp kk)
          clear kk S8 c0 c1 c2 c3 c4 c5 b0 b1 b2 b3 b4 b5
          go_wp2_with fail
          refine (lawAwakeMdl _).mono ?_
          rintro e v4 ⟨rfl, kk⟩
          have KE := hide ((unhide S9).1.trans kk)
          clear kk S9
          go_wp2
          go_ret
          exact ⟨rfl, unhide KE⟩

end Go.Proofs.Ytpanfppnkgokdaa

/- The statement ModelTells holds for every input: the law returns true, and its arguments read afterwards as before. No condition. -/
namespace Go.Proofs.Ytpanfppnkgokdaa.modelTells
open Go.ChangeShapes Go.WideShapes Go.ChangeAt Go.RowKit Go.Joins Go.Proofs.Wd
set_option linter.unusedVariables false
set_option linter.unusedSimpArgs false
set_option maxRecDepth 10000

theorem own : ownKnob Try.prog.godebug = none := by kernel_rfl

set_option maxRecDepth 100000 in
theorem lifted (os : Os) (started : os.Started) (H : Type) (enc : TypeId × Value → H) :
    ReturnsInHanded {} Try.checked os 3 .any (Rows.modelTellsSpec.pre6 enc Try.prog Try.f3 Rows.modelTellsRow.domain false) (Rows.modelTellsSpec.post enc Try.prog Try.f3 false true false false) := by
  refine returnsInHanded_of_change (C := Try.checked) own started (by kernel_rfl) Try.func3
    (ChangeSpec.witness6 (enc := enc) (C := Try.checked) false ⟨#[], #[.agg #[.int .i64 0, .slice none 0 0, .slice none 0 0, .int .i64 0, .int .i64 0, .int .i64 0, .slice none 0 0], .agg #[.int .i64 0, .slice none 0 0, .slice none 0 0, .bool false, .int .i64 0, .int .i64 0], .int .i64 0], []⟩ 8 (by kernel_rfl) (by kernel_rfl) (by kernel_rfl) (by kernel_rfl)) ?_
  intro W base args ds gs before hval0 hW hcnd _
  have hval : ∀ (j : Nat) t v, Try.f3.params[j]? = some t → args[j]? = some v → Value.okWide Try.prog W .any base t v := hval0
  have hW' := hW
  obtain ⟨p, q, hA0, hV, rfl, hfz, hnd⟩ := hW
  have hA : DataW.TrodAll enc Try.prog W 0 (fun _ => true) true Try.f3.params.toList args.toList ds p := hA0
  rw [Try.params3] at hA hval
  obtain ⟨v0, vs0, d0, ds0, p0, q0, hargs, rfl, rfl, h0, r0⟩ := trodAll_cons hA
  obtain ⟨v1, vs1, d1, ds1, p1, q1, rfl, rfl, rfl, h1, r1⟩ := trodAll_cons r0
  obtain ⟨v2, vs2, d2, ds2, p2, q2, rfl, rfl, rfl, h2, r2⟩ := trodAll_cons r1
  obtain ⟨rfl, rfl, rfl⟩ := trodAll_nil r2
  obtain rfl : args = #[v0, v1, v2] := by cases args; simp_all
  obtain ⟨rfl, rfl⟩ := trodVars_none hV
  have hlt := hW'.lt
  have k0 := h0
  obtain ⟨fuel0, t0⟩ := h0
  obtain ⟨cs0, rfl, _⟩ := okWide_struct Try.underlying25 (hval 0 25 v0 rfl rfl)
  obtain ⟨x0, e0, ok0⟩ := open_model t0
  obtain rfl : cs0 = x0.cells := Array.ext' (by simpa [Value.cells] using e0)
  have k1 := h1
  obtain ⟨fuel1, t1⟩ := h1
  obtain ⟨cs1, rfl, _⟩ := okWide_struct Try.underlying27 (hval 1 27 v1 rfl rfl)
  obtain ⟨x1, e1, ok1⟩ := open_belief t1
  obtain rfl : cs1 = x1.cells := Array.ext' (by simpa [Value.cells] using e1)
  obtain ⟨a2, rfl, rfl, rfl, wa2⟩ := open_int Try.underlying3 (hval 2 3 v2 rfl rfl) h2
  clear hA0 hval0
  refine (lawModelTells x0 x1 a2 (i64_wf wa2) W ok0 ok1).mono fun e W' ⟨he, hg⟩ => ?_
  subst he
  exact ⟨_, rfl, post_of_kp (pa := p0 ++ (p1 ++ ([] ++ ([])))) (pv := []) hW' (fun _ => (trodAll_cons_mk (shut_bool Try.underlying4 _) trodAll_mk0)) (trodAll_cons_mk (WideElems.Trod_stays laid (by kernel_rfl) (of_decide_eq_true (by kernel_rfl)) k0 (fun x hx => hg.same (hlt x (by simp [hx]))) (fun x hx => by simpa using hlt x (by simp [hx]))) (trodAll_cons_mk (WideElems.Trod_stays laid (by kernel_rfl) (of_decide_eq_true (by kernel_rfl)) k1 (fun x hx => hg.same (hlt x (by simp [hx]))) (fun x hx => by simpa using hlt x (by simp [hx]))) (trodAll_cons_mk (shut_int Try.underlying3 wa2) trodAll_mk0))) rfl hg⟩

end Go.Proofs.Ytpanfppnkgokdaa.modelTells
namespace Go.Proofs.Ytpanfppnkgokdaa
theorem modelTells_holds : Rows.ModelTellsSaid :=
  OpenClaim.holds_of_wide 3 Try.f3 rfl rfl rfl rfl rfl rfl rfl ⟨rfl, rfl, rfl, rfl, rfl⟩ rfl rfl rfl rfl rfl (by kernel_rfl) Try.func3 (by kernel_rfl)
    (of_decide_eq_true (by kernel_rfl)) (by unfold Func.isWrapper; first | (rw [if_pos (by decide +kernel)]; kernel_rfl) | (rw [if_neg (by decide +kernel)]; exact ⟨rfl, rfl⟩))
    (fun os started H enc _ => modelTells.lifted os started H enc)
#print axioms modelTells_holds
end Go.Proofs.Ytpanfppnkgokdaa
