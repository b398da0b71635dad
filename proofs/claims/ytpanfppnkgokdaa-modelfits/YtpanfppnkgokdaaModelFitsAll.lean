/- MdlX MdlFt ModelFitsLaw, one after another. -/
import Derived.Test.YtpanfppnkgokdaaMdlProg
import Derived.Test.YtpanfppnkgokdaaMdlDoc
import Derived.Test.YtpanfppnkgokdaaMdlBase
import Derived.BigQuiet
import Derived.Test.YtpanfppnkgokdaaRows
import Derived.ProofKit
import Derived.OpenShut
import Derived.Lib.SmallJoins
/- A law over a model and a belief that are handed in: what is known, and copies. -/
namespace Go.Proofs.Ytpanfppnkgokdaa
open Go.RowKit Go.Shelf Go.Proofs.Wd
set_option linter.unusedVariables false
set_option linter.unusedSimpArgs false
set_option maxRecDepth 10000

theorem LV.okIn.good {x : LV} {W : World} (h : x.okIn W) : x.good W := ⟨h.row, ⟨h.le, h.nil⟩, h.nums⟩
theorem DV.okIn.good {m : DV} {W : World} (h : m.okIn W) (s : smallM m) : m.good W :=
  ⟨h.A.good, h.Q.good, h.rvs, fun i hi => ⟨(h.each i hi).h.good, (h.each i hi).s, (h.each i hi).r⟩, ⟨h.le, h.nil⟩, ⟨h.N, h.tick, h.gate, h.rmin⟩, s.1, s.2.1, s.2.2.1, s.2.2.2⟩
theorem BV.okIn.good {b : BV} {W : World} (h : b.okIn W) (s : smallB b) : b.good W := ⟨h.x.good, h.p.good, ⟨h.at', h.pass, h.fail⟩, by have := s.1; omega, s.2⟩
/-- Which blocks a model's lists lie in. -/
theorem lv_dep {x : LV} {w w' : World} (h : x.good w') (off : ∀ U, U < w.heap.size → Off U x.len x.ao) : ∃ Bs : List Nat, (∀ k ∈ Bs, w.heap.size ≤ k ∧ k < w'.heap.size) ∧ Dep Bs x.good := by
  obtain ⟨Bs, h1, h2⟩ := row_dep h.1 off
  exact ⟨Bs, h1, fun w1 w2 he hg => ⟨h2 w1 w2 he hg.1, hg.2⟩⟩
theorem rvs_dep {ro : Option Addr} {n : Nat} {X : Nat → RV} {w w' : World} (h : RVs w' ro n X) (off : ∀ U, U < w.heap.size → Off U n ro) : ∃ Bs : List Nat, (∀ k ∈ Bs, w.heap.size ≤ k ∧ k < w'.heap.size) ∧ Dep Bs (fun wx => RVs wx ro n X) := by
  by_cases hn : n = 0
  · exact ⟨[], fun _ h => absurd h List.not_mem_nil, fun _ _ _ _ => Or.inl hn⟩
  · rcases h with h0 | ⟨b, o, rfl, hc⟩
    · exact absurd h0 hn
    · have lt : b < w'.heap.size := by
        have := hc 0 (by omega) 0 (by omega)
        exact heap_gt (v := .int .i64 (X 0).s) this
      refine ⟨[b], fun k hk => ?_, fun w1 w2 he h => ?_⟩
      · rcases List.mem_singleton.1 hk with rfl
        exact ⟨Nat.le_of_not_lt fun hlt => off k hlt (by omega) _ rfl rfl, lt⟩
      · rcases h with h0 | ⟨b', o', e, hc'⟩
        · exact absurd h0 hn
        · cases e
          exact Or.inr ⟨b, o, rfl, fun i hi j hj => (World.cell?_of_block (he b (by simp))).trans (hc' i hi j hj)⟩
theorem each_dep {X : Nat → RV} {w w' : World} : ∀ n : Nat, (∀ i, i < n → (X i).h.good w' ∧ I64 (X i).s ∧ I64 (X i).r) → (∀ U, U < w.heap.size → ∀ i, i < n → Off U (X i).h.len (X i).h.ao) → ∃ Bs : List Nat, (∀ k ∈ Bs, w.heap.size ≤ k ∧ k < w'.heap.size) ∧ Dep Bs (fun wx => ∀ i, i < n → (X i).h.good wx ∧ I64 (X i).s ∧ I64 (X i).r)
  | 0, _, _ => ⟨[], fun _ h => absurd h List.not_mem_nil, fun _ _ _ _ i hi => absurd hi (Nat.not_lt_zero _)⟩
  | n + 1, h, off => by
    obtain ⟨A, a1, a2⟩ := each_dep n (fun i hi => h i (by omega)) (fun U hU i hi => off U hU i (by omega))
    obtain ⟨C, c1, c2⟩ := lv_dep (w := w) (h n (by omega)).1 (fun U hU => off U hU n (by omega))
    refine ⟨A ++ C, fun k hk => (List.mem_append.1 hk).elim (a1 k) (c1 k), fun w1 w2 he hg i hi => ?_⟩
    rcases Nat.lt_or_ge i n with h1 | h1
    · exact a2 w1 w2 (fun k hk => he k (List.mem_append_left _ hk)) (fun i hi => hg i (by omega)) i h1
    · obtain rfl : i = n := by omega
      exact ⟨c2 w1 w2 (fun k hk => he k (List.mem_append_right _ hk)) (hg i hi).1, (hg i hi).2⟩
theorem good_dep {m : DV} {w w' : World} (h : m.good w') (off : ∀ U, U < w.heap.size → Off U m.A.len m.A.ao ∧ Off U m.Q.len m.Q.ao ∧ Off U m.rl m.ro ∧ ∀ i, i < m.rl → Off U (m.X i).h.len (m.X i).h.ao) : ∃ Bs : List Nat, (∀ k ∈ Bs, w.heap.size ≤ k ∧ k < w'.heap.size) ∧ Dep Bs m.good := by
  obtain ⟨A, a1, a2⟩ := lv_dep (w := w) h.1 (fun U hU => (off U hU).1)
  obtain ⟨B, b1, b2⟩ := lv_dep (w := w) h.2.1 (fun U hU => (off U hU).2.1)
  obtain ⟨C, c1, c2⟩ := rvs_dep (w := w) h.2.2.1 (fun U hU => (off U hU).2.2.1)
  obtain ⟨D, d1, d2⟩ := each_dep (w := w) m.rl h.2.2.2.1 (fun U hU => (off U hU).2.2.2)
  refine ⟨A ++ (B ++ (C ++ D)), fun k hk => (List.mem_append.1 hk).elim (a1 k) (fun hk => (List.mem_append.1 hk).elim (b1 k) (fun hk => (List.mem_append.1 hk).elim (c1 k) (d1 k))), fun w1 w2 he hg => ⟨a2 w1 w2 (fun k hk => he k (by simp [hk])) hg.1, b2 w1 w2 (fun k hk => he k (by simp [hk])) hg.2.1, c2 w1 w2 (fun k hk => he k (by simp [hk])) hg.2.2.1, d2 w1 w2 (fun k hk => he k (by simp [hk])) hg.2.2.2.1, hg.2.2.2.2⟩⟩
/-- A copy of a model. -/
def GD (m : DV) (v : Value) (w : World) : Prop := ∃ m' : DV, v = .agg m'.cells ∧ m'.good w ∧ simD m m'
theorem gd_dep {m : DV} {w w' : World} {e : Ending} (h : CopyDP m w e w') : ∃ v Bs F, e = .returned v ∧ Kp w w' ∧ (∀ k ∈ Bs, w.heap.size ≤ k ∧ k < w'.heap.size) ∧ Dep Bs F ∧ F w' ∧ ∀ wx, F wx → GD m v wx := by
  obtain ⟨m', rfl, h1, h2, h3, h4⟩ := h
  obtain ⟨Bs, b1, b2⟩ := good_dep h1 h3
  exact ⟨_, Bs, m'.good, rfl, h4, b1, b2, h1, fun wx hg => ⟨m', rfl, hg, h2⟩⟩
end Go.Proofs.Ytpanfppnkgokdaa

/- ModelFits. -/
namespace Go.Proofs.Ytpanfppnkgokdaa
open Go.RowKit Go.Shelf Go.Proofs Go.Proofs.Wd
set_option linter.unusedVariables false
set_option linter.unusedSimpArgs false
set_option maxRecDepth 10000

theorem slice_tail (b len cap : Nat) (hl : 1 ≤ len) (w : World) : (Instr.sliceAt 22 (.slice (some ⟨b, 0, none⟩) len cap) (some (.int .i64 1)) none none).run Try.prog w = .ok (.slice (some ⟨b, if cap = 1 then 0 else 1, none⟩) (len - 1) (cap - 1)) w := by
  have e : Try.prog.underlying 22 = some (.slice (Try.prog.elem 22)) := by kernel_rfl
  have s1 : (sizeOf (Try.prog.elem 22)).run Try.prog w = .ok 1 w := by kernel_rfl
  rw [run_sliceAt_slice w 22 _ _ _ _ e, run_slice_l w 22 _ len cap e .i64 1 (by omega) (by omega), s1]
  show Result.ok (sliced _ (1 : Int).toNat len cap 1) w = _
  unfold sliced
  by_cases h : cap = 1
  · rw [if_pos h, if_pos (show cap = (1 : Int).toNat from h)]
    rfl
  · rw [if_neg h, if_neg (show ¬ cap = (1 : Int).toNat from h)]
    rfl
theorem slice_tailT {t cap : Nat} (ht : t = if cap = 1 then 0 else 1) (b len : Nat) (hl : 1 ≤ len) (w : World) : (Instr.sliceAt 22 (.slice (some ⟨b, 0, none⟩) len cap) (some (.int .i64 1)) none none).run Try.prog w = .ok (.slice (some ⟨b, t, none⟩) (len - 1) (cap - 1)) w := by
  rw [ht]
  exact slice_tail b len cap hl w
/-- A copied belief's cells. -/
def bcC (b : BV) (a : Nat) (n p q l r : Nat) : Array Value := #[.int .i64 b.at', .slice (some ⟨a, 0, none⟩) n p, .slice (some ⟨q, 0, none⟩) l r, .bool b.flag, .int .i64 b.pass, .int .i64 b.fail]
theorem OwL.same {H g n c : Nat} {Z : Nat → Int} {W W' : World} (h : OwL H (some ⟨g, 0, none⟩) n c Z W) (e : W'.heap[g]? = W.heap[g]?) : OwL H (some ⟨g, 0, none⟩) n c Z W' := h.blk fun g' cs eg _ hb => by cases eg; exact e.trans hb
theorem OwL.ltH {H g n c : Nat} {Z : Nat → Int} {W : World} (h : OwL H (some ⟨g, 0, none⟩) n c Z W) : H ≤ g ∧ g < W.heap.size := by
  rcases h.parts.2.2.2 with ⟨e, _⟩ | ⟨g', e, h1, h2⟩
  · cases e
  · cases e; exact ⟨h1, h2⟩
theorem OwL.neB {H g n c A : Nat} {Z : Nat → Int} {W : World} {cs : Array Value} (h : OwL H (some ⟨g, 0, none⟩) n c Z W) (k : Blk A cs 27 W) : g ≠ A := fun e => by
  subst e
  rcases h.2 with ⟨e, _⟩ | ⟨g', c', cur, e, _, hb, _⟩
  · cases e
  · cases e
    rw [show W.heap[g]? = _ from k] at hb
    cases hb
/-- The law's state: the model, the belief, three copies in boxes. -/
structure FtS (w W4 : World) (m : DV) (b : BV) (H Mx A8 A9 A10 : Nat) (c8 c9 c10 : Array Value) (W : World) : Prop where
  k : Kp w W4
  k4 : Kp W4 W
  bm : Blk Mx m.cells 25 W
  bb : Blk (Mx + 1) b.cells 27 W
  b8 : Blk A8 c8 27 W
  b9 : Blk A9 c9 27 W
  b10 : Blk A10 c10 27 W
  gm : m.good W4
  gb : b.good W4
  hH : H = W4.heap.size
  lo : Mx + 1 < H ∧ H ≤ A8 ∧ H ≤ A9 ∧ H ≤ A10 ∧ A8 ≠ A9 ∧ A8 ≠ A10 ∧ A9 ≠ A10
theorem FtS.kp {w W4 : World} {m : DV} {b : BV} {H Mx A8 A9 A10 : Nat} {c8 c9 c10 : Array Value} {W W' : World} (h : FtS w W4 m b H Mx A8 A9 A10 c8 c9 c10 W) (k : Kp W W') : FtS w W4 m b H Mx A8 A9 A10 c8 c9 c10 W' :=
  ⟨h.k, h.k4.trans k, Blk.kp h.bm k, Blk.kp h.bb k, Blk.kp h.b8 k, Blk.kp h.b9 k, Blk.kp h.b10 k, h.gm, h.gb, h.hH, h.lo⟩
/-- The six lists of three copies. -/
def FtO (b : BV) (H x8 y8 x9 y9 x10 y10 n8 p8 r8 p9 r9 p10 r10 : Nat) (X8 P10 : Nat → Int) (W : World) : Prop := OwL H (some ⟨x8, 0, none⟩) n8 p8 X8 W ∧ OwL H (some ⟨y8, 0, none⟩) b.p.len r8 b.p.Z W ∧ OwL H (some ⟨x9, 0, none⟩) b.x.len p9 b.x.Z W ∧ OwL H (some ⟨y9, 0, none⟩) b.p.len r9 b.p.Z W ∧ OwL H (some ⟨x10, 0, none⟩) b.x.len p10 b.x.Z W ∧ OwL H (some ⟨y10, 0, none⟩) b.p.len r10 P10 W
theorem FtO.same {b : BV} {H x8 y8 x9 y9 x10 y10 n8 p8 r8 p9 r9 p10 r10 : Nat} {X8 P10 : Nat → Int} {W W' : World} (h : FtO b H x8 y8 x9 y9 x10 y10 n8 p8 r8 p9 r9 p10 r10 X8 P10 W) (s : ∀ q n c Z, OwL H (some ⟨q, 0, none⟩) n c Z W → W'.heap[q]? = W.heap[q]?) : FtO b H x8 y8 x9 y9 x10 y10 n8 p8 r8 p9 r9 p10 r10 X8 P10 W' :=
  ⟨h.1.same (s _ _ _ _ h.1), h.2.1.same (s _ _ _ _ h.2.1), h.2.2.1.same (s _ _ _ _ h.2.2.1), h.2.2.2.1.same (s _ _ _ _ h.2.2.2.1), h.2.2.2.2.1.same (s _ _ _ _ h.2.2.2.2.1), h.2.2.2.2.2.same (s _ _ _ _ h.2.2.2.2.2)⟩
theorem FtO.kp {b : BV} {H x8 y8 x9 y9 x10 y10 n8 p8 r8 p9 r9 p10 r10 : Nat} {X8 P10 : Nat → Int} {W W' : World} (h : FtO b H x8 y8 x9 y9 x10 y10 n8 p8 r8 p9 r9 p10 r10 X8 P10 W) (k : Kp W W') : FtO b H x8 y8 x9 y9 x10 y10 n8 p8 r8 p9 r9 p10 r10 X8 P10 W' := h.same fun q _ _ _ o => k.2.2.1 q o.ltH.2
def app1 (n : Nat) (Z : Nat → Int) : Nat → Int := fun i => if i < n then Z i else 0
theorem app1_map (n : Nat) (Z : Nat → Int) : ((List.range n).map fun i => Value.int .i64 (Z i)) ++ [.int .i64 0] = (List.range (n + 1)).map fun i => Value.int .i64 (app1 n Z i) := by
  rw [List.range_succ, List.map_append]
  congr 1
  · refine List.map_congr_left fun i hi => ?_
    unfold app1
    rw [if_pos (List.mem_range.1 hi)]
  · show _ = [Value.int .i64 (app1 n Z n)]
    unfold app1
    rw [if_neg (Nat.lt_irrefl n)]
theorem FtS.mod {w W4 : World} {m : DV} {b : BV} {H Mx A8 A9 A10 g : Nat} {c8 c9 c10 : Array Value} {W W' : World} (h : FtS w W4 m b H Mx A8 A9 A10 c8 c9 c10 W) (md : Mod g W W') (hg : H ≤ g) (n8 : A8 ≠ g) (n9 : A9 ≠ g) (n10 : A10 ≠ g) : FtS w W4 m b H Mx A8 A9 A10 c8 c9 c10 W' :=
  ⟨h.k, h.k4.mod md (by rw [← h.hH]; exact hg), Blk.keep h.bm md (by have := h.lo.1; omega), Blk.keep h.bb md (by have := h.lo.1; omega), Blk.keep h.b8 md n8, Blk.keep h.b9 md n9, Blk.keep h.b10 md n10, h.gm, h.gb, h.hH, h.lo⟩
/-- A number is appended to the first copy's list. -/
theorem ft_app {w W4 : World} {m : DV} {b : BV} {H Mx A8 A9 A10 : Nat} {c8 c9 c10 : Array Value} {W w6 : World} {x8 y8 x9 y9 x10 y10 p8 r8 p9 r9 p10 r10 : Nat} {P10 : Nat → Int} {v' : Value} (S : FtS w W4 m b H Mx A8 A9 A10 c8 c9 c10 W) (O : FtO b H x8 y8 x9 y9 x10 y10 b.x.len p8 r8 p9 r9 p10 r10 b.x.Z P10 W) (hc : c8 = bcC b x8 b.x.len p8 y8 b.p.len r8) (ne : x8 ≠ y8 ∧ x8 ≠ x9 ∧ x8 ≠ y9 ∧ x8 ≠ x10 ∧ x8 ≠ y10)
    (hown : w6.ownsRow H 3 1 v' (b.x.len + 1) (((List.range b.x.len).map fun i => Value.int .i64 (b.x.Z i)) ++ [.int .i64 0])) (hg : (W.alloc (.cells #[.int .i64 0] 3)).grownBy w6 (some x8)) (hwh : v'.ownBlock = some x8 ∨ ∃ g, v'.ownBlock = some g ∧ (W.alloc (.cells #[.int .i64 0] 3)).heap.size ≤ g) :
    ∃ g c, v' = .slice (some ⟨g, 0, none⟩) (b.x.len + 1) c ∧ Blk A8 c8 27 w6 ∧ A8 ≠ A9 ∧ FtS w W4 m b H Mx A8 A9 A10 (bcC b g (b.x.len + 1) c y8 b.p.len r8) c9 c10 (w6.setCell ⟨A8, 1, none⟩ (.slice (some ⟨g, 0, none⟩) (b.x.len + 1) c)) ∧ FtO b H g y8 x9 y9 x10 y10 (b.x.len + 1) c r8 p9 r9 p10 r10 (app1 b.x.len b.x.Z) P10 (w6.setCell ⟨A8, 1, none⟩ (.slice (some ⟨g, 0, none⟩) (b.x.len + 1) c)) ∧ y10 ≠ g := by
  obtain ⟨g, c, rfl⟩ := ownsRow_succ hown
  rw [app1_map] at hown
  have ga : Grown W (W.alloc (.cells #[.int .i64 0] 3)) := (Grown.refl _).alloc _ _
  have sz : (W.alloc (.cells #[.int .i64 0] 3)).heap.size = W.heap.size + 1 := by simp
  have keep : ∀ {A : Nat} {cs : Array Value} {T : TypeId}, Blk A cs T W → A ≠ x8 → Blk A cs T w6 := fun hb hn => Blk.by (Blk.grown hb ga) hg (fun e => hn (by cases e; rfl))
  have l8 := O.1.ltH
  have n8 : A8 ≠ x8 := (O.1.neB S.b8).symm
  have n9 : A9 ≠ x8 := (O.1.neB S.b9).symm
  have n10 : A10 ≠ x8 := (O.1.neB S.b10).symm
  have b8 := keep S.b8 n8
  have md : Mod A8 w6 (w6.setCell ⟨A8, 1, none⟩ (.slice (some ⟨g, 0, none⟩) (b.x.len + 1) c)) := (Mod.refl _ _).setCell _ _
  have k6 : Kp W4 w6 := ((S.k4.grown ga).by hg (fun k e => by cases e; rw [← S.hH]; exact l8.1))
  have S6 : FtS w W4 m b H Mx A8 A9 A10 c8 c9 c10 w6 := ⟨S.k, k6, keep S.bm (by have := S.lo.1; omega), keep S.bb (by have := S.lo.1; omega), b8, keep S.b9 n9, keep S.b10 n10, S.gm, S.gb, S.hH, S.lo⟩
  have ho : OwL H (some ⟨g, 0, none⟩) (b.x.len + 1) c (app1 b.x.len b.x.Z) w6 := hown
  have sm : ∀ q n c' Z, OwL H (some ⟨q, 0, none⟩) n c' Z W → q ≠ x8 → w6.heap[q]? = W.heap[q]? := fun q n c' Z o hn => by
    rw [hg.block q (by have := o.ltH.2; omega) (fun e => hn (by cases e; rfl))]
    exact gblock ga o.ltH.2
  have gx : g = x8 ∨ W.heap.size < g := by
    rcases hwh with e | ⟨g', e, h⟩
    · cases e; exact Or.inl rfl
    · cases e; right; exact Nat.lt_of_lt_of_le (Nat.lt_succ_self _) (by rw [sz] at h; exact h)
  have O6 : FtO b H g y8 x9 y9 x10 y10 (b.x.len + 1) c r8 p9 r9 p10 r10 (app1 b.x.len b.x.Z) P10 w6 := ⟨ho, O.2.1.same (sm _ _ _ _ O.2.1 ne.1.symm), O.2.2.1.same (sm _ _ _ _ O.2.2.1 ne.2.1.symm), O.2.2.2.1.same (sm _ _ _ _ O.2.2.2.1 ne.2.2.1.symm), O.2.2.2.2.1.same (sm _ _ _ _ O.2.2.2.2.1 ne.2.2.2.1.symm), O.2.2.2.2.2.same (sm _ _ _ _ O.2.2.2.2.2 ne.2.2.2.2.symm)⟩
  refine ⟨g, c, rfl, b8, S.lo.2.2.2.2.1, ⟨S.k, k6.mod md (by rw [← S.hH]; exact S.lo.2.1), Blk.keep S6.bm md (by have := S.lo; omega), Blk.keep S6.bb md (by have := S.lo; omega), ?_, Blk.keep S6.b9 md S.lo.2.2.2.2.1.symm, Blk.keep S6.b10 md S.lo.2.2.2.2.2.1.symm, S.gm, S.gb, S.hH, S.lo⟩, O6.same (fun q _ _ _ o => md.2.2.1 q o.ltH.2 (o.neB b8)), ?_⟩
  · have := Blk.set b8 1 (.slice (some ⟨g, 0, none⟩) (b.x.len + 1) c)
    rw [hc] at this
    exact this
  · rcases gx with rfl | h
    · exact ne.2.2.2.2.symm
    · have := O.2.2.2.2.2.ltH.2; omega
/-- The second copy's list is cut. -/
theorem ft_cut {w W4 : World} {m : DV} {b : BV} {H Mx A8 A9 A10 : Nat} {c8 c9 c10 : Array Value} {W : World} {x8 y8 x9 y9 x10 y10 n8 p8 r8 p9 r9 p10 r10 : Nat} {X8 P10 : Nat → Int} {v : Value} (S : FtS w W4 m b H Mx A8 A9 A10 c8 c9 c10 W) (O : FtO b H x8 y8 x9 y9 x10 y10 n8 p8 r8 p9 r9 p10 r10 X8 P10 W) :
    FtS w W4 m b H Mx A8 A9 A10 c8 (c9.setIfInBounds 2 v) c10 (W.setCell ⟨A9, 2, none⟩ v) ∧ FtO b H x8 y8 x9 y9 x10 y10 n8 p8 r8 p9 r9 p10 r10 X8 P10 (W.setCell ⟨A9, 2, none⟩ v) := by
  have md : Mod A9 W (W.setCell ⟨A9, 2, none⟩ v) := (Mod.refl _ _).setCell _ _
  exact ⟨⟨S.k, S.k4.mod md (by rw [← S.hH]; exact S.lo.2.2.1), Blk.keep S.bm md (by have := S.lo; omega), Blk.keep S.bb md (by have := S.lo; omega), Blk.keep S.b8 md S.lo.2.2.2.2.1, Blk.set S.b9 2 v, Blk.keep S.b10 md S.lo.2.2.2.2.2.2.symm, S.gm, S.gb, S.hH, S.lo⟩, O.same (fun q _ _ _ o => md.2.2.1 q o.ltH.2 (o.neB S.b9))⟩
def upd1 (Z : Nat → Int) (k : Nat) (v : Int) : Nat → Int := fun i => if i = k then v else Z i
theorem upd1_map (n k : Nat) (Z : Nat → Int) (v : Int) : ((List.range n).map fun i => Value.int .i64 (Z i)).set k (.int .i64 v) = (List.range n).map fun i => Value.int .i64 (upd1 Z k v i) := by
  refine List.ext_getElem? fun q => ?_
  rw [List.getElem?_set]
  by_cases hq : q < n
  · rw [List.getElem?_map, List.getElem?_map, List.getElem?_range hq]
    by_cases e : k = q
    · subst e
      rw [if_pos rfl, if_pos (by simpa using hq)]
      simp [upd1]
    · rw [if_neg e]
      simp [upd1, Ne.symm e]
  · rw [List.getElem?_map, List.getElem?_map, List.getElem?_eq_none (l := List.range n) (by simpa using hq)]
    by_cases e : k = q
    · subst e
      rw [if_pos rfl, if_neg (by simpa using hq)]; rfl
    · rw [if_neg e]; rfl
/-- A number of the third copy's list is set. -/
theorem ft_put {w W4 : World} {m : DV} {b : BV} {H Mx A8 A9 A10 : Nat} {c8 c9 c10 : Array Value} {W : World} {x8 y8 x9 y9 x10 y10 n8 p8 r8 p9 r9 p10 r10 k : Nat} {X8 P10 : Nat → Int} {v : Int} (S : FtS w W4 m b H Mx A8 A9 A10 c8 c9 c10 W) (O : FtO b H x8 y8 x9 y9 x10 y10 n8 p8 r8 p9 r9 p10 r10 X8 P10 W) (ne : y10 ≠ x8 ∧ y10 ≠ y8 ∧ y10 ≠ x9 ∧ y10 ≠ y9 ∧ y10 ≠ x10) :
    FtS w W4 m b H Mx A8 A9 A10 c8 c9 c10 (W.setCell ⟨y10, k, none⟩ (.int .i64 v)) ∧ FtO b H x8 y8 x9 y9 x10 y10 n8 p8 r8 p9 r9 p10 r10 X8 (upd1 P10 k v) (W.setCell ⟨y10, k, none⟩ (.int .i64 v)) := by
  have md : Mod y10 W (W.setCell ⟨y10, k, none⟩ (.int .i64 v)) := (Mod.refl _ _).setCell _ _
  obtain ⟨h1, h2, h3, h4, h5, h6⟩ := O
  have st := (World.ownsRow.stored h6 k (.int .i64 v)).1
  rw [upd1_map] at st
  exact ⟨S.mod md h6.ltH.1 (h6.neB S.b8).symm (h6.neB S.b9).symm (h6.neB S.b10).symm, h1.same (md.2.2.1 _ h1.ltH.2 ne.1.symm), h2.same (md.2.2.1 _ h2.ltH.2 ne.2.1.symm), h3.same (md.2.2.1 _ h3.ltH.2 ne.2.2.1.symm), h4.same (md.2.2.1 _ h4.ltH.2 ne.2.2.2.1.symm), h5.same (md.2.2.1 _ h5.ltH.2 ne.2.2.2.2.symm), st⟩
/-- Which of the three fit. -/
theorem fit_long {m : DV} {b c : BV} (h : okD m ∧ sizeB m b ∧ spanB b ∧ formB m.N.toNat b.x.Z b.p.Z) (e : c.x.len = b.x.len + 1) : fitD m c = 3 := by
  unfold fitD
  rw [if_pos h.1, if_neg]
  rintro ⟨h1, _⟩
  have := h.2.1.1
  omega
theorem fit_short {m : DV} {b c : BV} (h : okD m ∧ sizeB m b ∧ spanB b ∧ formB m.N.toNat b.x.Z b.p.Z) (hp : 1 ≤ b.p.len) (e : c.p.len = b.p.len - 1) : fitD m c = 3 := by
  unfold fitD
  rw [if_pos h.1, if_neg]
  rintro ⟨_, h1⟩
  have := h.2.1.2
  omega
theorem fit_odd {m : DV} {b c : BV} {n k : Nat} {V : Int} (h : okD m ∧ sizeB m b ∧ spanB b ∧ formB m.N.toNat b.x.Z b.p.Z) (eN : m.N = n) (hk : k < n * n) (hV : V ≠ b.p.Z k ∧ (k / n = k % n → 0 ≤ V)) (ex : c.x.len = b.x.len ∧ c.x.Z = b.x.Z) (ep : c.p.len = b.p.len ∧ c.p.Z = upd1 b.p.Z k V) (es : c.at' = b.at' ∧ c.pass = b.pass ∧ c.fail = b.fail) :
    (k / n = k % n → fitD m c = 0) ∧ (k / n ≠ k % n → fitD m c = 5) := by
  have hq : k / n < n := Nat.div_lt_of_lt_mul hk
  have hr : k % n < n := Nat.mod_lt _ (Nat.lt_of_le_of_lt (Nat.zero_le _) hq)
  have eK := at_div k n
  have hf := h.2.2.2
  rw [show m.N.toNat = n by rw [eN]; exact Int.toNat_natCast n] at hf
  have s1 : sizeB m c := ⟨by rw [ex.1]; exact h.2.1.1, by rw [ep.1]; exact h.2.1.2⟩
  have s2 : spanB c := by unfold spanB; rw [es.1, es.2.1, es.2.2]; exact h.2.2.1
  constructor
  · intro hd
    unfold fitD
    rw [if_pos h.1, if_pos s1, if_pos s2, if_pos]
    rw [show m.N.toNat = n by rw [eN]; exact Int.toNat_natCast n, ex.2, ep.2]
    intro i hi
    have low : ∀ p, (-9223372036854775807 : Int) ≤ b.p.Z p → (-9223372036854775807 : Int) ≤ upd1 b.p.Z k V p := fun p hp => by
      unfold upd1
      split
      · have := hV.2 hd; omega
      · exact hp
    refine ⟨(hf i hi).1, ?_, fun q hq' => ⟨low _ ((hf i hi).2.2 q hq').1, ?_⟩⟩
    · unfold upd1
      split
      · exact hV.2 hd
      · exact (hf i hi).2.1
    · have sym : i * n + q = k ↔ q * n + i = k := by
        constructor
        · intro e
          have e1 := div_at i q n hq'
          have e2 := mod_at i q n hq'
          rw [e] at e1 e2
          have : i = q := by omega
          subst this
          exact e
        · intro e
          have e1 := div_at q i n hi
          have e2 := mod_at q i n hi
          rw [e] at e1 e2
          have : i = q := by omega
          subst this
          exact e
      unfold upd1
      by_cases e : i * n + q = k
      · rw [if_pos e, if_pos (sym.1 e)]
      · rw [if_neg e, if_neg (fun e2 => e (sym.2 e2))]
        exact ((hf i hi).2.2 q hq').2
  · intro hd
    unfold fitD
    rw [if_pos h.1, if_pos s1, if_pos s2, if_neg]
    rw [show m.N.toNat = n by rw [eN]; exact Int.toNat_natCast n, ex.2, ep.2]
    intro hg
    have h1 := ((hg (k / n) hq).2.2 (k % n) hr).2
    have h2 := ((hf (k / n) hq).2.2 (k % n) hr).2
    rw [eK] at h1 h2
    unfold upd1 at h1
    rw [if_pos rfl, if_neg, ← h2] at h1
    · exact hV.1 h1
    · intro e
      have e1 := div_at (k % n) (k / n) n hq
      rw [e] at e1
      exact hd e1
/-- The number at the exchanged place. -/
theorem odd_other {m : DV} {b : BV} {n k : Nat} {V : Int} (h : okD m ∧ sizeB m b ∧ spanB b ∧ formB m.N.toNat b.x.Z b.p.Z) (eN : m.N = n) (hk : k < n * n) : (k / n = k % n → k % n * n + k / n = k) ∧ (k / n ≠ k % n → upd1 b.p.Z k V (k % n * n + k / n) = b.p.Z k) ∧ k % n * n + k / n < n * n := by
  have hq : k / n < n := Nat.div_lt_of_lt_mul hk
  have hr : k % n < n := Nat.mod_lt _ (Nat.lt_of_le_of_lt (Nat.zero_le _) hq)
  have eK := at_div k n
  have hf := h.2.2.2
  rw [show m.N.toNat = n by rw [eN]; exact Int.toNat_natCast n] at hf
  refine ⟨fun e => ?_, fun hd => ?_, at_lt _ _ n hr hq⟩
  · rw [e] at eK ⊢; exact eK
  · unfold upd1
    rw [if_neg]
    · have h2 := ((hf (k / n) hq).2.2 (k % n) hr).2
      rw [eK] at h2
      exact h2.symm
    · intro e
      have e1 := div_at (k % n) (k / n) n hq
      rw [e] at e1
      exact hd e1
theorem good_of {b : BV} {H x q n c l d : Nat} {X P : Nat → Int} {W : World} (gb : b.good W) (o1 : OwL H (some ⟨x, 0, none⟩) n c X W) (o2 : Row W (some ⟨q, 0, none⟩) l P ∧ FitL (some ⟨q, 0, none⟩) l d) (hX : ∀ i, i < n → I64 (X i)) (hP : ∀ i, i < l → I64 (P i)) (hn : n ≤ 13) (hl : l ≤ 40) : (⟨b.at', ⟨some ⟨x, 0, none⟩, n, c, X⟩, ⟨some ⟨q, 0, none⟩, l, d, P⟩, b.flag, b.pass, b.fail⟩ : BV).good W :=
  ⟨⟨o1.parts.2.1, o1.parts.1, hX⟩, ⟨o2.1, o2.2, hP⟩, gb.2.2.1, hn, hl⟩
theorem ft_goods {w W4 : World} {m : DV} {b : BV} {H Mx A8 A9 A10 k : Nat} {V : Int} {c8 c9 c10 : Array Value} {W wx : World} {x8 y8 x9 y9 x10 y10 q8 r8 p9 r9 p10 r10 t9 : Nat} (S : FtS w W4 m b H Mx A8 A9 A10 c8 c9 c10 W) (O : FtO b H x8 y8 x9 y9 x10 y10 (b.x.len + 1) q8 r8 p9 r9 p10 r10 (app1 b.x.len b.x.Z) (upd1 b.p.Z k V) W) (ht : t9 = if r9 = 1 then 0 else 1) (hp : 1 ≤ b.p.len) (hx : b.x.len ≤ 12) (hV : I64 V) (kx : Kp W wx) :
    (⟨b.at', ⟨some ⟨x8, 0, none⟩, b.x.len + 1, q8, app1 b.x.len b.x.Z⟩, ⟨some ⟨y8, 0, none⟩, b.p.len, r8, b.p.Z⟩, b.flag, b.pass, b.fail⟩ : BV).good wx ∧ (⟨b.at', ⟨some ⟨x9, 0, none⟩, b.x.len, p9, b.x.Z⟩, ⟨some ⟨y9, t9, none⟩, b.p.len - 1, r9 - 1, fun i => b.p.Z (i + 1)⟩, b.flag, b.pass, b.fail⟩ : BV).good wx ∧ (⟨b.at', ⟨some ⟨x10, 0, none⟩, b.x.len, p10, b.x.Z⟩, ⟨some ⟨y10, 0, none⟩, b.p.len, r10, upd1 b.p.Z k V⟩, b.flag, b.pass, b.fail⟩ : BV).good wx ∧ m.good wx := by
  obtain ⟨o1, o2, o3, o4, o5, o6⟩ := O.kp kx
  have kb := (S.k4.trans kx)
  have gb := S.gb.kp kb
  have l1 : b.x.len ≤ 13 := gb.2.2.2.1
  have l2 : b.p.len ≤ 40 := gb.2.2.2.2
  have iX := gb.1.2.2
  have iP := gb.2.1.2.2
  refine ⟨⟨⟨o1.parts.2.1, o1.parts.1, fun i hi => ?_⟩, ⟨o2.parts.2.1, o2.parts.1, iP⟩, gb.2.2.1, by show b.x.len + 1 ≤ 13; omega, l2⟩, ⟨⟨o3.parts.2.1, o3.parts.1, iX⟩, ⟨?_, ⟨by have := o4.parts.1.1; show b.p.len - 1 ≤ r9 - 1; omega, fun e => by cases e⟩, fun i hi => iP (i + 1) (by have hi : i < b.p.len - 1 := hi; omega)⟩, gb.2.2.1, l1, by show b.p.len - 1 ≤ 40; omega⟩, ⟨⟨o5.parts.2.1, o5.parts.1, iX⟩, ⟨o6.parts.2.1, o6.parts.1, fun i hi => ?_⟩, gb.2.2.1, l1, l2⟩, S.gm.kp kb⟩
  · show I64 (app1 b.x.len b.x.Z i)
    unfold app1
    split
    · exact iX i (by assumption)
    · unfold I64; omega
  · by_cases h1 : b.p.len = 1
    · exact Or.inl (show b.p.len - 1 = 0 by omega)
    · have hr : r9 ≠ 1 := by have := o4.parts.1.1; omega
      rw [if_neg hr] at ht
      subst ht
      rcases o4.parts.2.1 with e | ⟨a, oo, e, hc⟩
      · omega
      · cases e
        refine Or.inr ⟨y9, 1, rfl, fun i hi => ?_⟩
        have := hc (i + 1) (by have hi : i < b.p.len - 1 := hi; omega)
        rw [Nat.zero_add] at this
        rw [Nat.add_comm 1 i]
        exact this
  · show I64 (upd1 b.p.Z k V i)
    unfold upd1
    split
    · exact hV
    · exact iP i hi

/-- Where such a copy's lists lie. -/
theorem gbo_blocks {b : BV} {H : Nat} {v : Value} {w : World} {Bs : List Nat} {F : World → Prop} (h : F w ∧ (∀ wx, F wx → GBo b H v wx) ∧ Dep Bs F) (hb : 1 ≤ b.x.len ∧ 1 ≤ b.p.len) : ∃ x p y r, v = .agg (bcC b x b.x.len p y b.p.len r) ∧ (OwL H (some ⟨x, 0, none⟩) b.x.len p b.x.Z w ∧ x ∈ Bs) ∧ (OwL H (some ⟨y, 0, none⟩) b.p.len r b.p.Z w ∧ y ∈ Bs) ∧ x ≠ y := by
  obtain ⟨a, p, a2, r, e, o1, o2, ap⟩ := (h.2.1 w h.1).parts
  rcases o1.parts.2.2.2 with ⟨_, e1⟩ | ⟨x, rfl, _, x2⟩
  · omega
  · rcases o2.parts.2.2.2 with ⟨_, e1⟩ | ⟨y, rfl, _, y2⟩
    · omega
    · exact ⟨x, p, y, r, e, ⟨o1, gbo_mem h.1 h.2.2 h.2.1 e (Or.inl rfl) x2⟩, ⟨o2, gbo_mem h.1 h.2.2 h.2.1 e (Or.inr rfl) y2⟩, fun e3 => ap x rfl (by rw [e3])⟩
set_option maxRecDepth 50000 in
set_option maxHeartbeats 16000000 in
theorem lawModelFits (m : DV) (b : BV) (wh : Int) (iw : I64 wh) (w : World) (hm : m.okIn w) (hb : b.okIn w) :
    Calls Try.prog 7 #[.agg m.cells, .agg b.cells, .int .i64 wh] w fun e w' => e = .returned (.bool true) ∧ Kp w w' := by
  unfold DV.cells BV.cells
  have S0 : Hid (Kp w ((w.alloc (.cells #[.int .i64 m.N, .slice m.A.ao m.A.len m.A.cap, .slice m.Q.ao m.Q.len m.Q.cap, .int .i64 m.tick, .int .i64 m.gate, .int .i64 m.rmin, .slice m.ro m.rl m.rc] 25)).alloc (.cells #[.int .i64 b.at', .slice b.x.ao b.x.len b.x.cap, .slice b.p.ao b.p.len b.p.cap, .bool b.flag, .int .i64 b.pass, .int .i64 b.fail] 27)) ∧ Blk w.heap.size m.cells 25 ((w.alloc (.cells #[.int .i64 m.N, .slice m.A.ao m.A.len m.A.cap, .slice m.Q.ao m.Q.len m.Q.cap, .int .i64 m.tick, .int .i64 m.gate, .int .i64 m.rmin, .slice m.ro m.rl m.rc] 25)).alloc (.cells #[.int .i64 b.at', .slice b.x.ao b.x.len b.x.cap, .slice b.p.ao b.p.len b.p.cap, .bool b.flag, .int .i64 b.pass, .int .i64 b.fail] 27)) ∧ Blk (w.heap.size + 1) b.cells 27 ((w.alloc (.cells #[.int .i64 m.N, .slice m.A.ao m.A.len m.A.cap, .slice m.Q.ao m.Q.len m.Q.cap, .int .i64 m.tick, .int .i64 m.gate, .int .i64 m.rmin, .slice m.ro m.rl m.rc] 25)).alloc (.cells #[.int .i64 b.at', .slice b.x.ao b.x.len b.x.cap, .slice b.p.ao b.p.len b.p.cap, .bool b.flag, .int .i64 b.pass, .int .i64 b.fail] 27))) := ⟨((Kp.refl _).alloc _ _).alloc _ _, Blk.grown (Blk.new w _ _) ((Grown.refl _).alloc _ _), blk_new2 w _ _ _⟩
  have HM := hide hm
  have HB := hide hb
  clear hm hb
  go_enter Try.func7, Try.ntmps7
  go_wp2_with fail
  generalize ((w.alloc (.cells #[.int .i64 m.N, .slice m.A.ao m.A.len m.A.cap, .slice m.Q.ao m.Q.len m.Q.cap, .int .i64 m.tick, .int .i64 m.gate, .int .i64 m.rmin, .slice m.ro m.rl m.rc] 25)).alloc (.cells #[.int .i64 b.at', .slice b.x.ao b.x.len b.x.cap, .slice b.p.ao b.p.len b.p.cap, .bool b.flag, .int .i64 b.pass, .int .i64 b.fail] 27)) = w0 at *
  refine (lawAwakeMdl _).mono ?_
  rintro e w1 ⟨rfl, k1⟩
  have S1 : Hid (Kp w w1 ∧ Blk w.heap.size m.cells 25 w1 ∧ Blk (w.heap.size + 1) b.cells 27 w1) := ⟨(unhide S0).1.trans k1, Blk.kp (unhide S0).2.1 k1, Blk.kp (unhide S0).2.2 k1⟩
  clear k1 S0
  obtain ⟨y0, y1, y2, y3, y4, y5, y6⟩ := ((unhide S1).2.1).cellsD
  go_wp2_with fail
  refine (kitLongM m w1 ((unhide HM).rvs.kp (unhide S1).1)).mono ?_
  rintro e w2 ⟨r, rfl, g1, hs⟩
  have HS := hide hs
  have S2 : Hid (Kp w w2 ∧ Blk w.heap.size m.cells 25 w2 ∧ Blk (w.heap.size + 1) b.cells 27 w2) := ⟨(unhide S1).1.grown g1, Blk.grown (unhide S1).2.1 g1, Blk.grown (unhide S1).2.2 g1⟩
  clear g1 hs S1 y0 y1 y2 y3 y4 y5 y6
  cases r with
  | true =>
    go_wp2
    go_ret
    exact ⟨rfl, (unhide S2).1⟩
  | false =>
    obtain ⟨z0, z1, z2, z3, z4, z5⟩ := ((unhide S2).2.2).cellsB
    go_wp2_with fail
    refine (kitLongB b w2).mono ?_
    rintro e w3 ⟨rfl, g2⟩
    have S3 : Hid (Kp w w3 ∧ Blk w.heap.size m.cells 25 w3 ∧ Blk (w.heap.size + 1) b.cells 27 w3) := ⟨(unhide S2).1.grown g2, Blk.grown (unhide S2).2.1 g2, Blk.grown (unhide S2).2.2 g2⟩
    clear g2 S2 z0 z1 z2 z3 z4 z5
    obtain ⟨r2, hr2⟩ : ∃ r2, (decide (12 < b.x.len) || decide (40 < b.p.len)) = r2 := ⟨_, rfl⟩
    rw [hr2]
    have HR2 := hide hr2
    clear hr2
    cases r2 with
    | true =>
      go_wp2
      go_ret
      exact ⟨rfl, (unhide S3).1⟩
    | false =>
      have SB : Hid (smallB b) := by
        have h := unhide HR2
        rw [Bool.or_eq_false_iff] at h
        exact ⟨Nat.not_lt.1 (of_decide_eq_false h.1), Nat.not_lt.1 (of_decide_eq_false h.2)⟩
      have GG : Hid (∀ wx, Kp w wx → m.good wx ∧ b.good wx) := fun wx k => ⟨((unhide HM).good (by first | exact unhide HS rfl | exact unhide HS trivial)).kp k, ((unhide HB).good (unhide SB)).kp k⟩
      clear HR2 SB HM HB HS
      obtain ⟨y0, y1, y2, y3, y4, y5, y6⟩ := ((unhide S3).2.1).cellsD
      obtain ⟨z0, z1, z2, z3, z4, z5⟩ := ((unhide S3).2.2).cellsB
      go_wp2_with fail
      refine (pFits m b w3 (unhide GG _ (unhide S3).1).1 (unhide GG _ (unhide S3).1).2).mono ?_
      rintro e w4 ⟨rfl, k4⟩
      have S4 : Hid (Kp w w4 ∧ Blk w.heap.size m.cells 25 w4 ∧ Blk (w.heap.size + 1) b.cells 27 w4) := ⟨(unhide S3).1.trans k4, Blk.kp (unhide S3).2.1 k4, Blk.kp (unhide S3).2.2 k4⟩
      clear k4 S3 y0 y1 y2 y3 y4 y5 y6 z0 z1 z2 z3 z4 z5
      by_cases hf : fitD m b = 0
      · rw [hf]
        have FT : Hid (okD m ∧ sizeB m b ∧ spanB b ∧ formB m.N.toNat b.x.Z b.p.Z) := by
          unfold fitD at hf
          by_cases h0 : okD m
          · rw [if_pos h0] at hf
            by_cases h1 : sizeB m b
            · rw [if_pos h1] at hf
              by_cases h2 : spanB b
              · rw [if_pos h2] at hf
                by_cases h3 : formB m.N.toNat b.x.Z b.p.Z
                · exact ⟨h0, h1, h2, h3⟩
                · rw [if_neg h3] at hf; exact absurd hf (by decide)
              · rw [if_neg h2] at hf; exact absurd hf (by decide)
            · rw [if_neg h1] at hf; exact absurd hf (by decide)
          · rw [if_neg h0] at hf; exact absurd hf (by decide)
        clear hf
        obtain ⟨n, eN⟩ : ∃ n : Nat, m.N = n := ⟨m.N.toNat, (Int.toNat_of_nonneg (Int.le_trans (by decide) (unhide FT).1.1.1)).symm⟩
        obtain ⟨nn, hnn⟩ : ∃ nn, n * n = nn := ⟨_, rfl⟩
        have HN : Hid (m.N = n ∧ n * n = nn ∧ 1 ≤ n ∧ n ≤ 6 ∧ 1 ≤ nn ∧ nn ≤ 36 ∧ b.x.len = n ∧ b.p.len = nn) := by
          obtain ⟨⟨⟨h1, h2⟩, _⟩, ⟨h3, h4⟩, _⟩ := unhide FT
          rw [eN] at h1 h2 h3 h4
          have n1 : 1 ≤ n := by omega
          have n6 : n ≤ 6 := by omega
          have q1 : 1 * 1 ≤ n * n := Nat.mul_le_mul n1 n1
          have q2 : n * n ≤ 6 * 6 := Nat.mul_le_mul n6 n6
          refine ⟨eN, hnn, n1, n6, by omega, by omega, Int.ofNat.inj h3, Int.ofNat.inj ?_⟩
          show (b.p.len : Int) = (nn : Int)
          rw [h4, ← Int.natCast_mul, hnn]
        have wn : wrap64 ((n : Int) * (n : Int)) = (nn : Int) := wrapP n n nn hnn (by have := unhide HN; omega)
        have d1 : ((b.p.len : Int) != (nn : Int)) = false := by rw [(unhide HN).2.2.2.2.2.2.2]; simp
        have d2 : ((b.p.len : Int) == 0) = false := by rw [(unhide HN).2.2.2.2.2.2.2]; have := (unhide HN).2.2.2.2.1; simp; omega
        have y0 : w4.cell? ⟨w.heap.size, 0, none⟩ = some (.int .i64 (n : Int)) := by rw [← eN]; exact (unhide S4).2.1.cellsD.1
        have z2 : w4.cell? ⟨w.heap.size + 1, 2, none⟩ = some (.slice b.p.ao b.p.len b.p.cap) := (unhide S4).2.2.cellsB.2.2.1
        clear eN hnn
        go_wp2_with fail
        clear y0 z2 wn d1 d2
        have hMx : Hid (w.heap.size + 1 < w4.heap.size) := Blk.lt (unhide S4).2.2
        refine regN3 (w := w4) [.pure 44 (.agg b.cells), .call 45 (GBo b w4.heap.size), .pure 46 (.agg b.cells), .call 47 (GBo b w4.heap.size), .pure 48 (.agg b.cells), .call 49 (GBo b w4.heap.size), .alloc 8 zB 27, .alloc 9 zB 27, .alloc 10 zB 27, .store 6 1 aggOf, .store 7 3 aggOf, .store 8 5 aggOf] (fun wx => Kp w4 wx) (by kernel_rfl) rfl (by kernel_rfl) (by kernel_rfl) (by kernel_rfl) (by kernel_rfl) ?_ (show Kp w4 w4 from Kp.refl _) (fun a b k h => h.trans k) (fun A a b hA mk h => h.mk mk hA) ?_
        · have CP : Hid (∀ wx, Kp w4 wx → w4.heap.size ≤ wx.heap.size → Calls Try.prog 12 #[.agg b.cells] wx fun e w' => ∃ v Bs F, e = .returned v ∧ Kp wx w' ∧ (∀ k ∈ Bs, wx.heap.size ≤ k ∧ k < w'.heap.size) ∧ Dep Bs F ∧ F w' ∧ ∀ wy, F wy → GBo b w4.heap.size v wy) := fun wx k hH => by
            have g := (unhide GG wx ((unhide S4).1.trans k)).2
            exact (kitCopyBo b.at' b.pass b.fail b.flag b.x.ao b.p.ao b.x.len b.x.cap b.p.len b.p.cap b.x.Z b.p.Z (by have := g.2.2.2.1; omega) (by have := g.2.2.2.2; omega) g.1.2.1.2 g.2.1.2.1.2 wx g.1.1 g.2.1.1).mono (fun e w' hc => gbo_dep hc hH)
          refine And.intro (okLoadB (B := w.heap.size + 1) rfl (by kernel_rfl) rfl (fun wx k => Blk.kp (unhide S4).2.2 k)) ?_
          refine And.intro (okCall13 (j := 0) rfl rfl (by kernel_rfl) (fun w => enters_of Try.func12 (by kernel_rfl) rfl _ w) (fun wx k hH => unhide CP wx k hH)) ?_
          refine And.intro (okLoadB (B := w.heap.size + 1) rfl (by kernel_rfl) rfl (fun wx k => Blk.kp (unhide S4).2.2 k)) ?_
          refine And.intro (okCall13 (j := 2) rfl rfl (by kernel_rfl) (fun w => enters_of Try.func12 (by kernel_rfl) rfl _ w) (fun wx k hH => unhide CP wx k hH)) ?_
          refine And.intro (okLoadB (B := w.heap.size + 1) rfl (by kernel_rfl) rfl (fun wx k => Blk.kp (unhide S4).2.2 k)) ?_
          refine And.intro (okCall13 (j := 4) rfl rfl (by kernel_rfl) (fun w => enters_of Try.func12 (by kernel_rfl) rfl _ w) (fun wx k hH => unhide CP wx k hH)) ?_
          refine And.intro (okAllocB rfl) (And.intro (okAllocB rfl) (And.intro (okAllocB rfl) ?_))
          refine And.intro (okStoreB (ia := 6) (ic := 1) rfl (fun v w h => let ⟨b', e, _⟩ := h; ⟨b', e⟩) rfl rfl (by kernel_rfl) (by kernel_rfl) (by kernel_rfl)) ?_
          refine And.intro (okStoreB (ia := 7) (ic := 3) rfl (fun v w h => let ⟨b', e, _⟩ := h; ⟨b', e⟩) rfl rfl (by kernel_rfl) (by kernel_rfl) (by kernel_rfl)) ?_
          exact And.intro (okStoreB (ia := 8) (ic := 5) rfl (fun v w h => let ⟨b', e, _⟩ := h; ⟨b', e⟩) rfl rfl (by kernel_rfl) (by kernel_rfl) (by kernel_rfl)) trivial
        intro vals addr gs fs w5 k5 hsz fin dis
        have q1 : fs 1 w5 ∧ (∀ wx, fs 1 wx → GBo b w4.heap.size (vals 1) wx) ∧ Dep (gs 1) (fs 1) := fin 1 _ rfl
        have q3 : fs 3 w5 ∧ (∀ wx, fs 3 wx → GBo b w4.heap.size (vals 3) wx) ∧ Dep (gs 3) (fs 3) := fin 3 _ rfl
        have q5 : fs 5 w5 ∧ (∀ wx, fs 5 wx → GBo b w4.heap.size (vals 5) wx) ∧ Dep (gs 5) (fs 5) := fin 5 _ rfl
        have hb8 : Blk (addr 6) (aggOf (vals 1)) 27 w5 := fin 9 _ rfl _ _ _ rfl
        have hb9 : Blk (addr 7) (aggOf (vals 3)) 27 w5 := fin 10 _ rfl _ _ _ rfl
        have hb10 : Blk (addr 8) (aggOf (vals 5)) 27 w5 := fin 11 _ rfl _ _ _ rfl
        have l8 : w4.heap.size ≤ addr 6 ∧ addr 6 < w5.heap.size ∧ _ := fin 6 _ rfl
        have l9 : w4.heap.size ≤ addr 7 ∧ addr 7 < w5.heap.size ∧ _ := fin 7 _ rfl
        have l10 : w4.heap.size ≤ addr 8 ∧ addr 8 < w5.heap.size ∧ _ := fin 8 _ rfl
        have n89 : addr 6 ≠ addr 7 := l9.2.2 6 _ _ _ (by decide) rfl
        have n810 : addr 6 ≠ addr 8 := l10.2.2 6 _ _ _ (by decide) rfl
        have n910 : addr 7 ≠ addr 8 := l10.2.2 7 _ _ _ (by decide) rfl
        have big : 1 ≤ b.x.len ∧ 1 ≤ b.p.len := by have := unhide HN; omega
        have d13 : ∀ k ∈ gs 1, k ∉ gs 3 := dis 1 3 _ _ _ _ (by decide) rfl rfl
        have d15 : ∀ k ∈ gs 1, k ∉ gs 5 := dis 1 5 _ _ _ _ (by decide) rfl rfl
        have d35 : ∀ k ∈ gs 3, k ∉ gs 5 := dis 3 5 _ _ _ _ (by decide) rfl rfl
        obtain ⟨x8, p8, y8, r8, e8, o8x, o8p, a8⟩ := gbo_blocks q1 big
        obtain ⟨x9, p9, y9, r9, e9, o9x, o9p, a9⟩ := gbo_blocks q3 big
        obtain ⟨x10, p10, y10, r10, e10, o10x, o10p, a10⟩ := gbo_blocks q5 big
        simp only [putsL, OpK.dst, OpK.val, List.foldl]
        rw [e8] at hb8 ⊢
        rw [e9] at hb9 ⊢
        rw [e10] at hb10 ⊢
        generalize addr 6 = A8 at *
        generalize addr 7 = A9 at *
        generalize addr 8 = A10 at *
        have gm := unhide GG w4 (unhide S4).1
        obtain ⟨H, hH⟩ : ∃ H, w4.heap.size = H := ⟨_, rfl⟩
        rw [hH] at o8x o8p o9x o9p o10x o10p l8 l9 l10 hMx
        have SF : Hid (FtS w w4 m b H w.heap.size A8 A9 A10 (bcC b x8 b.x.len p8 y8 b.p.len r8) (bcC b x9 b.x.len p9 y9 b.p.len r9) (bcC b x10 b.x.len p10 y10 b.p.len r10) w5) := ⟨(unhide S4).1, k5, Blk.kp (unhide S4).2.1 k5, Blk.kp (unhide S4).2.2 k5, hb8, hb9, hb10, gm.1, gm.2, hH.symm, ⟨unhide hMx, l8.1, l9.1, l10.1, n89, n810, n910⟩⟩
        have O8 : Hid (FtO b H x8 y8 x9 y9 x10 y10 b.x.len p8 r8 p9 r9 p10 r10 b.x.Z b.p.Z w5) := ⟨o8x.1, o8p.1, o9x.1, o9p.1, o10x.1, o10p.1⟩
        have NE : Hid ((x8 ≠ y8 ∧ x8 ≠ x9 ∧ x8 ≠ y9 ∧ x8 ≠ x10 ∧ x8 ≠ y10) ∧ (y10 ≠ x8 ∧ y10 ≠ y8 ∧ y10 ≠ x9 ∧ y10 ≠ y9 ∧ y10 ≠ x10)) := by
          have h1 : x8 ≠ x9 := fun e => d13 _ o8x.2 (by rw [e]; exact o9x.2)
          have h2 : x8 ≠ y9 := fun e => d13 _ o8x.2 (by rw [e]; exact o9p.2)
          have h3 : x8 ≠ x10 := fun e => d15 _ o8x.2 (by rw [e]; exact o10x.2)
          have h4 : x8 ≠ y10 := fun e => d15 _ o8x.2 (by rw [e]; exact o10p.2)
          have h5 : y8 ≠ y10 := fun e => d15 _ o8p.2 (by rw [e]; exact o10p.2)
          have h6 : x9 ≠ y10 := fun e => d35 _ o9x.2 (by rw [e]; exact o10p.2)
          have h7 : y9 ≠ y10 := fun e => d35 _ o9p.2 (by rw [e]; exact o10p.2)
          exact ⟨⟨a8, h1, h2, h3, h4⟩, h4.symm, h5.symm, h6.symm, h7.symm, a10.symm⟩
        clear q1 q3 q5 hb8 hb9 hb10 l8 l9 l10 n89 n810 n910 big d13 d15 d35 e8 e9 e10 o8x o8p o9x o9p o10x o10p a8 a9 a10 gm hH k5 hsz fin dis S4 hMx GG
        simp only [List.setIfInBounds_toArray, List.set_cons_zero, List.set_cons_succ]
        unfold BV.cells
        obtain ⟨x0, hx0⟩ : ∃ x0 : World, x0 = w5.alloc (.cells #[.int .i64 0] 3) := ⟨_, rfl⟩
        have c81 : w5.cell? ⟨A8, 1, none⟩ = some (.slice (some ⟨x8, 0, none⟩) b.x.len p8) := Blk.cell (unhide SF).b8 1
        have OM : Hid ((w5.alloc (.cells #[.int .i64 0] 3)).ownsRow H 3 1 (.slice (some ⟨x8, 0, none⟩) b.x.len p8) b.x.len ((List.range b.x.len).map fun i => Value.int .i64 (b.x.Z i))) := (unhide O8).1.alloc _
        have HB3 : Hid (H ≤ (w5.alloc (.cells #[.int .i64 0] 3)).heap.size) := by
          have h := (unhide O8).1.ltH
          show H ≤ (w5.alloc (.cells #[.int .i64 0] 3)).heap.size
          simp
          omega
        have hxl : b.x.len ≤ 1000000 := by have := unhide HN; omega
        have gA : A8 < w5.heap.size := Blk.lt (unhide SF).b8
        clear hx0 x0
        obtain ⟨t9, ht9⟩ : ∃ t, (if r9 = 1 then 0 else 1) = t := ⟨_, rfl⟩
        have HT9 : Hid (t9 = if r9 = 1 then 0 else 1) := ht9.symm
        clear ht9
        go_wp2_with (at_builtin; refine wpList_append_at rfl _ _ rfl H _ _ _ rfl (unhide OM) ⟨w5.heap.size, 0, none⟩ 1 1 [.int .i64 0] rfl rfl (news_one _ _ _) (one_cell _) ⟨by decide, by decide⟩ hxl (unhide HB3) ?_; intro v' w6 hown hgrow hwh; obtain ⟨g8, c8, rfl, b86, n89, SF7, O7, n10⟩ := ft_app (unhide SF) (unhide O8) rfl (unhide NE).1 hown hgrow hwh; have HS7 := hide (And.intro SF7 (And.intro O7 n10)); have z1 : w6.cell? ⟨A8, 1, none⟩ = some (.slice (some ⟨x8, 0, none⟩) b.x.len p8) := Blk.cell b86 1; have f6 := Blk.free b86; have z2 : w6.cell? ⟨A9, 2, none⟩ = some (.slice (some ⟨y9, 0, none⟩) b.p.len r9) := (World.cell?_of_block (Below.heap_setCell _ _ _ _ (by show A9 ≠ A8; exact n89.symm))).symm.trans (Blk.cell SF7.b9 2); have f9 : ∀ o, w6.frozen? ⟨A9, o, none⟩ = false := (fun o => (World.frozen?_of_block (Below.heap_setCell w6 ⟨A8, 1, none⟩ (.slice (some ⟨g8, 0, none⟩) (b.x.len + 1) c8) A9 (by show A9 ≠ A8; exact n89.symm))).symm.trans (Blk.free SF7.b9 o)); have n98 : A9 ≠ A8 := n89.symm; have SLT := (fun w => slice_tailT (unhide HT9) y9 b.p.len (by have := unhide HN; omega) w); have b66 : w6.cell? ⟨w.heap.size + 1, 2, none⟩ = some (.slice b.p.ao b.p.len b.p.cap) := (World.cell?_of_block (Below.heap_setCell w6 ⟨A8, 1, none⟩ (.slice (some ⟨g8, 0, none⟩) (b.x.len + 1) c8) (w.heap.size + 1) (by have := SF7.lo; show w.heap.size + 1 ≠ A8; omega))).symm.trans (Blk.cell SF7.bb 2); have nb8 : w.heap.size + 1 ≠ A8 := (by have := SF7.lo; omega); have nb9 : w.heap.size + 1 ≠ A9 := (by have := SF7.lo; omega); clear hown hgrow hwh SF7 O7 n10 b86 n89)

        obtain ⟨w8, hw8⟩ : ∃ w8, ((w6.setCell ⟨A8, 1, none⟩ (.slice (some ⟨g8, 0, none⟩) (b.x.len + 1) c8)).setCell ⟨A9, 2, none⟩ (.slice (some ⟨y9, t9, none⟩) (b.p.len - 1) (r9 - 1))) = w8 := ⟨_, rfl⟩
        have S8 : Hid (FtS w w4 m b H w.heap.size A8 A9 A10 (bcC b g8 (b.x.len + 1) c8 y8 b.p.len r8) #[.int .i64 b.at', .slice (some ⟨x9, 0, none⟩) b.x.len p9, .slice (some ⟨y9, t9, none⟩) (b.p.len - 1) (r9 - 1), .bool b.flag, .int .i64 b.pass, .int .i64 b.fail] (bcC b x10 b.x.len p10 y10 b.p.len r10) w8 ∧ FtO b H g8 y8 x9 y9 x10 y10 (b.x.len + 1) c8 r8 p9 r9 p10 r10 (app1 b.x.len b.x.Z) b.p.Z w8) := by
          have h := ft_cut (v := (.slice (some ⟨y9, t9, none⟩) (b.p.len - 1) (r9 - 1))) (unhide HS7).1 (unhide HS7).2.1
          rw [hw8] at h
          exact h
        rw [hw8]
        have NX : Hid (y10 ≠ g8 ∧ y10 ≠ y8 ∧ y10 ≠ x9 ∧ y10 ≠ y9 ∧ y10 ≠ x10) := ⟨(unhide HS7).2.2, (unhide NE).2.2⟩
        clear hw8 HS7 SF O8 NE c81 OM HB3 hxl gA z1 f6 z2 f9 n98 SLT b66 nb8 nb9
        obtain ⟨k, hk⟩ : ∃ k : Nat, wh % (b.p.len : Int) = (k : Int) := ⟨(wh % (b.p.len : Int)).toNat, (Int.toNat_of_nonneg (Int.emod_nonneg _ (by have := unhide HN; omega))).symm⟩
        have PK := kitPick wh (b.p.len : Int) iw (by have := unhide HN; omega) w8
        rw [hk] at PK
        have HK : Hid (k < n * n ∧ k ≤ 1000000) := by
          have h1 := Int.emod_lt_of_pos wh (show (0 : Int) < (b.p.len : Int) by have := unhide HN; omega)
          rw [hk] at h1
          have := unhide HN
          exact ⟨by omega, by omega⟩
        clear hk
        refine PK.mono ?_
        rintro e w9 ⟨rfl, k9⟩
        have S9 : Hid (FtS w w4 m b H w.heap.size A8 A9 A10 (bcC b g8 (b.x.len + 1) c8 y8 b.p.len r8) #[.int .i64 b.at', .slice (some ⟨x9, 0, none⟩) b.x.len p9, .slice (some ⟨y9, t9, none⟩) (b.p.len - 1) (r9 - 1), .bool b.flag, .int .i64 b.pass, .int .i64 b.fail] (bcC b x10 b.x.len p10 y10 b.p.len r10) w9 ∧ FtO b H g8 y8 x9 y9 x10 y10 (b.x.len + 1) c8 r8 p9 r9 p10 r10 (app1 b.x.len b.x.Z) b.p.Z w9) := ⟨(unhide S8).1.kp k9, (unhide S8).2.kp k9⟩
        clear PK k9 S8
        obtain ⟨qi, hqi⟩ : ∃ q, k / n = q := ⟨_, rfl⟩
        obtain ⟨rj, hrj⟩ : ∃ r, k % n = r := ⟨_, rfl⟩
        have tq := tdiv_nat k n qi hqi
        have tr := tmod_nat k n rj hrj
        have bq : qi ≤ 1000000 := by rw [← hqi]; exact Nat.le_trans (Nat.div_le_self _ _) (unhide HK).2
        have br : rj ≤ 1000000 := by rw [← hrj]; exact Nat.le_trans (Nat.mod_le _ _) (unhide HK).2
        have wq := wrapNk qi bq
        have wr' := wrapNk rj br
        have wq6 := wrapN qi bq
        have wr6 := wrapN rj br
        have HQR := hide (And.intro hqi hrj)
        have n0 : ((n : Int) == 0) = false := by have := unhide HN; simp; omega
        have n1 : (n : Int) ≠ 0 := by have := unhide HN; omega
        have y0 : w9.cell? ⟨w.heap.size, 0, none⟩ = some (.int .i64 (n : Int)) := by rw [← (unhide HN).1]; exact (unhide S9).1.bm.cellsD.1
        clear hqi hrj
        go_wp2_with fail
        go_quiet (fail)
        have KQ : Kp w9 (w9.drewN nq) := Kp.refl w9
        have SA : Hid (FtS w w4 m b H w.heap.size A8 A9 A10 (bcC b g8 (b.x.len + 1) c8 y8 b.p.len r8) #[.int .i64 b.at', .slice (some ⟨x9, 0, none⟩) b.x.len p9, .slice (some ⟨y9, t9, none⟩) (b.p.len - 1) (r9 - 1), .bool b.flag, .int .i64 b.pass, .int .i64 b.fail] (bcC b x10 b.x.len p10 y10 b.p.len r10) (w9.drewN nq) ∧ FtO b H g8 y8 x9 y9 x10 y10 (b.x.len + 1) c8 r8 p9 r9 p10 r10 (app1 b.x.len b.x.Z) b.p.Z (w9.drewN nq)) := ⟨(unhide S9).1.kp KQ, (unhide S9).2.kp KQ⟩
        clear KQ
        generalize w9.drewN nq = wA at *
        clear S9 y0 n0 n1 tq tr wq wr' wq6 wr6
        obtain ⟨pk, hpk⟩ : ∃ z, b.p.Z k = z := ⟨_, rfl⟩
        have HPK := hide hpk
        have hkl : k < b.p.len := by have := unhide HN; have := (unhide HK).1; omega
        have k0 : (0 : Int) ≤ (k : Int) := Int.natCast_nonneg _
        have k1 : (k : Int) < (b.p.len : Int) := Int.ofNat_lt.2 hkl
        have u2 : wA.cell? ⟨A10, 2, none⟩ = some (.slice (some ⟨y10, 0, none⟩) b.p.len r10) := Blk.cell (unhide SA).1.b10 2
        have uk : wA.cell? ⟨y10, k, none⟩ = some (.int .i64 pk) := by
          rw [World.ownsRow.cellAt (unhide SA).2.2.2.2.2.2 k (by omega), List.getElem?_map, List.getElem?_range hkl, ← hpk]
          rfl
        have fk := World.ownsRow.frozenAt (unhide SA).2.2.2.2.2.2 k
        have ipk : Hid (I64 pk ∧ (k / n = k % n → 0 ≤ pk)) := by
          refine ⟨by rw [← hpk]; exact (unhide SA).1.gb.2.1.2.2 k hkl, fun e => ?_⟩
          have hk2 := (unhide HK).1
          have hf := (unhide FT).2.2.2
          rw [show m.N.toNat = n by rw [(unhide HN).1]; exact Int.toNat_natCast n] at hf
          have hq : k / n < n := Nat.div_lt_of_lt_mul hk2
          have h2 := (hf (k / n) hq).2.1
          have eK := at_div k n
          rw [← e] at eK
          rw [eK, hpk] at h2
          exact h2
        have nA : A10 ≠ y10 := ((unhide SA).2.2.2.2.2.2.neB (unhide SA).1.b10).symm
        have nM : w.heap.size ≠ y10 := by have := (unhide SA).1.lo.1; have := (unhide SA).2.2.2.2.2.2.ltH.1; omega
        have gk : y10 < wA.heap.size := (unhide SA).2.2.2.2.2.2.ltH.2
        clear hpk hkl
        by_cases hp : pk < 1
        · have dp : decide (pk < 1) = true := decide_eq_true hp
          have HV : Hid ((7 : Int) ≠ pk ∧ (k / n = k % n → (0 : Int) ≤ 7) ∧ I64 7) := ⟨by omega, fun _ => by decide, by unfold I64; omega⟩
          clear hp
          go_wp2_with fail
          have SB' := ft_put (v := 7) (k := k) (unhide SA).1 (unhide SA).2 (unhide NX)
          obtain ⟨wB, hwB⟩ : ∃ wB, wA.setCell ⟨y10, k, none⟩ (.int .i64 7) = wB := ⟨_, rfl⟩
          rw [hwB] at SB'
          rw [hwB]
          have SB0 := hide SB'
          clear SB' hwB SA u2 uk fk nA nM gk ipk dp
          by_cases hd : qi = rj
          · obtain rfl := hd
            have dd : ((qi : Int) == (qi : Int)) = true := by simp
            have dn : ((qi : Int) != (qi : Int)) = false := by simp
            have dv : (7 == 7) = true := by simp
            have ep : qi * n + qi = k := by have h := (odd_other (V := 7) (unhide FT) (unhide HN).1 (unhide HK).1).1 (by rw [(unhide HQR).1, (unhide HQR).2]); rw [(unhide HQR).1, (unhide HQR).2] at h; exact h
            obtain ⟨rn, hrn⟩ : ∃ rn, qi * n = rn := ⟨_, rfl⟩
            rw [hrn] at ep
            have brn : rn ≤ 1000000 := by have := (unhide HK).2; omega
            have wa : IntKind.i64.wrap ((qi : Int) * (n : Int)) = (rn : Int) := wrapPi qi n rn hrn brn
            have wb : IntKind.i64.wrap ((rn : Int) + (qi : Int)) = (k : Int) := wrapAi rn qi k ep (by exact (unhide HK).2)
            have SB : Hid (FtS w w4 m b H w.heap.size A8 A9 A10 (bcC b g8 (b.x.len + 1) c8 y8 b.p.len r8) #[.int .i64 b.at', .slice (some ⟨x9, 0, none⟩) b.x.len p9, .slice (some ⟨y9, t9, none⟩) (b.p.len - 1) (r9 - 1), .bool b.flag, .int .i64 b.pass, .int .i64 b.fail] (bcC b x10 b.x.len p10 y10 b.p.len r10) wB ∧ FtO b H g8 y8 x9 y9 x10 y10 (b.x.len + 1) c8 r8 p9 r9 p10 r10 (app1 b.x.len b.x.Z) (upd1 b.p.Z k 7) wB) := SB0
            have v2 : wB.cell? ⟨A10, 2, none⟩ = some (.slice (some ⟨y10, 0, none⟩) b.p.len r10) := Blk.cell (unhide SB).1.b10 2
            have vk : wB.cell? ⟨y10, k, none⟩ = some (.int .i64 7) := by
              have hkl : k < b.p.len := by have := unhide HN; have := (unhide HK).1; omega
              rw [World.ownsRow.cellAt (unhide SB).2.2.2.2.2.2 k (by omega), List.getElem?_map, List.getElem?_range hkl]
              simp [upd1]
            have m0 : wB.cell? ⟨w.heap.size, 0, none⟩ = some (.int .i64 (n : Int)) := by rw [← (unhide HN).1]; exact (unhide SB).1.bm.cellsD.1
            have FO0 : fitD m ⟨b.at', ⟨some ⟨x10, 0, none⟩, b.x.len, p10, b.x.Z⟩, ⟨some ⟨y10, 0, none⟩, b.p.len, r10, (upd1 b.p.Z k 7)⟩, b.flag, b.pass, b.fail⟩ = 0 := (fit_odd (V := 7) (c := ⟨b.at', ⟨some ⟨x10, 0, none⟩, b.x.len, p10, b.x.Z⟩, ⟨some ⟨y10, 0, none⟩, b.p.len, r10, (upd1 b.p.Z k 7)⟩, b.flag, b.pass, b.fail⟩) (unhide FT) (unhide HN).1 (unhide HK).1 ⟨by rw [unhide HPK]; exact (unhide HV).1, (unhide HV).2.1⟩ ⟨rfl, rfl⟩ ⟨rfl, rfl⟩ ⟨rfl, rfl, rfl⟩).1 (by rw [(unhide HQR).1, (unhide HQR).2])
            have FO := hide FO0
            clear FO0 hrn brn ep
            go_wp2_with fail
            go_quiet (fail)
            have KQ : Kp wB (wB.drewN nq) := Kp.refl wB
            have SC : Hid (FtS w w4 m b H w.heap.size A8 A9 A10 (bcC b g8 (b.x.len + 1) c8 y8 b.p.len r8) #[.int .i64 b.at', .slice (some ⟨x9, 0, none⟩) b.x.len p9, .slice (some ⟨y9, t9, none⟩) (b.p.len - 1) (r9 - 1), .bool b.flag, .int .i64 b.pass, .int .i64 b.fail] (bcC b x10 b.x.len p10 y10 b.p.len r10) (wB.drewN nq) ∧ FtO b H g8 y8 x9 y9 x10 y10 (b.x.len + 1) c8 r8 p9 r9 p10 r10 (app1 b.x.len b.x.Z) (upd1 b.p.Z k 7) (wB.drewN nq)) := ⟨(unhide SB).1.kp KQ, (unhide SB).2.kp KQ⟩
            clear KQ
            generalize wB.drewN nq = wC at *
            clear SB SB0 v2 vk m0 wa wb
            have GN : Hid (∀ wx, Kp wC wx → (⟨b.at', ⟨some ⟨g8, 0, none⟩, b.x.len + 1, c8, app1 b.x.len b.x.Z⟩, ⟨some ⟨y8, 0, none⟩, b.p.len, r8, b.p.Z⟩, b.flag, b.pass, b.fail⟩ : BV).good wx ∧ (⟨b.at', ⟨some ⟨x9, 0, none⟩, b.x.len, p9, b.x.Z⟩, ⟨some ⟨y9, t9, none⟩, b.p.len - 1, r9 - 1, fun i => b.p.Z (i + 1)⟩, b.flag, b.pass, b.fail⟩ : BV).good wx ∧ (⟨b.at', ⟨some ⟨x10, 0, none⟩, b.x.len, p10, b.x.Z⟩, ⟨some ⟨y10, 0, none⟩, b.p.len, r10, (upd1 b.p.Z k 7)⟩, b.flag, b.pass, b.fail⟩ : BV).good wx ∧ m.good wx) := fun wx kx => ft_goods (unhide SC).1 (unhide SC).2 (unhide HT9) (by have := unhide HN; omega) (by have := unhide HN; omega) (unhide HV).2.2 kx
            obtain ⟨m0, m1, m2, m3, m4, m5, m6⟩ := (unhide SC).1.bm.cellsD
            have a0 : wC.cell? ⟨A8, 0, none⟩ = some (.int .i64 b.at') := Blk.cell (unhide SC).1.b8 0
            have a1 : wC.cell? ⟨A8, 1, none⟩ = some (.slice (some ⟨g8, 0, none⟩) (b.x.len + 1) c8) := Blk.cell (unhide SC).1.b8 1
            have a2 : wC.cell? ⟨A8, 2, none⟩ = some (.slice (some ⟨y8, 0, none⟩) b.p.len r8) := Blk.cell (unhide SC).1.b8 2
            have a3 : wC.cell? ⟨A8, 3, none⟩ = some (.bool b.flag) := Blk.cell (unhide SC).1.b8 3
            have a4 : wC.cell? ⟨A8, 4, none⟩ = some (.int .i64 b.pass) := Blk.cell (unhide SC).1.b8 4
            have a5 : wC.cell? ⟨A8, 5, none⟩ = some (.int .i64 b.fail) := Blk.cell (unhide SC).1.b8 5
            go_wp2_with fail
            refine (show Calls Try.prog 17 _ wC _ from pFits m _ wC (unhide GN wC (Kp.refl _)).2.2.2 (unhide GN wC (Kp.refl _)).1).mono ?_
            rw [fit_long (unhide FT) rfl]
            rintro e wD ⟨rfl, kD⟩
            have KD : Hid (Kp wC wD) := kD
            have SD : Hid (FtS w w4 m b H w.heap.size A8 A9 A10 (bcC b g8 (b.x.len + 1) c8 y8 b.p.len r8) #[.int .i64 b.at', .slice (some ⟨x9, 0, none⟩) b.x.len p9, .slice (some ⟨y9, t9, none⟩) (b.p.len - 1) (r9 - 1), .bool b.flag, .int .i64 b.pass, .int .i64 b.fail] (bcC b x10 b.x.len p10 y10 b.p.len r10) wD ∧ FtO b H g8 y8 x9 y9 x10 y10 (b.x.len + 1) c8 r8 p9 r9 p10 r10 (app1 b.x.len b.x.Z) (upd1 b.p.Z k 7) wD) := ⟨(unhide SC).1.kp kD, (unhide SC).2.kp kD⟩
            clear kD m0 m1 m2 m3 m4 m5 m6 a0 a1 a2 a3 a4 a5
            obtain ⟨m0, m1, m2, m3, m4, m5, m6⟩ := (unhide SD).1.bm.cellsD
            have a0 : wD.cell? ⟨A9, 0, none⟩ = some (.int .i64 b.at') := Blk.cell (unhide SD).1.b9 0
            have a1 : wD.cell? ⟨A9, 1, none⟩ = some (.slice (some ⟨x9, 0, none⟩) b.x.len p9) := Blk.cell (unhide SD).1.b9 1
            have a2 : wD.cell? ⟨A9, 2, none⟩ = some (.slice (some ⟨y9, t9, none⟩) (b.p.len - 1) (r9 - 1)) := Blk.cell (unhide SD).1.b9 2
            have a3 : wD.cell? ⟨A9, 3, none⟩ = some (.bool b.flag) := Blk.cell (unhide SD).1.b9 3
            have a4 : wD.cell? ⟨A9, 4, none⟩ = some (.int .i64 b.pass) := Blk.cell (unhide SD).1.b9 4
            have a5 : wD.cell? ⟨A9, 5, none⟩ = some (.int .i64 b.fail) := Blk.cell (unhide SD).1.b9 5
            go_wp2_with fail
            refine (show Calls Try.prog 17 _ wD _ from pFits m _ wD (unhide GN wD (unhide KD)).2.2.2 (unhide GN wD (unhide KD)).2.1).mono ?_
            rw [fit_short (unhide FT) (by have := unhide HN; omega) rfl]
            rintro e wE ⟨rfl, kE⟩
            have KE : Hid (Kp wC wE) := (unhide KD).trans kE
            have SE : Hid (FtS w w4 m b H w.heap.size A8 A9 A10 (bcC b g8 (b.x.len + 1) c8 y8 b.p.len r8) #[.int .i64 b.at', .slice (some ⟨x9, 0, none⟩) b.x.len p9, .slice (some ⟨y9, t9, none⟩) (b.p.len - 1) (r9 - 1), .bool b.flag, .int .i64 b.pass, .int .i64 b.fail] (bcC b x10 b.x.len p10 y10 b.p.len r10) wE ∧ FtO b H g8 y8 x9 y9 x10 y10 (b.x.len + 1) c8 r8 p9 r9 p10 r10 (app1 b.x.len b.x.Z) (upd1 b.p.Z k 7) wE) := ⟨(unhide SD).1.kp kE, (unhide SD).2.kp kE⟩
            clear kE m0 m1 m2 m3 m4 m5 m6 a0 a1 a2 a3 a4 a5 SD
            obtain ⟨m0, m1, m2, m3, m4, m5, m6⟩ := (unhide SE).1.bm.cellsD
            have a0 : wE.cell? ⟨A10, 0, none⟩ = some (.int .i64 b.at') := Blk.cell (unhide SE).1.b10 0
            have a1 : wE.cell? ⟨A10, 1, none⟩ = some (.slice (some ⟨x10, 0, none⟩) b.x.len p10) := Blk.cell (unhide SE).1.b10 1
            have a2 : wE.cell? ⟨A10, 2, none⟩ = some (.slice (some ⟨y10, 0, none⟩) b.p.len r10) := Blk.cell (unhide SE).1.b10 2
            have a3 : wE.cell? ⟨A10, 3, none⟩ = some (.bool b.flag) := Blk.cell (unhide SE).1.b10 3
            have a4 : wE.cell? ⟨A10, 4, none⟩ = some (.int .i64 b.pass) := Blk.cell (unhide SE).1.b10 4
            have a5 : wE.cell? ⟨A10, 5, none⟩ = some (.int .i64 b.fail) := Blk.cell (unhide SE).1.b10 5
            go_wp2_with fail
            refine (show Calls Try.prog 17 _ wE _ from pFits m _ wE (unhide GN wE (unhide KE)).2.2.2 (unhide GN wE (unhide KE)).2.2.1).mono ?_
            rw [unhide FO]
            rintro e wF ⟨rfl, kF⟩
            have KF := hide (((unhide SE).1.k.trans (unhide SE).1.k4).trans kF)
            clear kF m0 m1 m2 m3 m4 m5 m6 a0 a1 a2 a3 a4 a5 SE SC GN KD KE
            go_wp2
            go_ret
            exact ⟨rfl, unhide KF⟩
          · skip
            have dd : ((qi : Int) == (rj : Int)) = false := bool_eqN _ _ hd
            have dv : (7 == pk) = false := by have h := (unhide HV).1; simpa using h
            obtain ⟨pp, ep⟩ : ∃ pp, rj * n + qi = pp := ⟨_, rfl⟩
            have hpp : pp < b.p.len := by have h := (odd_other (V := 7) (unhide FT) (unhide HN).1 (unhide HK).1).2.2; rw [(unhide HQR).1, (unhide HQR).2, ep] at h; have := unhide HN; omega
            have vp : upd1 b.p.Z k 7 pp = pk := by have h := (odd_other (V := 7) (unhide FT) (unhide HN).1 (unhide HK).1).2.1 (by rw [(unhide HQR).1, (unhide HQR).2]; exact hd); rw [(unhide HQR).1, (unhide HQR).2, ep, unhide HPK] at h; exact h
            obtain ⟨rn, hrn⟩ : ∃ rn, rj * n = rn := ⟨_, rfl⟩
            rw [hrn] at ep
            have brn : rn ≤ 1000000 := by have := unhide HN; omega
            have wa : IntKind.i64.wrap ((rj : Int) * (n : Int)) = (rn : Int) := wrapPi rj n rn hrn brn
            have wb : IntKind.i64.wrap ((rn : Int) + (qi : Int)) = (pp : Int) := wrapAi rn qi pp ep (by have := unhide HN; omega)
            have SB : Hid (FtS w w4 m b H w.heap.size A8 A9 A10 (bcC b g8 (b.x.len + 1) c8 y8 b.p.len r8) #[.int .i64 b.at', .slice (some ⟨x9, 0, none⟩) b.x.len p9, .slice (some ⟨y9, t9, none⟩) (b.p.len - 1) (r9 - 1), .bool b.flag, .int .i64 b.pass, .int .i64 b.fail] (bcC b x10 b.x.len p10 y10 b.p.len r10) wB ∧ FtO b H g8 y8 x9 y9 x10 y10 (b.x.len + 1) c8 r8 p9 r9 p10 r10 (app1 b.x.len b.x.Z) (upd1 b.p.Z k 7) wB) := SB0
            have v2 : wB.cell? ⟨A10, 2, none⟩ = some (.slice (some ⟨y10, 0, none⟩) b.p.len r10) := Blk.cell (unhide SB).1.b10 2
            have vk : wB.cell? ⟨y10, k, none⟩ = some (.int .i64 7) := by
              have hkl : k < b.p.len := by have := unhide HN; have := (unhide HK).1; omega
              rw [World.ownsRow.cellAt (unhide SB).2.2.2.2.2.2 k (by omega), List.getElem?_map, List.getElem?_range hkl]
              simp [upd1]
            have m0 : wB.cell? ⟨w.heap.size, 0, none⟩ = some (.int .i64 (n : Int)) := by rw [← (unhide HN).1]; exact (unhide SB).1.bm.cellsD.1
            have vq : wB.cell? ⟨y10, pp, none⟩ = some (.int .i64 pk) := by
              rw [World.ownsRow.cellAt (unhide SB).2.2.2.2.2.2 pp (by omega), List.getElem?_map, List.getElem?_range hpp, ← vp]
              rfl
            have j0 : (0 : Int) ≤ (pp : Int) := Int.natCast_nonneg _
            have j1 : (pp : Int) < (b.p.len : Int) := Int.ofNat_lt.2 hpp
            have FO0 : fitD m ⟨b.at', ⟨some ⟨x10, 0, none⟩, b.x.len, p10, b.x.Z⟩, ⟨some ⟨y10, 0, none⟩, b.p.len, r10, (upd1 b.p.Z k 7)⟩, b.flag, b.pass, b.fail⟩ = 5 := (fit_odd (V := 7) (c := ⟨b.at', ⟨some ⟨x10, 0, none⟩, b.x.len, p10, b.x.Z⟩, ⟨some ⟨y10, 0, none⟩, b.p.len, r10, (upd1 b.p.Z k 7)⟩, b.flag, b.pass, b.fail⟩) (unhide FT) (unhide HN).1 (unhide HK).1 ⟨by rw [unhide HPK]; exact (unhide HV).1, (unhide HV).2.1⟩ ⟨rfl, rfl⟩ ⟨rfl, rfl⟩ ⟨rfl, rfl, rfl⟩).2 (by rw [(unhide HQR).1, (unhide HQR).2]; exact hd)
            have FO := hide FO0
            clear FO0 hrn brn ep hpp vp
            go_wp2_with fail
            go_quiet (fail)
            have KQ : Kp wB (wB.drewN nq) := Kp.refl wB
            have SC : Hid (FtS w w4 m b H w.heap.size A8 A9 A10 (bcC b g8 (b.x.len + 1) c8 y8 b.p.len r8) #[.int .i64 b.at', .slice (some ⟨x9, 0, none⟩) b.x.len p9, .slice (some ⟨y9, t9, none⟩) (b.p.len - 1) (r9 - 1), .bool b.flag, .int .i64 b.pass, .int .i64 b.fail] (bcC b x10 b.x.len p10 y10 b.p.len r10) (wB.drewN nq) ∧ FtO b H g8 y8 x9 y9 x10 y10 (b.x.len + 1) c8 r8 p9 r9 p10 r10 (app1 b.x.len b.x.Z) (upd1 b.p.Z k 7) (wB.drewN nq)) := ⟨(unhide SB).1.kp KQ, (unhide SB).2.kp KQ⟩
            clear KQ
            generalize wB.drewN nq = wC at *
            clear SB SB0 v2 vk m0 wa wb vq j0 j1
            have GN : Hid (∀ wx, Kp wC wx → (⟨b.at', ⟨some ⟨g8, 0, none⟩, b.x.len + 1, c8, app1 b.x.len b.x.Z⟩, ⟨some ⟨y8, 0, none⟩, b.p.len, r8, b.p.Z⟩, b.flag, b.pass, b.fail⟩ : BV).good wx ∧ (⟨b.at', ⟨some ⟨x9, 0, none⟩, b.x.len, p9, b.x.Z⟩, ⟨some ⟨y9, t9, none⟩, b.p.len - 1, r9 - 1, fun i => b.p.Z (i + 1)⟩, b.flag, b.pass, b.fail⟩ : BV).good wx ∧ (⟨b.at', ⟨some ⟨x10, 0, none⟩, b.x.len, p10, b.x.Z⟩, ⟨some ⟨y10, 0, none⟩, b.p.len, r10, (upd1 b.p.Z k 7)⟩, b.flag, b.pass, b.fail⟩ : BV).good wx ∧ m.good wx) := fun wx kx => ft_goods (unhide SC).1 (unhide SC).2 (unhide HT9) (by have := unhide HN; omega) (by have := unhide HN; omega) (unhide HV).2.2 kx
            obtain ⟨m0, m1, m2, m3, m4, m5, m6⟩ := (unhide SC).1.bm.cellsD
            have a0 : wC.cell? ⟨A8, 0, none⟩ = some (.int .i64 b.at') := Blk.cell (unhide SC).1.b8 0
            have a1 : wC.cell? ⟨A8, 1, none⟩ = some (.slice (some ⟨g8, 0, none⟩) (b.x.len + 1) c8) := Blk.cell (unhide SC).1.b8 1
            have a2 : wC.cell? ⟨A8, 2, none⟩ = some (.slice (some ⟨y8, 0, none⟩) b.p.len r8) := Blk.cell (unhide SC).1.b8 2
            have a3 : wC.cell? ⟨A8, 3, none⟩ = some (.bool b.flag) := Blk.cell (unhide SC).1.b8 3
            have a4 : wC.cell? ⟨A8, 4, none⟩ = some (.int .i64 b.pass) := Blk.cell (unhide SC).1.b8 4
            have a5 : wC.cell? ⟨A8, 5, none⟩ = some (.int .i64 b.fail) := Blk.cell (unhide SC).1.b8 5
            go_wp2_with fail
            refine (show Calls Try.prog 17 _ wC _ from pFits m _ wC (unhide GN wC (Kp.refl _)).2.2.2 (unhide GN wC (Kp.refl _)).1).mono ?_
            rw [fit_long (unhide FT) rfl]
            rintro e wD ⟨rfl, kD⟩
            have KD : Hid (Kp wC wD) := kD
            have SD : Hid (FtS w w4 m b H w.heap.size A8 A9 A10 (bcC b g8 (b.x.len + 1) c8 y8 b.p.len r8) #[.int .i64 b.at', .slice (some ⟨x9, 0, none⟩) b.x.len p9, .slice (some ⟨y9, t9, none⟩) (b.p.len - 1) (r9 - 1), .bool b.flag, .int .i64 b.pass, .int .i64 b.fail] (bcC b x10 b.x.len p10 y10 b.p.len r10) wD ∧ FtO b H g8 y8 x9 y9 x10 y10 (b.x.len + 1) c8 r8 p9 r9 p10 r10 (app1 b.x.len b.x.Z) (upd1 b.p.Z k 7) wD) := ⟨(unhide SC).1.kp kD, (unhide SC).2.kp kD⟩
            clear kD m0 m1 m2 m3 m4 m5 m6 a0 a1 a2 a3 a4 a5
            obtain ⟨m0, m1, m2, m3, m4, m5, m6⟩ := (unhide SD).1.bm.cellsD
            have a0 : wD.cell? ⟨A9, 0, none⟩ = some (.int .i64 b.at') := Blk.cell (unhide SD).1.b9 0
            have a1 : wD.cell? ⟨A9, 1, none⟩ = some (.slice (some ⟨x9, 0, none⟩) b.x.len p9) := Blk.cell (unhide SD).1.b9 1
            have a2 : wD.cell? ⟨A9, 2, none⟩ = some (.slice (some ⟨y9, t9, none⟩) (b.p.len - 1) (r9 - 1)) := Blk.cell (unhide SD).1.b9 2
            have a3 : wD.cell? ⟨A9, 3, none⟩ = some (.bool b.flag) := Blk.cell (unhide SD).1.b9 3
            have a4 : wD.cell? ⟨A9, 4, none⟩ = some (.int .i64 b.pass) := Blk.cell (unhide SD).1.b9 4
            have a5 : wD.cell? ⟨A9, 5, none⟩ = some (.int .i64 b.fail) := Blk.cell (unhide SD).1.b9 5
            go_wp2_with fail
            refine (show Calls Try.prog 17 _ wD _ from pFits m _ wD (unhide GN wD (unhide KD)).2.2.2 (unhide GN wD (unhide KD)).2.1).mono ?_
            rw [fit_short (unhide FT) (by have := unhide HN; omega) rfl]
            rintro e wE ⟨rfl, kE⟩
            have KE : Hid (Kp wC wE) := (unhide KD).trans kE
            have SE : Hid (FtS w w4 m b H w.heap.size A8 A9 A10 (bcC b g8 (b.x.len + 1) c8 y8 b.p.len r8) #[.int .i64 b.at', .slice (some ⟨x9, 0, none⟩) b.x.len p9, .slice (some ⟨y9, t9, none⟩) (b.p.len - 1) (r9 - 1), .bool b.flag, .int .i64 b.pass, .int .i64 b.fail] (bcC b x10 b.x.len p10 y10 b.p.len r10) wE ∧ FtO b H g8 y8 x9 y9 x10 y10 (b.x.len + 1) c8 r8 p9 r9 p10 r10 (app1 b.x.len b.x.Z) (upd1 b.p.Z k 7) wE) := ⟨(unhide SD).1.kp kE, (unhide SD).2.kp kE⟩
            clear kE m0 m1 m2 m3 m4 m5 m6 a0 a1 a2 a3 a4 a5 SD
            obtain ⟨m0, m1, m2, m3, m4, m5, m6⟩ := (unhide SE).1.bm.cellsD
            have a0 : wE.cell? ⟨A10, 0, none⟩ = some (.int .i64 b.at') := Blk.cell (unhide SE).1.b10 0
            have a1 : wE.cell? ⟨A10, 1, none⟩ = some (.slice (some ⟨x10, 0, none⟩) b.x.len p10) := Blk.cell (unhide SE).1.b10 1
            have a2 : wE.cell? ⟨A10, 2, none⟩ = some (.slice (some ⟨y10, 0, none⟩) b.p.len r10) := Blk.cell (unhide SE).1.b10 2
            have a3 : wE.cell? ⟨A10, 3, none⟩ = some (.bool b.flag) := Blk.cell (unhide SE).1.b10 3
            have a4 : wE.cell? ⟨A10, 4, none⟩ = some (.int .i64 b.pass) := Blk.cell (unhide SE).1.b10 4
            have a5 : wE.cell? ⟨A10, 5, none⟩ = some (.int .i64 b.fail) := Blk.cell (unhide SE).1.b10 5
            go_wp2_with fail
            refine (show Calls Try.prog 17 _ wE _ from pFits m _ wE (unhide GN wE (unhide KE)).2.2.2 (unhide GN wE (unhide KE)).2.2.1).mono ?_
            rw [unhide FO]
            rintro e wF ⟨rfl, kF⟩
            have KF := hide (((unhide SE).1.k.trans (unhide SE).1.k4).trans kF)
            clear kF m0 m1 m2 m3 m4 m5 m6 a0 a1 a2 a3 a4 a5 SE SC GN KD KE
            go_wp2
            go_ret
            exact ⟨rfl, unhide KF⟩
        · have dp : decide (pk < 1) = false := decide_eq_false hp
          have HV0 : Hid (pk - 1 ≠ pk ∧ (k / n = k % n → (0 : Int) ≤ pk - 1) ∧ I64 (pk - 1)) := ⟨by omega, fun _ => by omega, by have := (unhide ipk).1; show I64 (pk - 1); unfold I64 at *; omega⟩
          have wm : wrap64 (pk - 1) = pk - 1 := by have := (unhide ipk).1; unfold I64 at this; unfold wrap64; omega
          clear hp
          obtain ⟨V, hV⟩ : ∃ V, pk - 1 = V := ⟨_, rfl⟩
          rw [hV] at wm
          have HV : Hid (V ≠ pk ∧ (k / n = k % n → (0 : Int) ≤ V) ∧ I64 V) := by have h := unhide HV0; rw [hV] at h; exact h
          have wm2 : wrap64 (pk - 1) = V := by rw [hV]; exact wm
          clear hV HV0 wm
          go_wp2_with fail
          clear wm2
          have SB' := ft_put (v := V) (k := k) (unhide SA).1 (unhide SA).2 (unhide NX)
          obtain ⟨wB, hwB⟩ : ∃ wB, wA.setCell ⟨y10, k, none⟩ (.int .i64 V) = wB := ⟨_, rfl⟩
          rw [hwB] at SB'
          rw [hwB]
          have SB0 := hide SB'
          clear SB' hwB SA u2 uk fk nA nM gk ipk dp
          by_cases hd : qi = rj
          · obtain rfl := hd
            have dd : ((qi : Int) == (qi : Int)) = true := by simp
            have dn : ((qi : Int) != (qi : Int)) = false := by simp
            have dv : (V == V) = true := by simp
            have ep : qi * n + qi = k := by have h := (odd_other (V := V) (unhide FT) (unhide HN).1 (unhide HK).1).1 (by rw [(unhide HQR).1, (unhide HQR).2]); rw [(unhide HQR).1, (unhide HQR).2] at h; exact h
            obtain ⟨rn, hrn⟩ : ∃ rn, qi * n = rn := ⟨_, rfl⟩
            rw [hrn] at ep
            have brn : rn ≤ 1000000 := by have := (unhide HK).2; omega
            have wa : IntKind.i64.wrap ((qi : Int) * (n : Int)) = (rn : Int) := wrapPi qi n rn hrn brn
            have wb : IntKind.i64.wrap ((rn : Int) + (qi : Int)) = (k : Int) := wrapAi rn qi k ep (by exact (unhide HK).2)
            have SB : Hid (FtS w w4 m b H w.heap.size A8 A9 A10 (bcC b g8 (b.x.len + 1) c8 y8 b.p.len r8) #[.int .i64 b.at', .slice (some ⟨x9, 0, none⟩) b.x.len p9, .slice (some ⟨y9, t9, none⟩) (b.p.len - 1) (r9 - 1), .bool b.flag, .int .i64 b.pass, .int .i64 b.fail] (bcC b x10 b.x.len p10 y10 b.p.len r10) wB ∧ FtO b H g8 y8 x9 y9 x10 y10 (b.x.len + 1) c8 r8 p9 r9 p10 r10 (app1 b.x.len b.x.Z) (upd1 b.p.Z k V) wB) := SB0
            have v2 : wB.cell? ⟨A10, 2, none⟩ = some (.slice (some ⟨y10, 0, none⟩) b.p.len r10) := Blk.cell (unhide SB).1.b10 2
            have vk : wB.cell? ⟨y10, k, none⟩ = some (.int .i64 V) := by
              have hkl : k < b.p.len := by have := unhide HN; have := (unhide HK).1; omega
              rw [World.ownsRow.cellAt (unhide SB).2.2.2.2.2.2 k (by omega), List.getElem?_map, List.getElem?_range hkl]
              simp [upd1]
            have m0 : wB.cell? ⟨w.heap.size, 0, none⟩ = some (.int .i64 (n : Int)) := by rw [← (unhide HN).1]; exact (unhide SB).1.bm.cellsD.1
            have FO0 : fitD m ⟨b.at', ⟨some ⟨x10, 0, none⟩, b.x.len, p10, b.x.Z⟩, ⟨some ⟨y10, 0, none⟩, b.p.len, r10, (upd1 b.p.Z k V)⟩, b.flag, b.pass, b.fail⟩ = 0 := (fit_odd (V := V) (c := ⟨b.at', ⟨some ⟨x10, 0, none⟩, b.x.len, p10, b.x.Z⟩, ⟨some ⟨y10, 0, none⟩, b.p.len, r10, (upd1 b.p.Z k V)⟩, b.flag, b.pass, b.fail⟩) (unhide FT) (unhide HN).1 (unhide HK).1 ⟨by rw [unhide HPK]; exact (unhide HV).1, (unhide HV).2.1⟩ ⟨rfl, rfl⟩ ⟨rfl, rfl⟩ ⟨rfl, rfl, rfl⟩).1 (by rw [(unhide HQR).1, (unhide HQR).2])
            have FO := hide FO0
            clear FO0 hrn brn ep
            go_wp2_with fail
            go_quiet (fail)
            have KQ : Kp wB (wB.drewN nq) := Kp.refl wB
            have SC : Hid (FtS w w4 m b H w.heap.size A8 A9 A10 (bcC b g8 (b.x.len + 1) c8 y8 b.p.len r8) #[.int .i64 b.at', .slice (some ⟨x9, 0, none⟩) b.x.len p9, .slice (some ⟨y9, t9, none⟩) (b.p.len - 1) (r9 - 1), .bool b.flag, .int .i64 b.pass, .int .i64 b.fail] (bcC b x10 b.x.len p10 y10 b.p.len r10) (wB.drewN nq) ∧ FtO b H g8 y8 x9 y9 x10 y10 (b.x.len + 1) c8 r8 p9 r9 p10 r10 (app1 b.x.len b.x.Z) (upd1 b.p.Z k V) (wB.drewN nq)) := ⟨(unhide SB).1.kp KQ, (unhide SB).2.kp KQ⟩
            clear KQ
            generalize wB.drewN nq = wC at *
            clear SB SB0 v2 vk m0 wa wb
            have GN : Hid (∀ wx, Kp wC wx → (⟨b.at', ⟨some ⟨g8, 0, none⟩, b.x.len + 1, c8, app1 b.x.len b.x.Z⟩, ⟨some ⟨y8, 0, none⟩, b.p.len, r8, b.p.Z⟩, b.flag, b.pass, b.fail⟩ : BV).good wx ∧ (⟨b.at', ⟨some ⟨x9, 0, none⟩, b.x.len, p9, b.x.Z⟩, ⟨some ⟨y9, t9, none⟩, b.p.len - 1, r9 - 1, fun i => b.p.Z (i + 1)⟩, b.flag, b.pass, b.fail⟩ : BV).good wx ∧ (⟨b.at', ⟨some ⟨x10, 0, none⟩, b.x.len, p10, b.x.Z⟩, ⟨some ⟨y10, 0, none⟩, b.p.len, r10, (upd1 b.p.Z k V)⟩, b.flag, b.pass, b.fail⟩ : BV).good wx ∧ m.good wx) := fun wx kx => ft_goods (unhide SC).1 (unhide SC).2 (unhide HT9) (by have := unhide HN; omega) (by have := unhide HN; omega) (unhide HV).2.2 kx
            obtain ⟨m0, m1, m2, m3, m4, m5, m6⟩ := (unhide SC).1.bm.cellsD
            have a0 : wC.cell? ⟨A8, 0, none⟩ = some (.int .i64 b.at') := Blk.cell (unhide SC).1.b8 0
            have a1 : wC.cell? ⟨A8, 1, none⟩ = some (.slice (some ⟨g8, 0, none⟩) (b.x.len + 1) c8) := Blk.cell (unhide SC).1.b8 1
            have a2 : wC.cell? ⟨A8, 2, none⟩ = some (.slice (some ⟨y8, 0, none⟩) b.p.len r8) := Blk.cell (unhide SC).1.b8 2
            have a3 : wC.cell? ⟨A8, 3, none⟩ = some (.bool b.flag) := Blk.cell (unhide SC).1.b8 3
            have a4 : wC.cell? ⟨A8, 4, none⟩ = some (.int .i64 b.pass) := Blk.cell (unhide SC).1.b8 4
            have a5 : wC.cell? ⟨A8, 5, none⟩ = some (.int .i64 b.fail) := Blk.cell (unhide SC).1.b8 5
            go_wp2_with fail
            refine (show Calls Try.prog 17 _ wC _ from pFits m _ wC (unhide GN wC (Kp.refl _)).2.2.2 (unhide GN wC (Kp.refl _)).1).mono ?_
            rw [fit_long (unhide FT) rfl]
            rintro e wD ⟨rfl, kD⟩
            have KD : Hid (Kp wC wD) := kD
            have SD : Hid (FtS w w4 m b H w.heap.size A8 A9 A10 (bcC b g8 (b.x.len + 1) c8 y8 b.p.len r8) #[.int .i64 b.at', .slice (some ⟨x9, 0, none⟩) b.x.len p9, .slice (some ⟨y9, t9, none⟩) (b.p.len - 1) (r9 - 1), .bool b.flag, .int .i64 b.pass, .int .i64 b.fail] (bcC b x10 b.x.len p10 y10 b.p.len r10) wD ∧ FtO b H g8 y8 x9 y9 x10 y10 (b.x.len + 1) c8 r8 p9 r9 p10 r10 (app1 b.x.len b.x.Z) (upd1 b.p.Z k V) wD) := ⟨(unhide SC).1.kp kD, (unhide SC).2.kp kD⟩
            clear kD m0 m1 m2 m3 m4 m5 m6 a0 a1 a2 a3 a4 a5
            obtain ⟨m0, m1, m2, m3, m4, m5, m6⟩ := (unhide SD).1.bm.cellsD
            have a0 : wD.cell? ⟨A9, 0, none⟩ = some (.int .i64 b.at') := Blk.cell (unhide SD).1.b9 0
            have a1 : wD.cell? ⟨A9, 1, none⟩ = some (.slice (some ⟨x9, 0, none⟩) b.x.len p9) := Blk.cell (unhide SD).1.b9 1
            have a2 : wD.cell? ⟨A9, 2, none⟩ = some (.slice (some ⟨y9, t9, none⟩) (b.p.len - 1) (r9 - 1)) := Blk.cell (unhide SD).1.b9 2
            have a3 : wD.cell? ⟨A9, 3, none⟩ = some (.bool b.flag) := Blk.cell (unhide SD).1.b9 3
            have a4 : wD.cell? ⟨A9, 4, none⟩ = some (.int .i64 b.pass) := Blk.cell (unhide SD).1.b9 4
            have a5 : wD.cell? ⟨A9, 5, none⟩ = some (.int .i64 b.fail) := Blk.cell (unhide SD).1.b9 5
            go_wp2_with fail
            refine (show Calls Try.prog 17 _ wD _ from pFits m _ wD (unhide GN wD (unhide KD)).2.2.2 (unhide GN wD (unhide KD)).2.1).mono ?_
            rw [fit_short (unhide FT) (by have := unhide HN; omega) rfl]
            rintro e wE ⟨rfl, kE⟩
            have KE : Hid (Kp wC wE) := (unhide KD).trans kE
            have SE : Hid (FtS w w4 m b H w.heap.size A8 A9 A10 (bcC b g8 (b.x.len + 1) c8 y8 b.p.len r8) #[.int .i64 b.at', .slice (some ⟨x9, 0, none⟩) b.x.len p9, .slice (some ⟨y9, t9, none⟩) (b.p.len - 1) (r9 - 1), .bool b.flag, .int .i64 b.pass, .int .i64 b.fail] (bcC b x10 b.x.len p10 y10 b.p.len r10) wE ∧ FtO b H g8 y8 x9 y9 x10 y10 (b.x.len + 1) c8 r8 p9 r9 p10 r10 (app1 b.x.len b.x.Z) (upd1 b.p.Z k V) wE) := ⟨(unhide SD).1.kp kE, (unhide SD).2.kp kE⟩
            clear kE m0 m1 m2 m3 m4 m5 m6 a0 a1 a2 a3 a4 a5 SD
            obtain ⟨m0, m1, m2, m3, m4, m5, m6⟩ := (unhide SE).1.bm.cellsD
            have a0 : wE.cell? ⟨A10, 0, none⟩ = some (.int .i64 b.at') := Blk.cell (unhide SE).1.b10 0
            have a1 : wE.cell? ⟨A10, 1, none⟩ = some (.slice (some ⟨x10, 0, none⟩) b.x.len p10) := Blk.cell (unhide SE).1.b10 1
            have a2 : wE.cell? ⟨A10, 2, none⟩ = some (.slice (some ⟨y10, 0, none⟩) b.p.len r10) := Blk.cell (unhide SE).1.b10 2
            have a3 : wE.cell? ⟨A10, 3, none⟩ = some (.bool b.flag) := Blk.cell (unhide SE).1.b10 3
            have a4 : wE.cell? ⟨A10, 4, none⟩ = some (.int .i64 b.pass) := Blk.cell (unhide SE).1.b10 4
            have a5 : wE.cell? ⟨A10, 5, none⟩ = some (.int .i64 b.fail) := Blk.cell (unhide SE).1.b10 5
            go_wp2_with fail
            refine (show Calls Try.prog 17 _ wE _ from pFits m _ wE (unhide GN wE (unhide KE)).2.2.2 (unhide GN wE (unhide KE)).2.2.1).mono ?_
            rw [unhide FO]
            rintro e wF ⟨rfl, kF⟩
            have KF := hide (((unhide SE).1.k.trans (unhide SE).1.k4).trans kF)
            clear kF m0 m1 m2 m3 m4 m5 m6 a0 a1 a2 a3 a4 a5 SE SC GN KD KE
            go_wp2
            go_ret
            exact ⟨rfl, unhide KF⟩
          · skip
            have dd : ((qi : Int) == (rj : Int)) = false := bool_eqN _ _ hd
            have dv : (V == pk) = false := by have h := (unhide HV).1; simpa using h
            obtain ⟨pp, ep⟩ : ∃ pp, rj * n + qi = pp := ⟨_, rfl⟩
            have hpp : pp < b.p.len := by have h := (odd_other (V := V) (unhide FT) (unhide HN).1 (unhide HK).1).2.2; rw [(unhide HQR).1, (unhide HQR).2, ep] at h; have := unhide HN; omega
            have vp : upd1 b.p.Z k V pp = pk := by have h := (odd_other (V := V) (unhide FT) (unhide HN).1 (unhide HK).1).2.1 (by rw [(unhide HQR).1, (unhide HQR).2]; exact hd); rw [(unhide HQR).1, (unhide HQR).2, ep, unhide HPK] at h; exact h
            obtain ⟨rn, hrn⟩ : ∃ rn, rj * n = rn := ⟨_, rfl⟩
            rw [hrn] at ep
            have brn : rn ≤ 1000000 := by have := unhide HN; omega
            have wa : IntKind.i64.wrap ((rj : Int) * (n : Int)) = (rn : Int) := wrapPi rj n rn hrn brn
            have wb : IntKind.i64.wrap ((rn : Int) + (qi : Int)) = (pp : Int) := wrapAi rn qi pp ep (by have := unhide HN; omega)
            have SB : Hid (FtS w w4 m b H w.heap.size A8 A9 A10 (bcC b g8 (b.x.len + 1) c8 y8 b.p.len r8) #[.int .i64 b.at', .slice (some ⟨x9, 0, none⟩) b.x.len p9, .slice (some ⟨y9, t9, none⟩) (b.p.len - 1) (r9 - 1), .bool b.flag, .int .i64 b.pass, .int .i64 b.fail] (bcC b x10 b.x.len p10 y10 b.p.len r10) wB ∧ FtO b H g8 y8 x9 y9 x10 y10 (b.x.len + 1) c8 r8 p9 r9 p10 r10 (app1 b.x.len b.x.Z) (upd1 b.p.Z k V) wB) := SB0
            have v2 : wB.cell? ⟨A10, 2, none⟩ = some (.slice (some ⟨y10, 0, none⟩) b.p.len r10) := Blk.cell (unhide SB).1.b10 2
            have vk : wB.cell? ⟨y10, k, none⟩ = some (.int .i64 V) := by
              have hkl : k < b.p.len := by have := unhide HN; have := (unhide HK).1; omega
              rw [World.ownsRow.cellAt (unhide SB).2.2.2.2.2.2 k (by omega), List.getElem?_map, List.getElem?_range hkl]
              simp [upd1]
            have m0 : wB.cell? ⟨w.heap.size, 0, none⟩ = some (.int .i64 (n : Int)) := by rw [← (unhide HN).1]; exact (unhide SB).1.bm.cellsD.1
            have vq : wB.cell? ⟨y10, pp, none⟩ = some (.int .i64 pk) := by
              rw [World.ownsRow.cellAt (unhide SB).2.2.2.2.2.2 pp (by omega), List.getElem?_map, List.getElem?_range hpp, ← vp]
              rfl
            have j0 : (0 : Int) ≤ (pp : Int) := Int.natCast_nonneg _
            have j1 : (pp : Int) < (b.p.len : Int) := Int.ofNat_lt.2 hpp
            have FO0 : fitD m ⟨b.at', ⟨some ⟨x10, 0, none⟩, b.x.len, p10, b.x.Z⟩, ⟨some ⟨y10, 0, none⟩, b.p.len, r10, (upd1 b.p.Z k V)⟩, b.flag, b.pass, b.fail⟩ = 5 := (fit_odd (V := V) (c := ⟨b.at', ⟨some ⟨x10, 0, none⟩, b.x.len, p10, b.x.Z⟩, ⟨some ⟨y10, 0, none⟩, b.p.len, r10, (upd1 b.p.Z k V)⟩, b.flag, b.pass, b.fail⟩) (unhide FT) (unhide HN).1 (unhide HK).1 ⟨by rw [unhide HPK]; exact (unhide HV).1, (unhide HV).2.1⟩ ⟨rfl, rfl⟩ ⟨rfl, rfl⟩ ⟨rfl, rfl, rfl⟩).2 (by rw [(unhide HQR).1, (unhide HQR).2]; exact hd)
            have FO := hide FO0
            clear FO0 hrn brn ep hpp vp
            go_wp2_with fail
            go_quiet (fail)
            have KQ : Kp wB (wB.drewN nq) := Kp.refl wB
            have SC : Hid (FtS w w4 m b H w.heap.size A8 A9 A10 (bcC b g8 (b.x.len + 1) c8 y8 b.p.len r8) #[.int .i64 b.at', .slice (some ⟨x9, 0, none⟩) b.x.len p9, .slice (some ⟨y9, t9, none⟩) (b.p.len - 1) (r9 - 1), .bool b.flag, .int .i64 b.pass, .int .i64 b.fail] (bcC b x10 b.x.len p10 y10 b.p.len r10) (wB.drewN nq) ∧ FtO b H g8 y8 x9 y9 x10 y10 (b.x.len + 1) c8 r8 p9 r9 p10 r10 (app1 b.x.len b.x.Z) (upd1 b.p.Z k V) (wB.drewN nq)) := ⟨(unhide SB).1.kp KQ, (unhide SB).2.kp KQ⟩
            clear KQ
            generalize wB.drewN nq = wC at *
            clear SB SB0 v2 vk m0 wa wb vq j0 j1
            have GN : Hid (∀ wx, Kp wC wx → (⟨b.at', ⟨some ⟨g8, 0, none⟩, b.x.len + 1, c8, app1 b.x.len b.x.Z⟩, ⟨some ⟨y8, 0, none⟩, b.p.len, r8, b.p.Z⟩, b.flag, b.pass, b.fail⟩ : BV).good wx ∧ (⟨b.at', ⟨some ⟨x9, 0, none⟩, b.x.len, p9, b.x.Z⟩, ⟨some ⟨y9, t9, none⟩, b.p.len - 1, r9 - 1, fun i => b.p.Z (i + 1)⟩, b.flag, b.pass, b.fail⟩ : BV).good wx ∧ (⟨b.at', ⟨some ⟨x10, 0, none⟩, b.x.len, p10, b.x.Z⟩, ⟨some ⟨y10, 0, none⟩, b.p.len, r10, (upd1 b.p.Z k V)⟩, b.flag, b.pass, b.fail⟩ : BV).good wx ∧ m.good wx) := fun wx kx => ft_goods (unhide SC).1 (unhide SC).2 (unhide HT9) (by have := unhide HN; omega) (by have := unhide HN; omega) (unhide HV).2.2 kx
            obtain ⟨m0, m1, m2, m3, m4, m5, m6⟩ := (unhide SC).1.bm.cellsD
            have a0 : wC.cell? ⟨A8, 0, none⟩ = some (.int .i64 b.at') := Blk.cell (unhide SC).1.b8 0
            have a1 : wC.cell? ⟨A8, 1, none⟩ = some (.slice (some ⟨g8, 0, none⟩) (b.x.len + 1) c8) := Blk.cell (unhide SC).1.b8 1
            have a2 : wC.cell? ⟨A8, 2, none⟩ = some (.slice (some ⟨y8, 0, none⟩) b.p.len r8) := Blk.cell (unhide SC).1.b8 2
            have a3 : wC.cell? ⟨A8, 3, none⟩ = some (.bool b.flag) := Blk.cell (unhide SC).1.b8 3
            have a4 : wC.cell? ⟨A8, 4, none⟩ = some (.int .i64 b.pass) := Blk.cell (unhide SC).1.b8 4
            have a5 : wC.cell? ⟨A8, 5, none⟩ = some (.int .i64 b.fail) := Blk.cell (unhide SC).1.b8 5
            go_wp2_with fail
            refine (show Calls Try.prog 17 _ wC _ from pFits m _ wC (unhide GN wC (Kp.refl _)).2.2.2 (unhide GN wC (Kp.refl _)).1).mono ?_
            rw [fit_long (unhide FT) rfl]
            rintro e wD ⟨rfl, kD⟩
            have KD : Hid (Kp wC wD) := kD
            have SD : Hid (FtS w w4 m b H w.heap.size A8 A9 A10 (bcC b g8 (b.x.len + 1) c8 y8 b.p.len r8) #[.int .i64 b.at', .slice (some ⟨x9, 0, none⟩) b.x.len p9, .slice (some ⟨y9, t9, none⟩) (b.p.len - 1) (r9 - 1), .bool b.flag, .int .i64 b.pass, .int .i64 b.fail] (bcC b x10 b.x.len p10 y10 b.p.len r10) wD ∧ FtO b H g8 y8 x9 y9 x10 y10 (b.x.len + 1) c8 r8 p9 r9 p10 r10 (app1 b.x.len b.x.Z) (upd1 b.p.Z k V) wD) := ⟨(unhide SC).1.kp kD, (unhide SC).2.kp kD⟩
            clear kD m0 m1 m2 m3 m4 m5 m6 a0 a1 a2 a3 a4 a5
            obtain ⟨m0, m1, m2, m3, m4, m5, m6⟩ := (unhide SD).1.bm.cellsD
            have a0 : wD.cell? ⟨A9, 0, none⟩ = some (.int .i64 b.at') := Blk.cell (unhide SD).1.b9 0
            have a1 : wD.cell? ⟨A9, 1, none⟩ = some (.slice (some ⟨x9, 0, none⟩) b.x.len p9) := Blk.cell (unhide SD).1.b9 1
            have a2 : wD.cell? ⟨A9, 2, none⟩ = some (.slice (some ⟨y9, t9, none⟩) (b.p.len - 1) (r9 - 1)) := Blk.cell (unhide SD).1.b9 2
            have a3 : wD.cell? ⟨A9, 3, none⟩ = some (.bool b.flag) := Blk.cell (unhide SD).1.b9 3
            have a4 : wD.cell? ⟨A9, 4, none⟩ = some (.int .i64 b.pass) := Blk.cell (unhide SD).1.b9 4
            have a5 : wD.cell? ⟨A9, 5, none⟩ = some (.int .i64 b.fail) := Blk.cell (unhide SD).1.b9 5
            go_wp2_with fail
            refine (show Calls Try.prog 17 _ wD _ from pFits m _ wD (unhide GN wD (unhide KD)).2.2.2 (unhide GN wD (unhide KD)).2.1).mono ?_
            rw [fit_short (unhide FT) (by have := unhide HN; omega) rfl]
            rintro e wE ⟨rfl, kE⟩
            have KE : Hid (Kp wC wE) := (unhide KD).trans kE
            have SE : Hid (FtS w w4 m b H w.heap.size A8 A9 A10 (bcC b g8 (b.x.len + 1) c8 y8 b.p.len r8) #[.int .i64 b.at', .slice (some ⟨x9, 0, none⟩) b.x.len p9, .slice (some ⟨y9, t9, none⟩) (b.p.len - 1) (r9 - 1), .bool b.flag, .int .i64 b.pass, .int .i64 b.fail] (bcC b x10 b.x.len p10 y10 b.p.len r10) wE ∧ FtO b H g8 y8 x9 y9 x10 y10 (b.x.len + 1) c8 r8 p9 r9 p10 r10 (app1 b.x.len b.x.Z) (upd1 b.p.Z k V) wE) := ⟨(unhide SD).1.kp kE, (unhide SD).2.kp kE⟩
            clear kE m0 m1 m2 m3 m4 m5 m6 a0 a1 a2 a3 a4 a5 SD
            obtain ⟨m0, m1, m2, m3, m4, m5, m6⟩ := (unhide SE).1.bm.cellsD
            have a0 : wE.cell? ⟨A10, 0, none⟩ = some (.int .i64 b.at') := Blk.cell (unhide SE).1.b10 0
            have a1 : wE.cell? ⟨A10, 1, none⟩ = some (.slice (some ⟨x10, 0, none⟩) b.x.len p10) := Blk.cell (unhide SE).1.b10 1
            have a2 : wE.cell? ⟨A10, 2, none⟩ = some (.slice (some ⟨y10, 0, none⟩) b.p.len r10) := Blk.cell (unhide SE).1.b10 2
            have a3 : wE.cell? ⟨A10, 3, none⟩ = some (.bool b.flag) := Blk.cell (unhide SE).1.b10 3
            have a4 : wE.cell? ⟨A10, 4, none⟩ = some (.int .i64 b.pass) := Blk.cell (unhide SE).1.b10 4
            have a5 : wE.cell? ⟨A10, 5, none⟩ = some (.int .i64 b.fail) := Blk.cell (unhide SE).1.b10 5
            go_wp2_with fail
            refine (show Calls Try.prog 17 _ wE _ from pFits m _ wE (unhide GN wE (unhide KE)).2.2.2 (unhide GN wE (unhide KE)).2.2.1).mono ?_
            rw [unhide FO]
            rintro e wF ⟨rfl, kF⟩
            have KF := hide (((unhide SE).1.k.trans (unhide SE).1.k4).trans kF)
            clear kF m0 m1 m2 m3 m4 m5 m6 a0 a1 a2 a3 a4 a5 SE SC GN KD KE
            go_wp2
            go_ret
            exact ⟨rfl, unhide KF⟩
      · have dn : (fitD m b != 0) = true := by simpa using hf
        clear hf
        go_wp2
        go_ret
        exact ⟨rfl, (unhide S4).1⟩
end Go.Proofs.Ytpanfppnkgokdaa

/- The statement ModelFits holds for every input: the law returns true, and its arguments read afterwards as before. No condition. -/
namespace Go.Proofs.Ytpanfppnkgokdaa.modelFits
open Go.ChangeShapes Go.WideShapes Go.ChangeAt Go.RowKit Go.Joins Go.Proofs.Wd
set_option linter.unusedVariables false
set_option linter.unusedSimpArgs false
set_option maxRecDepth 10000

theorem own : ownKnob Try.prog.godebug = none := by kernel_rfl

set_option maxRecDepth 100000 in
theorem lifted (os : Os) (started : os.Started) (H : Type) (enc : TypeId × Value → H) :
    ReturnsInHanded {} Try.checked os 7 .any (Rows.modelFitsSpec.pre6 enc Try.prog Try.f7 Rows.modelFitsRow.domain false) (Rows.modelFitsSpec.post enc Try.prog Try.f7 false true false false) := by
  refine returnsInHanded_of_change (C := Try.checked) own started (by kernel_rfl) Try.func7
    (ChangeSpec.witness6 (enc := enc) (C := Try.checked) false ⟨#[], #[.agg #[.int .i64 0, .slice none 0 0, .slice none 0 0, .int .i64 0, .int .i64 0, .int .i64 0, .slice none 0 0], .agg #[.int .i64 0, .slice none 0 0, .slice none 0 0, .bool false, .int .i64 0, .int .i64 0], .int .i64 0], []⟩ 8 (by kernel_rfl) (by kernel_rfl) (by kernel_rfl) (by kernel_rfl)) ?_
  intro W base args ds gs before hval0 hW hcnd _
  have hval : ∀ (j : Nat) t v, Try.f7.params[j]? = some t → args[j]? = some v → Value.okWide Try.prog W .any base t v := hval0
  have hW' := hW
  obtain ⟨p, q, hA0, hV, rfl, hfz, hnd⟩ := hW
  have hA : DataW.TrodAll enc Try.prog W 0 (fun _ => true) true Try.f7.params.toList args.toList ds p := hA0
  rw [Try.params7] at hA hval
  obtain ⟨v0, vs0, d0, ds0, p0, q0, hargs, rfl, rfl, h0, r0⟩ := trodAll_cons hA
  obtain ⟨v1, vs1, d1, ds1, p1, q1, rfl, rfl, rfl, h1, r1⟩ := trodAll_cons r0
  obtain ⟨v2, vs2, d2, ds2, p2, q2, rfl, rfl, rfl, h2, r2⟩ := trodAll_cons r1
  obtain ⟨rfl, rfl, rfl⟩ := trodAll_nil r2
  obtain rfl : args = #[v0, v1, v2] := by cases args; simp_all
  obtain ⟨rfl, rfl⟩ := trodVars_none hV
  have hlt := hW'.lt
  have k0 := h0
  obtain ⟨fuel0, t0⟩ := h0
  obtain ⟨cs0, rfl, _⟩ := okWide_struct Try.underlying25 (hval 0 25 v0 rfl rfl)
  obtain ⟨x0, e0, ok0⟩ := open_model t0
  obtain rfl : cs0 = x0.cells := Array.ext' (by simpa [Value.cells] using e0)
  have k1 := h1
  obtain ⟨fuel1, t1⟩ := h1
  obtain ⟨cs1, rfl, _⟩ := okWide_struct Try.underlying27 (hval 1 27 v1 rfl rfl)
  obtain ⟨x1, e1, ok1⟩ := open_belief t1
  obtain rfl : cs1 = x1.cells := Array.ext' (by simpa [Value.cells] using e1)
  obtain ⟨a2, rfl, rfl, rfl, wa2⟩ := open_int Try.underlying3 (hval 2 3 v2 rfl rfl) h2
  clear hA0 hval0
  refine (lawModelFits x0 x1 a2 (i64_wf wa2) W ok0 ok1).mono fun e W' ⟨he, hg⟩ => ?_
  subst he
  exact ⟨_, rfl, post_of_kp (pa := p0 ++ (p1 ++ ([] ++ ([])))) (pv := []) hW' (fun _ => (trodAll_cons_mk (shut_bool Try.underlying4 _) trodAll_mk0)) (trodAll_cons_mk (WideElems.Trod_stays laid (by kernel_rfl) (of_decide_eq_true (by kernel_rfl)) k0 (fun x hx => hg.same (hlt x (by simp [hx]))) (fun x hx => by simpa using hlt x (by simp [hx]))) (trodAll_cons_mk (WideElems.Trod_stays laid (by kernel_rfl) (of_decide_eq_true (by kernel_rfl)) k1 (fun x hx => hg.same (hlt x (by simp [hx]))) (fun x hx => by simpa using hlt x (by simp [hx]))) (trodAll_cons_mk (shut_int Try.underlying3 wa2) trodAll_mk0))) rfl hg⟩

end Go.Proofs.Ytpanfppnkgokdaa.modelFits
namespace Go.Proofs.Ytpanfppnkgokdaa
theorem modelFits_holds : Rows.ModelFitsSaid :=
  OpenClaim.holds_of_wide 7 Try.f7 rfl rfl rfl rfl rfl rfl rfl ⟨rfl, rfl, rfl, rfl, rfl⟩ rfl rfl rfl rfl rfl (by kernel_rfl) Try.func7 (by kernel_rfl)
    (of_decide_eq_true (by kernel_rfl)) (by unfold Func.isWrapper; first | (rw [if_pos (by decide +kernel)]; kernel_rfl) | (rw [if_neg (by decide +kernel)]; exact ⟨rfl, rfl⟩))
    (fun os started H enc _ => modelFits.lifted os started H enc)
#print axioms modelFits_holds
end Go.Proofs.Ytpanfppnkgokdaa
