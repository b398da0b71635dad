/- MoRg AppK MoCo PolyRg PolyK0 PolyS PolyRh MoRd MoRh MoRn MoFl MatOv MatTD PolyQ MdlKb MdlKc MoM2, one after another, as far as MotionTells wants them. -/
import Derived.Test.YtjobgjcfkomhpaaGreatProg
import Derived.Test.YtjobgjcfkomhpaaGreatRows
import Derived.Test.YtjobgjcfkomhpaaGreatMotionTellsT4
set_option linter.unusedVariables false
set_option linter.unusedSimpArgs false
namespace Go.Proofs.YtjobgjcfkomhpaaGreat
open Go.RowKit Go.Shelf Go.Proofs.Wd
set_option maxRecDepth 10000
def GTx (n nn : Nat) (T : Nat → Nat → Int) (i B cp : Nat) : MV := ⟨n, n, some ⟨B, 0, none⟩, nn, cp, T i⟩
def GTl (base n nn : Nat) (T : Nat → Nat → Int) (v : Value) (l : List MV) (W : World) : Prop :=
 MLs W base v l ∧ ∀ i x, l[i]? = some x → ∃ B cp, x = GTx n nn T i B cp ∧ nn ≤ cp ∧ base ≤ B ∧ Own B nn (T i) W
section
variable {base n nn : Nat} {T : Nat → Nat → Int} {v v' : Value} {l : List MV} {W W' : World}
theorem GTl.kp (h : GTl base n nn T v l W) (k : Kp W W') : GTl base n nn T v l W' :=
 ⟨h.1.kp k, fun i x hx => let ⟨B, cp, e, h1, h2, cur, h3, h4⟩ := h.2 i x hx; ⟨B, cp, e, h1, h2, cur, Blk.kp h3 k, h4⟩⟩
theorem GTl.own_ge (h : GTl base n nn T v l W) : ∀ g, v.ownBlock = some g → base ≤ g ∧ ∃ cur, Blk g cur 38 W := fun g e => by
 rcases h.1.2 with ⟨e2, _⟩ | ⟨g', cap, cur, rfl, hb, hg, r⟩
 ·rw [e2] at e
  cases e
 ·cases e
  exact ⟨hb, cur, hg⟩
theorem GTl.mod {b : Nat} (h : GTl base n nn T v l W) (m : Mod b W W') (hv : ∀ g, v.ownBlock = some g → g ≠ b) (ho : ∀ x ∈ l, blkM x ≠ b) : GTl base n nn T v l W' :=
 ⟨h.1.blk fun g cs e _ hb => Blk.keep hb m (hv g e), fun i x hx => by
  obtain ⟨B, cp, rfl, h1, h2, cur, h3, h4⟩ := h.2 i x hx
  exact ⟨B, cp, rfl, h1, h2, cur, Blk.keep h3 m (ho _ (List.mem_of_getElem? hx)), h4⟩⟩
theorem GTl.unit {b : Nat} (h : GTl base n nn T v l W) (m : Mod b W W') (hb : b < base) : GTl base n nn T v l W' :=
 h.mod m (fun g e => by have := (h.own_ge g e).1; omega) (fun x hx => by
  obtain ⟨i, hi⟩ := List.getElem?_of_mem hx
  obtain ⟨B, cp, rfl, h1, h2, h3⟩ := h.2 i x hi
  show B ≠ b
  omega)
theorem GTl.mk {b : Nat} (h : GTl base n nn T v l W) (m : Mk b W W') (hb : b < base) : GTl base n nn T v l W' :=
 ⟨h.1.blk fun g cs e hge hbk => Blk.mk hbk m (by omega), fun i x hx => by
  obtain ⟨B, cp, rfl, h1, h2, cur, h3, h4⟩ := h.2 i x hx
  exact ⟨B, cp, rfl, h1, h2, cur, Blk.mk h3 m (by omega), h4⟩⟩
theorem GTl.far {b : Nat} (h : GTl base n nn T v l W) (hb : W.heap.size ≤ b) : ∀ x ∈ l, blkM x ≠ b := fun x hx => by
 obtain ⟨i, hi⟩ := List.getElem?_of_mem hx
 obtain ⟨B, cp, rfl, h1, h2, h3⟩ := h.2 i x hi
 obtain ⟨cur, q1, _⟩ := h3
 have := Blk.lt q1
 show B ≠ b
 omega
theorem GTl.app {wa w4 : World} {B cp k : Nat} (h : GTl base n nn T v l wa) (hk : l.length = k) (hB : base ≤ B) (hcp : nn ≤ cp) (ho : Own B nn (T k) wa)
  (hown : w4.ownsRow base 38 3 v' (k + 1) (flat l ++ (GTx n nn T k B cp).cells.toList)) (hg : wa.grownBy w4 v.ownBlock) : GTl base n nn T v' (l ++ [GTx n nn T k B cp]) w4 := by
 have keep : ∀ b Z, Own b nn Z wa → Own b nn Z w4 := fun b Z ⟨cur, h1, h2⟩ => ⟨cur, Blk.by h1 hg (fun e => by
  obtain ⟨_, cur2, hb⟩ := h.own_ge b e.symm
  exact blk_ne h1 hb (by decide +kernel) rfl), h2⟩
 refine ⟨?_, fun i x hx => ?_⟩
 ·unfold MLs
  rw [flat_snoc, List.length_append, hk]
  exact hown
 ·rw [List.getElem?_append] at hx
  split at hx
  ·obtain ⟨B', cp', e, a1, a2, a3⟩ := h.2 i x hx
   exact ⟨B', cp', e, a1, a2, keep _ _ a3⟩
  ·rename_i hi
   have : i = l.length := by
    rcases Nat.lt_or_ge (i - l.length) 1 with h1 | h1
    ·omega
    ·rw [List.getElem?_eq_none (by simpa using h1)] at hx; cases hx
   subst this
   rw [Nat.sub_self] at hx
   cases hx
   rw [hk]
   exact ⟨B, cp, rfl, hcp, hB, keep _ _ ho⟩
end
def GTo (w : World) (R n nn : Nat) (cs : Array Value) (T : Nat → Nat → Int) (C : Nat → Bool) (c0 : Bool) (n0 : Int) (m : Nat) (v : Value) (wr : World) : Prop :=
 ∃ (l : List MV), l.length = m ∧ GTl (w.heap.size + 1) n nn T v l wr ∧ (∃ q, n0 ≤ q ∧ q ≤ n0 + (m : Int) * 4000 ∧ RC R (c0 || C (m - 1)) q wr) ∧ Mk R w wr ∧ Blk w.heap.size cs 25 wr
def GIn (w : World) (R n nn : Nat) (cs : Array Value) (T : Nat → Nat → Int) (Y : Nat → Int) (K : Nat) (c1 : Bool) (n0 : Int) (q : Nat) (v : Value) (Xb Bx cx j : Nat) (wr : World) : Prop :=
 (∃ l : List MV, l.length = q + 1 ∧ GTl (w.heap.size + 1) n nn T v l wr ∧ (∀ x ∈ l, blkM x ≠ Bx) ∧ (∀ g, v.ownBlock = some g → g ≠ Xb)) ∧ Own Bx nn (mixZ Y K j) wr ∧ nn ≤ cx ∧ w.heap.size < Bx ∧ w.heap.size < Xb ∧
  Blk Xb #[.int .i64 n, .int .i64 n, .slice (some ⟨Bx, 0, none⟩) nn cx] 38 wr ∧ Blk w.heap.size cs 25 wr ∧
  (∃ z, n0 ≤ z ∧ z ≤ n0 + ((q + 1 : Nat) : Int) * 4000 + 3500 + 2 * j ∧ RC R (c1 || orC (dvG Y K) j) z wr) ∧ Mk R w wr
theorem GTo.step {w wr w4 : World} {R n nn q Bx cx K : Nat} {cs : Array Value} {T : Nat → Nat → Int} {Y : Nat → Int} {C : Nat → Bool} {c0 c1 : Bool} {n0 z : Int} {v v' : Value} {l : List MV} (hn144 : nn ≤ 144) (hR : R < w.heap.size) (eT : T (q + 1) = dvZ Y K) (eC : (c1 || orC (dvG Y K) nn) = (c0 || C (q + 1)))
  (h : l.length = q + 1 ∧ GTl (w.heap.size + 1) n nn T v l wr) (ho : Own Bx nn (mixZ Y K nn) wr) (hcx : nn ≤ cx) (hB : w.heap.size < Bx) (hab : Blk w.heap.size cs 25 wr)
  (hz : n0 ≤ z ∧ z ≤ n0 + ((q + 1 : Nat) : Int) * 4000 + 3500 + 2 * nn ∧ RC R (c1 || orC (dvG Y K) nn) z wr) (hm : Mk R w wr)
  (hown : w4.ownsRow (w.heap.size + 1) 38 3 v' (q + 1 + 1) (flat l ++ (GTx n nn T (q + 1) Bx cx).cells.toList)) (hg : (wr.alloc (.cells (GTx n nn T (q + 1) Bx cx).cells 38)).grownBy w4 v.ownBlock) : GTo w R n nn cs T C c0 n0 (q + 1 + 1) v' w4 := by
 have ga : Grown wr (wr.alloc (.cells (GTx n nn T (q + 1) Bx cx).cells 38)) := (Grown.refl _).alloc _ _
 have own : Own Bx nn (T (q + 1)) (wr.alloc (.cells (GTx n nn T (q + 1) Bx cx).cells 38)) := by
  obtain ⟨cur, o1, o2⟩ := ho
  exact ⟨cur, Blk.grown o1 ga, fun i hi => by rw [o2 i hi, eT]; simp only [mixZ, if_pos hi]⟩
 have far : ∀ g, v.ownBlock = some g → w.heap.size + 1 ≤ g := fun g e => (h.2.own_ge g e).1
 have nw : ∀ g, v.ownBlock = some g → w.heap.size ≠ g := fun g e => by have := far g e; omega
 have nR : ∀ g, v.ownBlock = some g → R ≠ g := fun g e => by have := far g e; omega
 refine ⟨l ++ [GTx n nn T (q + 1) Bx cx], by rw [List.length_append, h.1]; rfl, (h.2.kp (Kp.of ga)).app h.1 hB hcx own hown hg, ⟨z, hz.1, by omega, ?_⟩, (hm.trans (Mk.kp (Kp.of ga))).by hg (fun i e => by have := far i e; omega), Blk.by (Blk.grown hab ga) hg (fun e => nw _ e.symm rfl)⟩
 show RC R (c0 || C (q + 1)) z w4
 rw [← eC]
 exact Blk.by (Blk.grown hz.2.2 ga) hg (fun e => nR _ e.symm rfl)
theorem GIn.put {w wr w7 : World} {R n nn q Xb Bx cx j K : Nat} {cs : Array Value} {T : Nat → Nat → Int} {Y : Nat → Int} {c1 wc dc : Bool} {n0 z y : Int} {v : Value} (h : GIn w R n nn cs T Y K c1 n0 q v Xb Bx cx j wr) (hR : R < w.heap.size) (m : Mod R wr w7) (h1 : n0 ≤ z) (h2 : z ≤ n0 + ((q + 1 : Nat) : Int) * 4000 + 3500 + 2 * j)
  (u : RC R (c1 || orC (dvG Y K) j || wc || dc) (z + 1 + 1) w7) (e2 : orC (dvG Y K) (j + 1) = (orC (dvG Y K) j || (wc || dc))) (e1 : y = dvZ Y K j) (hj : j < nn) :
  GIn w R n nn cs T Y K c1 n0 q v Xb Bx cx (j + 1) (w7.setCell ⟨Bx, j, none⟩ (.int .i64 y)) ∧ w7.frozen? ⟨Bx, j, none⟩ = false := by
 obtain ⟨⟨l, a1, a2, a3, a4⟩, a5, a6, a7, a8, a9, a10, _, a12⟩ := h
 have dl := a2.unit m (by omega : R < w.heap.size + 1)
 have s : Mod Bx w7 (w7.setCell ⟨Bx, j, none⟩ (.int .i64 y)) := (Mod.refl _ _).setCell _ _
 have o7 : Own Bx nn (mixZ Y K j) w7 := a5.mk (Mk.of m) (by omega)
 obtain ⟨cur, p1, p2⟩ := o7
 have vB : ∀ g, v.ownBlock = some g → g ≠ Bx := fun g e => by
  obtain ⟨_, cur2, hg⟩ := dl.own_ge g e
  exact (blk_ne p1 hg (by decide +kernel)).symm
 have XB : Xb ≠ Bx := (blk_ne p1 (Blk.keep a9 m (by omega)) (by decide +kernel)).symm
 refine ⟨⟨⟨l, a1, dl.mod s vB a3, a3, a4⟩, ?_, a6, a7, a8, Blk.keep (Blk.keep a9 m (by omega)) s XB, Blk.keep (Blk.keep a10 m (by omega)) s (by omega), ⟨z + 1 + 1, by omega, by omega, ?_⟩, (a12.trans (Mk.of m)).new s (by omega)⟩, Blk.free p1 j⟩
 ·refine ⟨_, Blk.set p1 j _, fun i hi => ?_⟩
  rw [Array.getElem?_setIfInBounds]
  by_cases e : j = i
  ·subst e
   have : j < cur.size := by
    have := p2 j hj
    rcases Nat.lt_or_ge j cur.size with h | h
    ·exact h
    ·rw [Array.getElem?_eq_none (by omega)] at this; cases this
   simp [this, mixZ, e1]
  ·rw [if_neg e, p2 i hi]
   unfold mixZ
   by_cases h3 : i < j
   ·rw [if_pos h3, if_pos (by omega)]
   ·rw [if_neg h3, if_neg (by omega)]
 ·rw [e2, ← Bool.or_assoc, ← Bool.or_assoc]
  exact Blk.keep u s (by omega)
end Go.Proofs.YtjobgjcfkomhpaaGreat
namespace Go.Proofs.YtjobgjcfkomhpaaGreat
open Go.RowKit Go.Proofs.Wd
set_option maxRecDepth 10000
theorem run_append_keepM (w : World) (ty : TypeId) (base n : Nat) (v : Value) (xs : List Value) (hown : w.ownsRow base 38 3 v n xs) (a : Addr) (m c : Nat) (news : List Value) (hl : news.length = m * 3) (hnews : ∀ j u, news[j]? = some u → w.cell? (a.add j) = some u) (h1 : ∀ u ∈ news, u.oneCell' = true)
  (hm : 1 ≤ m ∧ m ≤ 1000000) (hn : n ≤ 1000000) (hb : base ≤ w.heap.size) :
  ∃ v' w', (Builtin.append_ #[73, 73] ty #[v, .slice (some a) m c]).run Tryz.prog w = .ok v' w' ∧ w'.ownsRow base 38 3 v' (n + m) (xs ++ news) ∧ w.grownBy w' v.ownBlock ∧ (∀ g, v.ownBlock = some g → ∀ j u, xs[j]? = some u → w'.cell? ⟨g, j, none⟩ = some u) := by
 obtain ⟨i0, hi, hz0, hz1, hz2⟩ := info_parts Tryz.infoMat
 have h63 : n + m ≤ maxLen := by unfold maxLen; omega
 have hby : (n + m) * 40 ≤ 140737488355328 := by omega
 obtain ⟨v', w', hr, r1, r2, _⟩ := run_append_own (P := Tryz.prog) w base 73 ty 38 i0 (.agg #[.int .i64 0, .int .i64 0, .slice none 0 0]) 3 40 Tryz.underlying73 hi hz0 hz1 hz2 rfl (by decide) v n xs hown a m c news hl hnews h1 h63 hby hb
 refine ⟨v', w', hr, r1, r2, ?_⟩
 rcases hown.2 with ⟨rfl, rfl⟩ | ⟨g, cap, cur, rfl, hbg, hg, hnc, hcm, hcs, htake⟩
 ·intro g e
  cases e
 ·have holds : ∀ j u, xs[j]? = some u → w.cell? ((⟨g, 0, none⟩ : Addr).add j) = some u := hown.cells (g := g) rfl
  intro g' e j u hj
  cases e
  by_cases hroom : n + m ≤ cap
  ·have hfit : n * i0.size + news.length ≤ cur.size := by rw [hl, hcs, hz1, ← Nat.add_mul]; exact Nat.mul_le_mul_right _ hroom
   have hr2 := run_append_room (P := Tryz.prog) w 73 ty 38 i0 Tryz.underlying73 hi g n cap cur hg a m c news (by rw [hz1]; exact hl) hnews h1 hroom hfit
   rw [hr] at hr2
   cases hr2
   have := r1.cells (g := g) rfl j u (by rw [List.getElem?_append_left (List.getElem?_eq_some_iff.1 hj).1]; exact hj)
   rwa [Go.WideShapes.add_plain, Nat.zero_add] at this
  ·have hr2 := run_append_grow (P := Tryz.prog) w 73 ty 38 i0 (.agg #[.int .i64 0, .int .i64 0, .slice none 0 0]) Tryz.underlying73 hi hz0 ⟨g, 0, none⟩ n cap xs (by rw [hz1]; exact hown.1) holds a m c news (by rw [hz1]; exact hl) hnews (by omega) (by omega) (growslice_fits (by omega) (by rw [hz2]; exact hby))
   rw [hr] at hr2
   cases hr2
   have h0 := holds j u hj
   rw [Go.WideShapes.add_plain, Nat.zero_add] at h0
   exact gat (((Grown.refl w).drew).alloc _ _) h0
theorem wp_append_keepM {o : Oper} {a : Act} {w : World} {K : Act → World → Prop} {Q : Exit → Act → World → Prop} (s x : Operand) (ho : o.op = .call { callee := .builtin .append, args := #[s, x], argTypes := #[73, 73] })
  (base : Nat) (v : Value) (n : Nat) (xs : List Value) (hs : a.eval s = v) (hown : w.ownsRow base 38 3 v n xs)
  (ad : Addr) (m c : Nat) (news : List Value) (hx : a.eval x = .slice (some ad) m c) (hl : news.length = m * 3) (hnews : ∀ j u, news[j]? = some u → w.cell? (ad.add j) = some u) (h1 : ∀ u ∈ news, u.oneCell' = true)
  (hm : 1 ≤ m ∧ m ≤ 1000000) (hn : n ≤ 1000000) (hb : base ≤ w.heap.size)
  (h : ∀ v' w', w'.ownsRow base 38 3 v' (n + m) (xs ++ news) → w.grownBy w' v.ownBlock → (∀ g, v.ownBlock = some g → ∀ j u, xs[j]? = some u → w'.cell? ⟨g, j, none⟩ = some u) → K (a.put o.dst v') w') : Oper.wp Tryz.prog o a w K Q := by
 obtain ⟨v', w', hr, h2, h3, h4⟩ := run_append_keepM w o.type base n v xs hown ad m c news hl hnews h1 hm hn hb
 unfold Oper.wp execOp
 simp only [ho, resolve, invoke, builtin, Sem.run_bind, Sem.run_pure, Result.andThen_ok, List.map_toArray, List.map_cons, List.map_nil, hs, hx, hr]
 exact h v' w' h2 h3 h4
end Go.Proofs.YtjobgjcfkomhpaaGreat
namespace Go.Proofs.YtjobgjcfkomhpaaGreat
open Go.RowKit Go.Shelf Go.Proofs.Wd
set_option maxRecDepth 10000
def UpC (U n nn mb fb ub ab Ba ca : Nat) (T : TypeId) (cs : Array Value) (qa : Option Addr) (A Q : Nat → Int) (W : World) : Prop :=
 Blk mb cs 25 W ∧ Blk fb #[.func (.func 90) #[] #[.pointer (some ⟨mb, 0, none⟩), .pointer (some ⟨fb, 0, none⟩), .pointer (some ⟨ub, 0, none⟩), .pointer (some ⟨ab, 0, none⟩)]] T W ∧ Blk ub #[.pointer (some ⟨U, 0, none⟩)] 26 W ∧ Blk ab #[.int .i64 n, .int .i64 n, .slice (some ⟨Ba, 0, none⟩) nn ca] 38 W ∧ Own Ba nn A W ∧ Row W qa n Q ∧ (mb ≠ U ∧ fb ≠ U ∧ ub ≠ U ∧ ab ≠ U ∧ Ba ≠ U ∧ Off U n qa)
theorem UpC.mk {U n nn mb fb ub ab Ba ca : Nat} {T : TypeId} {cs : Array Value} {qa : Option Addr} {A Q : Nat → Int} {W W' : World} (h : UpC U n nn mb fb ub ab Ba ca T cs qa A Q W) (m : Mk U W W') : UpC U n nn mb fb ub ab Ba ca T cs qa A Q W' := by
 obtain ⟨h1, h2, h3, h4, h5, h6, n1, n2, n3, n4, n5, n6⟩ := h
 exact ⟨Blk.mk h1 m n1, Blk.mk h2 m n2, Blk.mk h3 m n3, Blk.mk h4 m n4, h5.mk m n5, h6.mk m n6, n1, n2, n3, n4, n5, n6⟩
def UpP (U n nn : Nat) (c0 : Bool) (n0 : Int) (T : Nat → Nat → Int) (C : Nat → Bool) (k : Nat) (w : World) (e : Ending) (w' : World) : Prop :=
 ∃ (v : Value) (l : List MV), e = .returned v ∧ l.length = k + 1 ∧ GTl w.heap.size n nn T v l w' ∧ UW U (c0 || C k) n0 ((k : Int) * 1000) w' ∧ Mk U w w'
theorem gtl_one {w : World} {base n nn b B cp : Nat} {T : Nat → Nat → Int} (h : Blk b (GTx n nn T 0 B cp).cells 38 w) (hb : base ≤ b) (hB : base ≤ B) (hc : nn ≤ cp) (ho : Own B nn (T 0) w) : GTl base n nn T (.slice (some ⟨b, 0, none⟩) 1 1) [GTx n nn T 0 B cp] w :=
 ⟨mls_one _ h hb, fun i x hx => by
  cases i with
  | zero =>
   cases hx
   exact ⟨B, cp, rfl, hc, hB, ho⟩
  | succ i => cases hx⟩
set_option maxRecDepth 50000 in
set_option maxHeartbeats 8000000 in
theorem upTo_zero (U n nn mb fb ub ab Ba ca : Nat) (T : TypeId) (aa qa ro : Option Addr) (ac qc rl rc : Nat) (tick gate rmin : Int) (A Q : Nat → Int) (c0 : Bool) (n0 : Int) (hn : 1 ≤ n ∧ n ≤ 6) (hnn : n * n = nn) (w : World) (h : UC U c0 n0 w) (hC : UpC U n nn mb fb ub ab Ba ca T #[.int .i64 n, .slice aa nn ac, .slice qa n qc, .int .i64 tick, .int .i64 gate, .int .i64 rmin, .slice ro rl rc] qa A Q w) :
  Calls Tryz.prog 90 (#[.int .i64 ((1 : Nat) : Int)] ++ #[.pointer (some ⟨mb, 0, none⟩), .pointer (some ⟨fb, 0, none⟩), .pointer (some ⟨ub, 0, none⟩), .pointer (some ⟨ab, 0, none⟩)]) w fun e w' => UpP U n nn c0 n0 (gainZ A Q n) (gainC A Q n) 0 w e w' := by
 have DG := matDiag_ok n qc qa Q ⟨hn.1, by omega⟩ w hC.2.2.2.2.2.1
 rw [hnn] at DG
 have HD := hide DG
 have HH := hide (And.intro h hC)
 have n1 : Hid (1 ≤ nn) := by
  have := Nat.mul_le_mul hn.1 hn.1
  rw [hnn] at this
  exact this
 have y2 : w.cell? ⟨mb, 2, none⟩ = some (.slice qa n qc) := Blk.cell hC.1 2
 have lU : Hid (U < w.heap.size) := Blk.lt h
 show Calls Tryz.prog 90 #[.int .i64 1, .pointer (some ⟨mb, 0, none⟩), .pointer (some ⟨fb, 0, none⟩), .pointer (some ⟨ub, 0, none⟩), .pointer (some ⟨ab, 0, none⟩)] w _
 clear DG h hC hn hnn
 go_enter Tryz.func90, Tryz.ntmps90
 go_wp2_with fail
 refine (unhide HD).mono ?_
 rintro e w2 ⟨_, cp, B, rfl, hB, hb, hcp, k2⟩
 obtain ⟨rfl, hbn⟩ := hb.resolve_left (Nat.ne_of_gt (unhide n1))
 have g1 : Grown w2 (w2.alloc (.cells #[.int .i64 n, .int .i64 n, .slice (some ⟨B, 0, none⟩) nn cp] 38)) := (Grown.refl _).alloc _ _
 have b1 : Blk w2.heap.size #[.int .i64 n, .int .i64 n, .slice (some ⟨B, 0, none⟩) nn cp] 38 (w2.alloc (.cells #[.int .i64 n, .int .i64 n, .slice (some ⟨B, 0, none⟩) nn cp] 38)) := Blk.new _ _ _
 have x0 : (w2.alloc (.cells #[.int .i64 n, .int .i64 n, .slice (some ⟨B, 0, none⟩) nn cp] 38)).cell? ⟨w2.heap.size, 0, none⟩ = some (.int .i64 n) := Blk.cell b1 0
 have x1 : (w2.alloc (.cells #[.int .i64 n, .int .i64 n, .slice (some ⟨B, 0, none⟩) nn cp] 38)).cell? ⟨w2.heap.size, 1, none⟩ = some (.int .i64 n) := Blk.cell b1 1
 have x2 : (w2.alloc (.cells #[.int .i64 n, .int .i64 n, .slice (some ⟨B, 0, none⟩) nn cp] 38)).cell? ⟨w2.heap.size, 2, none⟩ = some (.slice (some ⟨B, 0, none⟩) nn cp) := Blk.cell b1 2
 have g2 : Grown w2 ((w2.alloc (.cells #[.int .i64 n, .int .i64 n, .slice (some ⟨B, 0, none⟩) nn cp] 38)).alloc (.cells #[.int .i64 n, .int .i64 n, .slice (some ⟨B, 0, none⟩) nn cp] 38)) := g1.alloc _ _
 have b2 : Blk (w2.heap.size + 1) (GTx n nn (gainZ A Q n) 0 B cp).cells 38 ((w2.alloc (.cells #[.int .i64 n, .int .i64 n, .slice (some ⟨B, 0, none⟩) nn cp] 38)).alloc (.cells #[.int .i64 n, .int .i64 n, .slice (some ⟨B, 0, none⟩) nn cp] 38)) := by
  have := Blk.new (w2.alloc (.cells #[.int .i64 n, .int .i64 n, .slice (some ⟨B, 0, none⟩) nn cp] 38)) #[.int .i64 n, .int .i64 n, .slice (some ⟨B, 0, none⟩) nn cp] 38
  rw [World.size_alloc] at this
  exact this
 have R := hide (And.intro hB (And.intro hbn (And.intro hcp (And.intro k2 (And.intro g2 b2)))))
 clear hB hb hbn hcp k2 g1 b1 g2 b2 HD y2
 go_wp2
 go_ret
 obtain ⟨hB, hbn, hcp, k2, g2, b2⟩ := unhide R
 obtain ⟨hu, hC⟩ := unhide HH
 have s2 := k2.2.2.2
 refine ⟨_, _, rfl, rfl, gtl_one b2 (by omega) hB hcp (Own.of (Blk.grown hbn g2)), ⟨n0, by omega, by omega, ?_⟩, (Mk.kp k2).grown g2⟩
 show UC U (c0 || false) _ _
 rw [Bool.or_false]
 exact Blk.grown (Blk.kp hu k2) g2
set_option maxRecDepth 50000 in
set_option maxHeartbeats 16000000 in
theorem upTo_succ (U n nn mb fb ub ab Ba ca : Nat) (T : TypeId) (aa qa ro : Option Addr) (ac qc rl rc : Nat) (tick gate rmin : Int) (A Q : Nat → Int) (c0 : Bool) (n0 : Int) (hn0 : 0 ≤ n0 ∧ n0 < 100000000000000000) (hn : 1 ≤ n ∧ n ≤ 6) (hnn : n * n = nn) (hca : nn ≤ ca) (hA : ∀ j, j < nn → I64 (A j)) (hQ : ∀ i, i < n → I64 (Q i)) (k : Nat) (hk : k ≤ 22) (w : World) (h : UC U c0 n0 w) (hC : UpC U n nn mb fb ub ab Ba ca T #[.int .i64 n, .slice aa nn ac, .slice qa n qc, .int .i64 tick, .int .i64 gate, .int .i64 rmin, .slice ro rl rc] qa A Q w)
  (IH : Calls Tryz.prog 90 (#[.int .i64 ((k + 1 : Nat) : Int)] ++ #[.pointer (some ⟨mb, 0, none⟩), .pointer (some ⟨fb, 0, none⟩), .pointer (some ⟨ub, 0, none⟩), .pointer (some ⟨ab, 0, none⟩)]) w fun e w' => UpP U n nn c0 n0 (gainZ A Q n) (gainC A Q n) k w e w') :
  Calls Tryz.prog 90 (#[.int .i64 ((k + 2 : Nat) : Int)] ++ #[.pointer (some ⟨mb, 0, none⟩), .pointer (some ⟨fb, 0, none⟩), .pointer (some ⟨ub, 0, none⟩), .pointer (some ⟨ab, 0, none⟩)]) w fun e w' => UpP U n nn c0 n0 (gainZ A Q n) (gainC A Q n) (k + 1) w e w' := by
 obtain ⟨K1, hK1⟩ : ∃ K1, k + 1 = K1 := ⟨_, rfl⟩
 obtain ⟨K, hK⟩ : ∃ K, k + 2 = K := ⟨_, rfl⟩
 rw [hK1] at IH
 rw [hK]
 have IHH : Hid (Calls Tryz.prog 90 #[.int .i64 (K1 : Int), .pointer (some ⟨mb, 0, none⟩), .pointer (some ⟨fb, 0, none⟩), .pointer (some ⟨ub, 0, none⟩), .pointer (some ⟨ab, 0, none⟩)] w fun e w' => UpP U n nn c0 n0 (gainZ A Q n) (gainC A Q n) k w e w') := IH
 have wn1 : wrap64 ((K : Int) - 1) = (K1 : Int) := by unfold wrap64; omega
 have wn2 : wrap64 ((K : Int) - 2) = (k : Int) := by unfold wrap64; omega
 have wn3 : IntKind.i64.wrap ((K : Int) - 2) = (k : Int) := by
  rw [IntKind.wrap_i64]
  omega
 have kk : k < K1 := by omega
 have b1 : ((K : Int) == 1) = false := beq_eq_false_iff_ne.2 (by omega)
 have HK : Hid (K = k + 2 ∧ K1 = k + 1 ∧ k ≤ 22) := ⟨hK.symm, hK1.symm, hk⟩
 have HH := hide (And.intro h hC)
 have lU : Hid (U < w.heap.size ∧ 0 ≤ n0 ∧ n0 < 100000000000000000) := ⟨Blk.lt h, hn0⟩
 have HN : Hid ((1 ≤ n ∧ n ≤ 6) ∧ n * n = nn ∧ nn ≤ ca) := ⟨hn, hnn, hca⟩
 have HA := hide hA
 have HI : Hid (∀ i p, p < nn → I64 (gainZ A Q n i p)) := fun i p hp => gainZ_I64 A Q n hQ i p (by rw [hnn]; exact hp)
 have y0 : w.cell? ⟨fb, 0, none⟩ = some (.func (.func 90) #[] #[.pointer (some ⟨mb, 0, none⟩), .pointer (some ⟨fb, 0, none⟩), .pointer (some ⟨ub, 0, none⟩), .pointer (some ⟨ab, 0, none⟩)]) := Blk.cell hC.2.1 0
 show Calls Tryz.prog 90 #[.int .i64 (K : Int), .pointer (some ⟨mb, 0, none⟩), .pointer (some ⟨fb, 0, none⟩), .pointer (some ⟨ub, 0, none⟩), .pointer (some ⟨ab, 0, none⟩)] w _
 clear IH h hC hn hnn hca hA hQ hK hK1 hk hn0
 go_enter Tryz.func90, Tryz.ntmps90
 go_wp2_with fail
 refine (unhide IHH).mono ?_
 rintro e w2 ⟨v, l, rfl, hl, hD, ⟨cnt, q1, q2, hu⟩, hm⟩
 rw [← (unhide HK).2.1] at hl
 obtain ⟨g, cg, rfl, hcg, hgb, hcells⟩ := hD.1.openL hl (by omega)
 have hkl : k < l.length := by omega
 obtain ⟨By, cy, hx, hcy, hBy, hoy⟩ := hD.2 k _ (List.getElem?_eq_getElem hkl)
 obtain ⟨p0, p1, p2⟩ := hcells k _ (List.getElem?_eq_getElem hkl)
 rw [hx] at p0 p1 p2
 have HX : Hid (l[k]? = some (GTx n nn (gainZ A Q n) k By cy)) := by rw [← hx]; exact List.getElem?_eq_getElem hkl
 have p0 : w2.cell? ⟨g, k * 3, none⟩ = some (.int .i64 n) := p0
 have p1 : w2.cell? ⟨g, k * 3 + 1, none⟩ = some (.int .i64 n) := p1
 have p2 : w2.cell? ⟨g, k * 3 + 2, none⟩ = some (.slice (some ⟨By, 0, none⟩) nn cy) := p2
 have hC2 := (unhide HH).2.mk hm
 have u0 : w2.cell? ⟨ub, 0, none⟩ = some (.pointer (some ⟨U, 0, none⟩)) := Blk.cell hC2.2.2.1 0
 have a0 : w2.cell? ⟨ab, 0, none⟩ = some (.int .i64 n) := Blk.cell hC2.2.2.2.1 0
 have a1 : w2.cell? ⟨ab, 1, none⟩ = some (.int .i64 n) := Blk.cell hC2.2.2.2.1 1
 have a2 : w2.cell? ⟨ab, 2, none⟩ = some (.slice (some ⟨Ba, 0, none⟩) nn ca) := Blk.cell hC2.2.2.2.1 2
 have lw := unhide lU
 have hk2 := unhide HK
 have hsz := hm.2.2.2
 have g2d : Kp w2 w2.drew := Kp.of ((Grown.refl _).drew)
 have NX := hide (moNext U n nn Ba 0 ca By 0 cy K (c0 || gainC A Q n k) cnt ⟨by omega, by omega⟩ A (gainZ A Q n k) (unhide HN).1 (unhide HN).2.1 (by omega) (unhide HN).2.2 (unhide HA) (fun p hp => unhide HI k p hp) w2.drew hu (fun j hj => by rw [Nat.zero_add]; exact hC2.2.2.2.2.1.cellAt j hj) (fun j hj => by rw [Nat.zero_add]; exact hoy.cellAt j hj) hC2.2.2.2.2.2.2.2.2.2.2.1 (by omega))
 have S2 : Hid (GTl w.heap.size n nn (gainZ A Q n) (.slice (some ⟨g, 0, none⟩) K1 cg) l w2.drew ∧ Mk U w w2.drew ∧ l.length = K1 ∧ UpC U n nn mb fb ub ab Ba ca T #[.int .i64 n, .slice aa nn ac, .slice qa n qc, .int .i64 tick, .int .i64 gate, .int .i64 rmin, .slice ro rl rc] qa A Q w2.drew ∧ n0 ≤ cnt ∧ cnt ≤ n0 + (k : Int) * 1000 ∧ w.heap.size ≤ g) := ⟨hD.kp g2d, hm.trans (Mk.kp g2d), hl, hC2.mk (Mk.kp g2d), q1, q2, hgb⟩
 have hHeld0 : w2.drew.cell? ⟨ub, 0, none⟩ = some (.pointer (some ⟨U, 0, none⟩)) ∧ w2.drew.cell? ⟨ab, 0, none⟩ = some (.int .i64 n) ∧ w2.drew.cell? ⟨ab, 1, none⟩ = some (.int .i64 n) ∧ w2.drew.cell? ⟨ab, 2, none⟩ = some (.slice (some ⟨Ba, 0, none⟩) nn ca) ∧ w2.drew.cell? ⟨g, k * 3, none⟩ = some (.int .i64 n) ∧ w2.drew.cell? ⟨g, k * 3 + 1, none⟩ = some (.int .i64 n) ∧ w2.drew.cell? ⟨g, k * 3 + 2, none⟩ = some (.slice (some ⟨By, 0, none⟩) nn cy) := ⟨u0, a0, a1, a2, p0, p1, p2⟩
 clear hl hD q1 q2 hu hm hcg hgb hcells hkl hx hcy hBy hoy p0 p1 p2 hC2 u0 a0 a1 a2 lw hk2 hsz g2d IHH y0
 go_wp2_with fail
 refine region_G (fun w' => w'.cell? ⟨ub, 0, none⟩ = some (.pointer (some ⟨U, 0, none⟩)) ∧ w'.cell? ⟨ab, 0, none⟩ = some (.int .i64 n) ∧ w'.cell? ⟨ab, 1, none⟩ = some (.int .i64 n) ∧ w'.cell? ⟨ab, 2, none⟩ = some (.slice (some ⟨Ba, 0, none⟩) nn ca) ∧ w'.cell? ⟨g, k * 3, none⟩ = some (.int .i64 n) ∧ w'.cell? ⟨g, k * 3 + 1, none⟩ = some (.int .i64 n) ∧ w'.cell? ⟨g, k * 3 + 2, none⟩ = some (.slice (some ⟨By, 0, none⟩) nn cy)) 12 (by kernel_rfl) hHeld0 (fun hHeld => ?_)
 clear hHeld0
 refine take_G (i := 0) (d := 24) (v := .slice (some ⟨g, 0, none⟩) K1 cg) rfl rfl (by kernel_rfl) (by kernel_rfl) (by kernel_rfl) (by kernel_rfl) (by kernel_rfl) (Or.inl ⟨by rfl, ?_⟩) hHeld ?_
 ·intro wS hSw
  obtain ⟨z0, z1, z2, z3, z4, z5, z6⟩ := hSw
  clear hHeld
  go_simp
 (try simp only [Act.put, List.setIfInBounds_toArray, List.set_cons_zero, List.set_cons_succ])
 refine take_G (i := 1) (d := 25) (v := .pointer (some ⟨U, 0, none⟩)) rfl rfl (by kernel_rfl) (by kernel_rfl) (by kernel_rfl) (by kernel_rfl) (by kernel_rfl) (Or.inl ⟨by rfl, ?_⟩) hHeld ?_
 ·intro wS hSw
  obtain ⟨z0, z1, z2, z3, z4, z5, z6⟩ := hSw
  clear hHeld
  go_simp
 (try simp only [Act.put, List.setIfInBounds_toArray, List.set_cons_zero, List.set_cons_succ])
 refine take_G (i := 2) (d := 26) (v := .agg #[.int .i64 n, .int .i64 n, .slice (some ⟨Ba, 0, none⟩) nn ca]) rfl rfl (by kernel_rfl) (by kernel_rfl) (by kernel_rfl) (by kernel_rfl) (by kernel_rfl) (Or.inl ⟨by rfl, ?_⟩) hHeld ?_
 ·intro wS hSw
  obtain ⟨z0, z1, z2, z3, z4, z5, z6⟩ := hSw
  clear hHeld
  go_simp
 (try simp only [Act.put, List.setIfInBounds_toArray, List.set_cons_zero, List.set_cons_succ])
 refine take_G (i := 3) (d := 27) (v := .slice (some ⟨g, 0, none⟩) K1 cg) rfl rfl (by kernel_rfl) (by kernel_rfl) (by kernel_rfl) (by kernel_rfl) (by kernel_rfl) (Or.inl ⟨by rfl, ?_⟩) hHeld ?_
 ·intro wS hSw
  obtain ⟨z0, z1, z2, z3, z4, z5, z6⟩ := hSw
  clear hHeld
  go_simp
 (try simp only [Act.put, List.setIfInBounds_toArray, List.set_cons_zero, List.set_cons_succ])
 refine take_G (i := 4) (d := 28) (v := .int .i64 (K : Int)) rfl rfl (by kernel_rfl) (by kernel_rfl) (by kernel_rfl) (by kernel_rfl) (by kernel_rfl) (Or.inl ⟨by rfl, ?_⟩) hHeld ?_
 ·intro wS hSw
  obtain ⟨z0, z1, z2, z3, z4, z5, z6⟩ := hSw
  clear hHeld
  go_simp
 (try simp only [Act.put, List.setIfInBounds_toArray, List.set_cons_zero, List.set_cons_succ])
 refine take_G (i := 5) (d := 29) (v := .int .i64 (k : Int)) rfl rfl (by kernel_rfl) (by kernel_rfl) (by kernel_rfl) (by kernel_rfl) (by kernel_rfl) (Or.inl ⟨by rfl, ?_⟩) hHeld ?_
 ·intro wS hSw
  obtain ⟨z0, z1, z2, z3, z4, z5, z6⟩ := hSw
  clear hHeld
  go_simp
 (try simp only [Act.put, List.setIfInBounds_toArray, List.set_cons_zero, List.set_cons_succ])
 refine take_G (i := 6) (d := 30) (v := .pointer (some ⟨g, k * 3, none⟩)) rfl rfl (by kernel_rfl) (by kernel_rfl) (by kernel_rfl) (by kernel_rfl) (by kernel_rfl) (Or.inl ⟨by rfl, ?_⟩) hHeld ?_
 ·intro wS hSw
  obtain ⟨z0, z1, z2, z3, z4, z5, z6⟩ := hSw
  clear hHeld
  go_simp
 (try simp only [Act.put, List.setIfInBounds_toArray, List.set_cons_zero, List.set_cons_succ])
 refine take_G (i := 7) (d := 31) (v := .agg #[.int .i64 n, .int .i64 n, .slice (some ⟨By, 0, none⟩) nn cy]) rfl rfl (by kernel_rfl) (by kernel_rfl) (by kernel_rfl) (by kernel_rfl) (by kernel_rfl) (Or.inl ⟨by rfl, ?_⟩) hHeld ?_
 ·intro wS hSw
  obtain ⟨z0, z1, z2, z3, z4, z5, z6⟩ := hSw
  clear hHeld
  go_simp
 (try simp only [Act.put, List.setIfInBounds_toArray, List.set_cons_zero, List.set_cons_succ])
 refine take_G (i := 8) (d := 32) (v := .int .i64 (K : Int)) rfl rfl (by kernel_rfl) (by kernel_rfl) (by kernel_rfl) (by kernel_rfl) (by kernel_rfl) (Or.inl ⟨by rfl, ?_⟩) hHeld ?_
 ·intro wS hSw
  obtain ⟨z0, z1, z2, z3, z4, z5, z6⟩ := hSw
  clear hHeld
  go_simp
 (try simp only [Act.put, List.setIfInBounds_toArray, List.set_cons_zero, List.set_cons_succ])
 refine step_G (i := 9) (by kernel_rfl) (fun K' hK' => ?_)
 refine wpOp_of rfl rfl ?_
 unfold Oper.wp
 go_simp
 refine (unhide NX).mono ?_
 rintro e w3 ⟨B, cp, rfl, hcp, hB, hown, ⟨cnt3, q1, q2, hu⟩, hm⟩
 have lw := unhide lU
 have hgw := (unhide S2).2.2.2.2.2.2
 have kc : ∀ o v, w2.drew.cell? ⟨g, o, none⟩ = some v → w3.cell? ⟨g, o, none⟩ = some v := fun o v hv => hm.cell hv (by omega)
 have hC3 := (unhide S2).2.2.2.1.mk hm
 have hHeld3 : w3.cell? ⟨ub, 0, none⟩ = some (.pointer (some ⟨U, 0, none⟩)) ∧ w3.cell? ⟨ab, 0, none⟩ = some (.int .i64 n) ∧ w3.cell? ⟨ab, 1, none⟩ = some (.int .i64 n) ∧ w3.cell? ⟨ab, 2, none⟩ = some (.slice (some ⟨Ba, 0, none⟩) nn ca) ∧ w3.cell? ⟨g, k * 3, none⟩ = some (.int .i64 n) ∧ w3.cell? ⟨g, k * 3 + 1, none⟩ = some (.int .i64 n) ∧ w3.cell? ⟨g, k * 3 + 2, none⟩ = some (.slice (some ⟨By, 0, none⟩) nn cy) := ⟨Blk.cell hC3.2.2.1 0, Blk.cell hC3.2.2.2.1 0, Blk.cell hC3.2.2.2.1 1, Blk.cell hC3.2.2.2.1 2, kc _ _ hHeld.2.2.2.2.1, kc _ _ hHeld.2.2.2.2.2.1, kc _ _ hHeld.2.2.2.2.2.2⟩
 have S3 : Hid (GTl w.heap.size n nn (gainZ A Q n) (.slice (some ⟨g, 0, none⟩) K1 cg) l w3 ∧ Mk U w w3 ∧ l.length = K1 ∧ UpC U n nn mb fb ub ab Ba ca T #[.int .i64 n, .slice aa nn ac, .slice qa n qc, .int .i64 tick, .int .i64 gate, .int .i64 rmin, .slice ro rl rc] qa A Q w3 ∧ (nn ≤ cp ∧ w.heap.size ≤ B ∧ Own B nn (gainZ A Q n K1) w3) ∧ n0 ≤ cnt3 ∧ cnt3 ≤ n0 + (K1 : Int) * 1000 ∧ UC U (c0 || gainC A Q n K1) cnt3 w3 ∧ w.heap.size ≤ g) := by
  obtain ⟨s1, s2, s3, s4, s5, s6, s7⟩ := unhide S2
  obtain ⟨e1, e2, e3⟩ := unhide HK
  have sz := s2.2.2.2
  refine ⟨s1.mk hm (by omega), s2.trans hm, s3, hC3, ⟨hcp, by omega, ?_⟩, by omega, ?_, ?_, s7⟩
  ·rw [e2]
   rw [e1] at hown
   exact hown
  ·rw [e2, Int.natCast_add, Int.add_mul]
   omega
  ·rw [e2]
   show UC U (c0 || (gainC A Q n k || orC (mulG A (gainZ A Q n k) n n) (n * n) || orC (evG (mulZ A (gainZ A Q n k) n n) n) (n * n) || orC (dvG (evZ (mulZ A (gainZ A Q n k) n n) n) (k + 2)) (n * n))) _ _
   rw [(unhide HN).2.1, ← e1, ← Bool.or_assoc, ← Bool.or_assoc, ← Bool.or_assoc]
   exact hu
 refine hK' _ _ (fun _ => hHeld3) ?_
 clear hK' K' hcp hB hown q1 q2 hu hm hC3 kc lw hgw hHeld S2 NX
 (try simp only [Act.put, List.setIfInBounds_toArray, List.set_cons_zero, List.set_cons_succ])
 refine step_G (i := 10) (by kernel_rfl) (fun K' hK' => ?_)
 refine wpOp_of rfl rfl ?_
 unfold Oper.wp
 go_simp
 have g4 : Grown w3 (w3.alloc (.cells #[.int .i64 n, .int .i64 n, .slice (some ⟨B, 0, none⟩) nn cp] 38)) := (Grown.refl _).alloc _ _
 have b4 : Blk w3.heap.size (GTx n nn (gainZ A Q n) K1 B cp).cells 38 (w3.alloc (.cells #[.int .i64 n, .int .i64 n, .slice (some ⟨B, 0, none⟩) nn cp] 38)) := Blk.new _ _ _
 have S4 : Hid (GTl w.heap.size n nn (gainZ A Q n) (.slice (some ⟨g, 0, none⟩) K1 cg) l (w3.alloc (.cells #[.int .i64 n, .int .i64 n, .slice (some ⟨B, 0, none⟩) nn cp] 38)) ∧ Mk U w (w3.alloc (.cells #[.int .i64 n, .int .i64 n, .slice (some ⟨B, 0, none⟩) nn cp] 38)) ∧ l.length = K1 ∧ UpC U n nn mb fb ub ab Ba ca T #[.int .i64 n, .slice aa nn ac, .slice qa n qc, .int .i64 tick, .int .i64 gate, .int .i64 rmin, .slice ro rl rc] qa A Q (w3.alloc (.cells #[.int .i64 n, .int .i64 n, .slice (some ⟨B, 0, none⟩) nn cp] 38)) ∧ (nn ≤ cp ∧ w.heap.size ≤ B ∧ Own B nn (gainZ A Q n K1) (w3.alloc (.cells #[.int .i64 n, .int .i64 n, .slice (some ⟨B, 0, none⟩) nn cp] 38))) ∧ n0 ≤ cnt3 ∧ cnt3 ≤ n0 + (K1 : Int) * 1000 ∧ UC U (c0 || gainC A Q n K1) cnt3 (w3.alloc (.cells #[.int .i64 n, .int .i64 n, .slice (some ⟨B, 0, none⟩) nn cp] 38)) ∧ w.heap.size ≤ g) := by
  obtain ⟨s1, s2, s3, s4, ⟨s5, s6, s7⟩, s8, s9, s10, s11⟩ := unhide S3
  exact ⟨s1.kp (Kp.of g4), s2.grown g4, s3, s4.mk (Mk.kp (Kp.of g4)), ⟨s5, s6, s7.kp (Kp.of g4)⟩, s8, s9, Blk.grown s10 g4, s11⟩
 have hHeld4 : (w3.alloc (.cells #[.int .i64 n, .int .i64 n, .slice (some ⟨B, 0, none⟩) nn cp] 38)).cell? ⟨ub, 0, none⟩ = some (.pointer (some ⟨U, 0, none⟩)) ∧ (w3.alloc (.cells #[.int .i64 n, .int .i64 n, .slice (some ⟨B, 0, none⟩) nn cp] 38)).cell? ⟨ab, 0, none⟩ = some (.int .i64 n) ∧ (w3.alloc (.cells #[.int .i64 n, .int .i64 n, .slice (some ⟨B, 0, none⟩) nn cp] 38)).cell? ⟨ab, 1, none⟩ = some (.int .i64 n) ∧ (w3.alloc (.cells #[.int .i64 n, .int .i64 n, .slice (some ⟨B, 0, none⟩) nn cp] 38)).cell? ⟨ab, 2, none⟩ = some (.slice (some ⟨Ba, 0, none⟩) nn ca) ∧ (w3.alloc (.cells #[.int .i64 n, .int .i64 n, .slice (some ⟨B, 0, none⟩) nn cp] 38)).cell? ⟨g, k * 3, none⟩ = some (.int .i64 n) ∧ (w3.alloc (.cells #[.int .i64 n, .int .i64 n, .slice (some ⟨B, 0, none⟩) nn cp] 38)).cell? ⟨g, k * 3 + 1, none⟩ = some (.int .i64 n) ∧ (w3.alloc (.cells #[.int .i64 n, .int .i64 n, .slice (some ⟨B, 0, none⟩) nn cp] 38)).cell? ⟨g, k * 3 + 2, none⟩ = some (.slice (some ⟨By, 0, none⟩) nn cy) := ⟨gat g4 hHeld3.1, gat g4 hHeld3.2.1, gat g4 hHeld3.2.2.1, gat g4 hHeld3.2.2.2.1, gat g4 hHeld3.2.2.2.2.1, gat g4 hHeld3.2.2.2.2.2.1, gat g4 hHeld3.2.2.2.2.2.2⟩
 have N4 := hide (news_mat (x := GTx n nn (gainZ A Q n) K1 B cp) b4)
 have ls4 : Hid (w.heap.size ≤ (w3.alloc (.cells #[.int .i64 n, .int .i64 n, .slice (some ⟨B, 0, none⟩) nn cp] 38)).heap.size) := (unhide S4).2.1.2.2.2
 clear g4 b4 S3 hHeld3
 generalize (w3.alloc (.cells #[.int .i64 n, .int .i64 n, .slice (some ⟨B, 0, none⟩) nn cp] 38)) = w4 at *
 generalize w3.heap.size = Lb at *
 refine hK' _ _ (fun _ => hHeld4) ?_
 clear hK' K'
 (try simp only [Act.put, List.setIfInBounds_toArray, List.set_cons_zero, List.set_cons_succ])
 refine step_G (i := 11) (by kernel_rfl) (fun K' hK' => ?_)
 refine wpOp_of rfl rfl ?_
 have OW : Hid (w4.ownsRow w.heap.size 38 3 (.slice (some ⟨g, 0, none⟩) K1 cg) K1 (flat l)) := by
  have := (unhide S4).1.1
  unfold MLs at this
  rwa [(unhide S4).2.2.1] at this
 refine wp_append_keepM (.tmp 24) (.tmp 34) rfl w.heap.size (.slice (some ⟨g, 0, none⟩) K1 cg) K1 (flat l) (by first | rfl | simp [Act.eval, Act.put]) (unhide OW) ⟨Lb, 0, none⟩ 1 1 (GTx n nn (gainZ A Q n) K1 B cp).cells.toList (by first | rfl | simp [Act.eval, Act.put]) rfl (unhide N4) (cells_oneMV _) (by omega) (by have := unhide HK; omega) (unhide ls4) ?_
 intro v' w5 hown' hgrow hkeep
 have S5 : Hid (UpP U n nn c0 n0 (gainZ A Q n) (gainC A Q n) (k + 1) w (.returned v') w5) := by
  obtain ⟨s1, s2, s3, s4, ⟨s5, s6, s7⟩, s8, s9, s10, s11⟩ := unhide S4
  obtain ⟨e1, e2, e3⟩ := unhide HK
  have gb : ∀ i, (Value.slice (some (⟨g, 0, none⟩ : Addr)) K1 cg).ownBlock = some i → w.heap.size ≤ i := fun i e => by cases e; exact s11
  have lw := (unhide lU).1
  refine ⟨v', _, rfl, ?_, s1.app s3 s6 s5 s7 hown' hgrow, ⟨cnt3, s8, by rw [← e2]; exact s9, ?_⟩, s2.by hgrow gb⟩
  ·rw [List.length_append, s3, e2]
   rfl
  ·rw [← e2]
   exact Blk.by s10 hgrow (fun e => by have := gb _ e.symm; omega)
 have hHeld5 : w5.cell? ⟨ub, 0, none⟩ = some (.pointer (some ⟨U, 0, none⟩)) ∧ w5.cell? ⟨ab, 0, none⟩ = some (.int .i64 n) ∧ w5.cell? ⟨ab, 1, none⟩ = some (.int .i64 n) ∧ w5.cell? ⟨ab, 2, none⟩ = some (.slice (some ⟨Ba, 0, none⟩) nn ca) ∧ w5.cell? ⟨g, k * 3, none⟩ = some (.int .i64 n) ∧ w5.cell? ⟨g, k * 3 + 1, none⟩ = some (.int .i64 n) ∧ w5.cell? ⟨g, k * 3 + 2, none⟩ = some (.slice (some ⟨By, 0, none⟩) nn cy) := by
  obtain ⟨s1, s2, s3, s4, _, _, _, s10, s11⟩ := unhide S4
  obtain ⟨z0, z1, z2, z3, z4, z5, z6⟩ := hHeld4
  have nb : ∀ c cs (T' : TypeId), Blk c cs T' w4 → c ≠ g → Blk c cs T' w5 := fun c cs T' hb ne => Blk.by hb hgrow (fun e => by cases e; exact ne rfl)
  have lub := Blk.lt (unhide HH).2.2.2.1
  have lab := Blk.lt (unhide HH).2.2.2.2.1
  have b5u := nb _ _ _ s4.2.2.1 (by omega)
  have b5a := nb _ _ _ s4.2.2.2.1 (by omega)
  have fl : ∀ j, j < 3 → (flat l)[k * 3 + j]? = (GTx n nn (gainZ A Q n) k By cy).cells[j]? := fun j hj => flat_at l k j _ (unhide HX) hj
  exact ⟨Blk.cell b5u 0, Blk.cell b5a 0, Blk.cell b5a 1, Blk.cell b5a 2, hkeep g rfl (k * 3) _ (fl 0 (by omega)), hkeep g rfl (k * 3 + 1) _ (fl 1 (by omega)), hkeep g rfl (k * 3 + 2) _ (fl 2 (by omega))⟩
 refine hK' _ _ (fun _ => hHeld5) ?_
 clear hK' K' hHeld4 hHeld5 S4 OW N4 ls4 hown' hgrow hkeep
 (try simp only [Act.put, List.setIfInBounds_toArray, List.set_cons_zero, List.set_cons_succ])
 refine step_G (i := 12) (by kernel_rfl) (fun K' hK' => ?_)
 refine wpOp_of rfl rfl ?_
 unfold Oper.wp
 go_simp
 refine hK' _ _ (fun h => absurd rfl h) ?_
 clear hK' K'
 (try simp only [Act.put, List.setIfInBounds_toArray, List.set_cons_zero, List.set_cons_succ])
 refine done_G (by kernel_rfl) ?_
 refine noPanic_normalE ?_
 go_wp2
 go_ret
 exact unhide S5
theorem upTo_ok (U n nn mb fb ub ab Ba ca : Nat) (T : TypeId) (aa qa ro : Option Addr) (ac qc rl rc : Nat) (tick gate rmin : Int) (A Q : Nat → Int) (c0 : Bool) (n0 : Int) (hn0 : 0 ≤ n0 ∧ n0 < 100000000000000000) (hn : 1 ≤ n ∧ n ≤ 6) (hnn : n * n = nn) (hca : nn ≤ ca) (hA : ∀ j, j < nn → I64 (A j)) (hQ : ∀ i, i < n → I64 (Q i)) : ∀ (k : Nat), k ≤ 23 → ∀ (w : World), UC U c0 n0 w → UpC U n nn mb fb ub ab Ba ca T #[.int .i64 n, .slice aa nn ac, .slice qa n qc, .int .i64 tick, .int .i64 gate, .int .i64 rmin, .slice ro rl rc] qa A Q w →
  Calls Tryz.prog 90 (#[.int .i64 ((k + 1 : Nat) : Int)] ++ #[.pointer (some ⟨mb, 0, none⟩), .pointer (some ⟨fb, 0, none⟩), .pointer (some ⟨ub, 0, none⟩), .pointer (some ⟨ab, 0, none⟩)]) w fun e w' => UpP U n nn c0 n0 (gainZ A Q n) (gainC A Q n) k w e w'
 | 0, _, w, h, hC => upTo_zero U n nn mb fb ub ab Ba ca T aa qa ro ac qc rl rc tick gate rmin A Q c0 n0 hn hnn w h hC
 | k + 1, hk, w, h, hC => upTo_succ U n nn mb fb ub ab Ba ca T aa qa ro ac qc rl rc tick gate rmin A Q c0 n0 hn0 hn hnn hca hA hQ k (by omega) w h hC (upTo_ok U n nn mb fb ub ab Ba ca T aa qa ro ac qc rl rc tick gate rmin A Q c0 n0 hn0 hn hnn hca hA hQ k (by omega) w h hC)
set_option maxRecDepth 50000 in
set_option maxHeartbeats 8000000 in
theorem moCoef (U n nn k b o : Nat) (qa ro : Option Addr) (ac qc rl rc : Nat) (tick gate rmin : Int) (A Q : Nat → Int) (c0 : Bool) (n0 : Int) (hn0 : 0 ≤ n0 ∧ n0 < 100000000000000000) (hn : 1 ≤ n ∧ n ≤ 6) (hnn : n * n = nn) (hk : 2 * n - 2 = k) (hac : nn ≤ ac) (hA : ∀ j, j < nn → I64 (A j)) (hQ : ∀ i, i < n → I64 (Q i)) (w : World) (h : UC U c0 n0 w) (za : ∀ j, j < nn → w.cell? ⟨b, o + j, none⟩ = some (.int .i64 (A j))) (hq : Row w qa n Q) (oq : Off U n qa) :
  Calls Tryz.prog 43 #[.pointer (some ⟨U, 0, none⟩), .agg #[.int .i64 n, .slice (some ⟨b, o, none⟩) nn ac, .slice qa n qc, .int .i64 tick, .int .i64 gate, .int .i64 rmin, .slice ro rl rc]] w fun e w' => UpP U n nn c0 n0 (gainZ A Q n) (gainC A Q n) k w e w' := by
 have HN : Hid ((1 ≤ n ∧ n ≤ 6) ∧ n * n = nn ∧ nn ≤ ac ∧ 2 * n - 2 = k) := ⟨hn, hnn, hac, hk⟩
 have lU : Hid (U < w.heap.size ∧ 0 ≤ n0 ∧ n0 < 100000000000000000) := ⟨Blk.lt h, hn0⟩
 have HA := hide hA
 have HQ := hide hQ
 have OQ := hide oq
 have S0 : Hid (Grown w ((w.alloc (.cells #[.pointer (some ⟨U, 0, none⟩)] 26)).alloc (.cells #[.int .i64 n, .slice (some ⟨b, o, none⟩) nn ac, .slice qa n qc, .int .i64 tick, .int .i64 gate, .int .i64 rmin, .slice ro rl rc] 25)) ∧ Blk w.heap.size #[.pointer (some ⟨U, 0, none⟩)] 26 ((w.alloc (.cells #[.pointer (some ⟨U, 0, none⟩)] 26)).alloc (.cells #[.int .i64 n, .slice (some ⟨b, o, none⟩) nn ac, .slice qa n qc, .int .i64 tick, .int .i64 gate, .int .i64 rmin, .slice ro rl rc] 25)) ∧ Blk (w.heap.size + 1) #[.int .i64 n, .slice (some ⟨b, o, none⟩) nn ac, .slice qa n qc, .int .i64 tick, .int .i64 gate, .int .i64 rmin, .slice ro rl rc] 25 ((w.alloc (.cells #[.pointer (some ⟨U, 0, none⟩)] 26)).alloc (.cells #[.int .i64 n, .slice (some ⟨b, o, none⟩) nn ac, .slice qa n qc, .int .i64 tick, .int .i64 gate, .int .i64 rmin, .slice ro rl rc] 25))) := ⟨((Grown.refl _).alloc _ _).alloc _ _, Blk.grown (Blk.new w _ _) ((Grown.refl _).alloc _ _), blk_new2 w _ _ _⟩
 have MV : Hid (Calls Tryz.prog 39 #[.agg #[.int .i64 n, .slice (some ⟨b, o, none⟩) nn ac, .slice qa n qc, .int .i64 tick, .int .i64 gate, .int .i64 rmin, .slice ro rl rc]] ((w.alloc (.cells #[.pointer (some ⟨U, 0, none⟩)] 26)).alloc (.cells #[.int .i64 n, .slice (some ⟨b, o, none⟩) nn ac, .slice qa n qc, .int .i64 tick, .int .i64 gate, .int .i64 rmin, .slice ro rl rc] 25)) fun e w' => MovesP n nn A ((w.alloc (.cells #[.pointer (some ⟨U, 0, none⟩)] 26)).alloc (.cells #[.int .i64 n, .slice (some ⟨b, o, none⟩) nn ac, .slice qa n qc, .int .i64 tick, .int .i64 gate, .int .i64 rmin, .slice ro rl rc] 25)) e w') := moMoves_raw n nn b o ac n qc rl rc qa ro tick gate rmin A hn hnn hac ((w.alloc (.cells #[.pointer (some ⟨U, 0, none⟩)] 26)).alloc (.cells #[.int .i64 n, .slice (some ⟨b, o, none⟩) nn ac, .slice qa n qc, .int .i64 tick, .int .i64 gate, .int .i64 rmin, .slice ro rl rc] 25)) (fun i hi => gat (unhide S0).1 (za i hi))
 have HU := hide (And.intro h hq)
 obtain ⟨K1, hK1⟩ : ∃ K1, k + 1 = K1 := ⟨_, rfl⟩
 obtain ⟨n2, hn2⟩ : ∃ n2, 2 * n = n2 := ⟨_, rfl⟩
 have wm : wrap64 (2 * (n : Int)) = (n2 : Int) := by unfold wrap64; omega
 have wk : wrap64 ((n2 : Int) - 1) = (K1 : Int) := by unfold wrap64; omega
 have HK : Hid (K1 = k + 1 ∧ k ≤ 10) := ⟨hK1.symm, by omega⟩
 have m0 : (((w.alloc (.cells #[.pointer (some ⟨U, 0, none⟩)] 26)).alloc (.cells #[.int .i64 n, .slice (some ⟨b, o, none⟩) nn ac, .slice qa n qc, .int .i64 tick, .int .i64 gate, .int .i64 rmin, .slice ro rl rc] 25))).cell? ⟨w.heap.size + 1, 0, none⟩ = some (.int .i64 n) := Blk.cell (unhide S0).2.2 0
 have m1 : (((w.alloc (.cells #[.pointer (some ⟨U, 0, none⟩)] 26)).alloc (.cells #[.int .i64 n, .slice (some ⟨b, o, none⟩) nn ac, .slice qa n qc, .int .i64 tick, .int .i64 gate, .int .i64 rmin, .slice ro rl rc] 25))).cell? ⟨w.heap.size + 1, 1, none⟩ = some (.slice (some ⟨b, o, none⟩) nn ac) := Blk.cell (unhide S0).2.2 1
 have m2 : (((w.alloc (.cells #[.pointer (some ⟨U, 0, none⟩)] 26)).alloc (.cells #[.int .i64 n, .slice (some ⟨b, o, none⟩) nn ac, .slice qa n qc, .int .i64 tick, .int .i64 gate, .int .i64 rmin, .slice ro rl rc] 25))).cell? ⟨w.heap.size + 1, 2, none⟩ = some (.slice qa n qc) := Blk.cell (unhide S0).2.2 2
 have m3 : (((w.alloc (.cells #[.pointer (some ⟨U, 0, none⟩)] 26)).alloc (.cells #[.int .i64 n, .slice (some ⟨b, o, none⟩) nn ac, .slice qa n qc, .int .i64 tick, .int .i64 gate, .int .i64 rmin, .slice ro rl rc] 25))).cell? ⟨w.heap.size + 1, 3, none⟩ = some (.int .i64 tick) := Blk.cell (unhide S0).2.2 3
 have m4 : (((w.alloc (.cells #[.pointer (some ⟨U, 0, none⟩)] 26)).alloc (.cells #[.int .i64 n, .slice (some ⟨b, o, none⟩) nn ac, .slice qa n qc, .int .i64 tick, .int .i64 gate, .int .i64 rmin, .slice ro rl rc] 25))).cell? ⟨w.heap.size + 1, 4, none⟩ = some (.int .i64 gate) := Blk.cell (unhide S0).2.2 4
 have m5 : (((w.alloc (.cells #[.pointer (some ⟨U, 0, none⟩)] 26)).alloc (.cells #[.int .i64 n, .slice (some ⟨b, o, none⟩) nn ac, .slice qa n qc, .int .i64 tick, .int .i64 gate, .int .i64 rmin, .slice ro rl rc] 25))).cell? ⟨w.heap.size + 1, 5, none⟩ = some (.int .i64 rmin) := Blk.cell (unhide S0).2.2 5
 have m6 : (((w.alloc (.cells #[.pointer (some ⟨U, 0, none⟩)] 26)).alloc (.cells #[.int .i64 n, .slice (some ⟨b, o, none⟩) nn ac, .slice qa n qc, .int .i64 tick, .int .i64 gate, .int .i64 rmin, .slice ro rl rc] 25))).cell? ⟨w.heap.size + 1, 6, none⟩ = some (.slice ro rl rc) := Blk.cell (unhide S0).2.2 6
 clear h hn0 hn hnn hk hac hA hQ za hq oq hK1 hn2
 go_enter Tryz.func43, Tryz.ntmps43
 go_wp2_with fail
 generalize ((w.alloc (.cells #[.pointer (some ⟨U, 0, none⟩)] 26)).alloc (.cells #[.int .i64 n, .slice (some ⟨b, o, none⟩) nn ac, .slice qa n qc, .int .i64 tick, .int .i64 gate, .int .i64 rmin, .slice ro rl rc] 25)) = w1 at *
 clear m0 m1 m2 m3 m4 m5 m6
 refine (unhide MV).mono ?_
 rintro e w2 ⟨Ba, ca, rfl, hca, hBa, hoa, k2⟩
 have S3 : Hid (Mk U w ((w2.alloc (.cells #[.int .i64 n, .int .i64 n, .slice (some ⟨Ba, 0, none⟩) nn ca] 38)).alloc (.cells #[.func (.func 90) #[] #[.pointer (some ⟨w.heap.size + 1, 0, none⟩), .pointer (some ⟨w2.heap.size + 1, 0, none⟩), .pointer (some ⟨w.heap.size, 0, none⟩), .pointer (some ⟨w2.heap.size, 0, none⟩)]] 110)) ∧ UC U c0 n0 ((w2.alloc (.cells #[.int .i64 n, .int .i64 n, .slice (some ⟨Ba, 0, none⟩) nn ca] 38)).alloc (.cells #[.func (.func 90) #[] #[.pointer (some ⟨w.heap.size + 1, 0, none⟩), .pointer (some ⟨w2.heap.size + 1, 0, none⟩), .pointer (some ⟨w.heap.size, 0, none⟩), .pointer (some ⟨w2.heap.size, 0, none⟩)]] 110)) ∧ UpC U n nn (w.heap.size + 1) (w2.heap.size + 1) w.heap.size w2.heap.size Ba ca 110 #[.int .i64 n, .slice (some ⟨b, o, none⟩) nn ac, .slice qa n qc, .int .i64 tick, .int .i64 gate, .int .i64 rmin, .slice ro rl rc] qa A Q ((w2.alloc (.cells #[.int .i64 n, .int .i64 n, .slice (some ⟨Ba, 0, none⟩) nn ca] 38)).alloc (.cells #[.func (.func 90) #[] #[.pointer (some ⟨w.heap.size + 1, 0, none⟩), .pointer (some ⟨w2.heap.size + 1, 0, none⟩), .pointer (some ⟨w.heap.size, 0, none⟩), .pointer (some ⟨w2.heap.size, 0, none⟩)]] 110)) ∧ nn ≤ ca) := by
  obtain ⟨g1, b1, b2⟩ := unhide S0
  obtain ⟨h, hq⟩ := unhide HU
  have lw := (unhide lU).1
  have s1 := g1.2.2
  have s2 := k2.2.2.2
  have lb2 := Blk.lt b2
  have lBa := hoa.ltA
  have g3 : Grown w2 ((w2.alloc (.cells #[.int .i64 n, .int .i64 n, .slice (some ⟨Ba, 0, none⟩) nn ca] 38)).alloc (.cells #[.func (.func 90) #[] #[.pointer (some ⟨w.heap.size + 1, 0, none⟩), .pointer (some ⟨w2.heap.size + 1, 0, none⟩), .pointer (some ⟨w.heap.size, 0, none⟩), .pointer (some ⟨w2.heap.size, 0, none⟩)]] 110)) := ((Grown.refl _).alloc _ _).alloc _ _
  have k3 : Kp w2 ((w2.alloc (.cells #[.int .i64 n, .int .i64 n, .slice (some ⟨Ba, 0, none⟩) nn ca] 38)).alloc (.cells #[.func (.func 90) #[] #[.pointer (some ⟨w.heap.size + 1, 0, none⟩), .pointer (some ⟨w2.heap.size + 1, 0, none⟩), .pointer (some ⟨w.heap.size, 0, none⟩), .pointer (some ⟨w2.heap.size, 0, none⟩)]] 110)) := Kp.of g3
  have kW : Kp w ((w2.alloc (.cells #[.int .i64 n, .int .i64 n, .slice (some ⟨Ba, 0, none⟩) nn ca] 38)).alloc (.cells #[.func (.func 90) #[] #[.pointer (some ⟨w.heap.size + 1, 0, none⟩), .pointer (some ⟨w2.heap.size + 1, 0, none⟩), .pointer (some ⟨w.heap.size, 0, none⟩), .pointer (some ⟨w2.heap.size, 0, none⟩)]] 110)) := ((Kp.of g1).trans k2).trans k3
  have ba : Blk w2.heap.size #[.int .i64 n, .int .i64 n, .slice (some ⟨Ba, 0, none⟩) nn ca] 38 ((w2.alloc (.cells #[.int .i64 n, .int .i64 n, .slice (some ⟨Ba, 0, none⟩) nn ca] 38)).alloc (.cells #[.func (.func 90) #[] #[.pointer (some ⟨w.heap.size + 1, 0, none⟩), .pointer (some ⟨w2.heap.size + 1, 0, none⟩), .pointer (some ⟨w.heap.size, 0, none⟩), .pointer (some ⟨w2.heap.size, 0, none⟩)]] 110)) := Blk.grown (Blk.new w2 _ _) ((Grown.refl _).alloc _ _)
  have bf := blk_new2 w2 (.cells #[.int .i64 n, .int .i64 n, .slice (some ⟨Ba, 0, none⟩) nn ca] 38) #[.func (.func 90) #[] #[.pointer (some ⟨w.heap.size + 1, 0, none⟩), .pointer (some ⟨w2.heap.size + 1, 0, none⟩), .pointer (some ⟨w.heap.size, 0, none⟩), .pointer (some ⟨w2.heap.size, 0, none⟩)]] 110
  exact ⟨Mk.kp kW, Blk.kp h kW, ⟨Blk.kp (Blk.kp b2 k2) k3, bf, Blk.kp (Blk.kp b1 k2) k3, ba, hoa.kp k3, hq.kp kW, by omega, by omega, by omega, by omega, by omega, unhide OQ⟩, hca⟩
 have f0 : (((w2.alloc (.cells #[.int .i64 n, .int .i64 n, .slice (some ⟨Ba, 0, none⟩) nn ca] 38)).alloc (.cells #[.func (.func 90) #[] #[.pointer (some ⟨w.heap.size + 1, 0, none⟩), .pointer (some ⟨w2.heap.size + 1, 0, none⟩), .pointer (some ⟨w.heap.size, 0, none⟩), .pointer (some ⟨w2.heap.size, 0, none⟩)]] 110))).cell? ⟨w2.heap.size + 1, 0, none⟩ = some (.func (.func 90) #[] #[.pointer (some ⟨w.heap.size + 1, 0, none⟩), .pointer (some ⟨w2.heap.size + 1, 0, none⟩), .pointer (some ⟨w.heap.size, 0, none⟩), .pointer (some ⟨w2.heap.size, 0, none⟩)]) := Blk.cell (unhide S3).2.2.1.2.1 0
 have n0' : (((w2.alloc (.cells #[.int .i64 n, .int .i64 n, .slice (some ⟨Ba, 0, none⟩) nn ca] 38)).alloc (.cells #[.func (.func 90) #[] #[.pointer (some ⟨w.heap.size + 1, 0, none⟩), .pointer (some ⟨w2.heap.size + 1, 0, none⟩), .pointer (some ⟨w.heap.size, 0, none⟩), .pointer (some ⟨w2.heap.size, 0, none⟩)]] 110))).cell? ⟨w.heap.size + 1, 0, none⟩ = some (.int .i64 n) := Blk.cell (unhide S3).2.2.1.1 0
 have ne1 : w.heap.size ≠ w2.heap.size := by have := (unhide S0).1.2.2; have := Blk.lt (unhide S0).2.2; have := k2.2.2.2; omega
 have ne2 : w2.heap.size ≠ w.heap.size := Ne.symm ne1
 clear hca hBa hoa k2 MV S0 HU
 go_wp2_with fail
 have UPH : Hid (Calls Tryz.prog 90 #[.int .i64 (K1 : Int), .pointer (some ⟨w.heap.size + 1, 0, none⟩), .pointer (some ⟨w2.heap.size + 1, 0, none⟩), .pointer (some ⟨w.heap.size, 0, none⟩), .pointer (some ⟨w2.heap.size, 0, none⟩)] ((w2.alloc (.cells #[.int .i64 n, .int .i64 n, .slice (some ⟨Ba, 0, none⟩) nn ca] 38)).alloc (.cells #[.func (.func 90) #[] #[.pointer (some ⟨w.heap.size + 1, 0, none⟩), .pointer (some ⟨w2.heap.size + 1, 0, none⟩), .pointer (some ⟨w.heap.size, 0, none⟩), .pointer (some ⟨w2.heap.size, 0, none⟩)]] 110)) fun e w' => UpP U n nn c0 n0 (gainZ A Q n) (gainC A Q n) k ((w2.alloc (.cells #[.int .i64 n, .int .i64 n, .slice (some ⟨Ba, 0, none⟩) nn ca] 38)).alloc (.cells #[.func (.func 90) #[] #[.pointer (some ⟨w.heap.size + 1, 0, none⟩), .pointer (some ⟨w2.heap.size + 1, 0, none⟩), .pointer (some ⟨w.heap.size, 0, none⟩), .pointer (some ⟨w2.heap.size, 0, none⟩)]] 110)) e w') := by
  have hk := unhide HK
  have := upTo_ok U n nn (w.heap.size + 1) (w2.heap.size + 1) w.heap.size w2.heap.size Ba ca 110 (some ⟨b, o, none⟩) qa ro ac qc rl rc tick gate rmin A Q c0 n0 (unhide lU).2 (unhide HN).1 (unhide HN).2.1 (unhide S3).2.2.2 (unhide HA) (unhide HQ) k (by omega) ((w2.alloc (.cells #[.int .i64 n, .int .i64 n, .slice (some ⟨Ba, 0, none⟩) nn ca] 38)).alloc (.cells #[.func (.func 90) #[] #[.pointer (some ⟨w.heap.size + 1, 0, none⟩), .pointer (some ⟨w2.heap.size + 1, 0, none⟩), .pointer (some ⟨w.heap.size, 0, none⟩), .pointer (some ⟨w2.heap.size, 0, none⟩)]] 110)) (unhide S3).2.1 (unhide S3).2.2.1
  rw [← hk.1] at this
  exact this
 clear f0 n0' ne1 ne2
 generalize ((w2.alloc (.cells #[.int .i64 n, .int .i64 n, .slice (some ⟨Ba, 0, none⟩) nn ca] 38)).alloc (.cells #[.func (.func 90) #[] #[.pointer (some ⟨w.heap.size + 1, 0, none⟩), .pointer (some ⟨w2.heap.size + 1, 0, none⟩), .pointer (some ⟨w.heap.size, 0, none⟩), .pointer (some ⟨w2.heap.size, 0, none⟩)]] 110)) = w3 at *
 generalize w2.heap.size = Lb at *
 refine (unhide UPH).mono ?_
 rintro e w4 ⟨v, l, rfl, hl, hD, hu, hm⟩
 obtain ⟨ao, cap, rfl, _⟩ := hD.1.mats
 have R : Hid (UpP U n nn c0 n0 (gainZ A Q n) (gainC A Q n) k w (.returned (.slice ao l.length cap)) w4) := ⟨_, l, rfl, hl, ⟨hD.1.mono (unhide S3).1.2.2.2, fun i x hx => let ⟨B, cp, e, h1, h2, h3⟩ := hD.2 i x hx; ⟨B, cp, e, h1, Nat.le_trans (unhide S3).1.2.2.2 h2, h3⟩⟩, hu, (unhide S3).1.trans hm⟩
 clear hl hD hu hm UPH S3
 go_wp2
 go_ret
 exact unhide R
def RW (R : Nat) (c : Bool) (n0 D : Int) (W : World) : Prop := ∃ cnt, n0 ≤ cnt ∧ cnt ≤ n0 + D ∧ RC R c cnt W
def DAt (w : World) (R r c nn ob : Nat) (c0 : Bool) (n0 : Int) (Z : Nat → Int) (G : Bool) (d : Int) (ao : Option Addr) (cp : Nat) (W : World) : Prop :=
 Blk ob #[.int .i64 r, .int .i64 c, .slice ao nn cp] 38 W ∧ Row W ao nn Z ∧ (∀ U, U < w.heap.size → Off U nn ao) ∧ Off ob nn ao ∧ nn ≤ cp ∧ RW R (c0 || G) n0 d W ∧ Blk w.heap.size #[.int .i64 0, .int .i64 0, .slice none 0 0] 38 W ∧ w.heap.size < ob ∧ Mk R w W ∧ Off w.heap.size nn ao
theorem ap_at {B md nn cp : Nat} {W : World} (h : (Value.slice (some ⟨B, 0, none⟩) nn cp).ownBlock = (Value.slice (some ⟨md, 0, none⟩) 0 0).ownBlock ∨ ∃ g, (Value.slice (some ⟨B, 0, none⟩) nn cp).ownBlock = some g ∧ W.heap.size ≤ g) : B = md ∨ W.heap.size ≤ B := by
 rcases h with h | ⟨g, h, hg⟩
 ·have h : some B = some md := h
  cases h
  exact Or.inl rfl
 ·have h : some B = some g := h
  cases h
  exact Or.inr hg
theorem news_row {W : World} {b o nn : Nat} {Z : Nat → Int} (h : ∀ j, j < nn → W.cell? ⟨b, o + j, none⟩ = some (.int .i64 (Z j))) : ∀ j u, ((List.range nn).map fun i => Value.int .i64 (Z i))[j]? = some u → W.cell? ((⟨b, o, none⟩ : Addr).add j) = some u := by
 intro j u hu
 rw [List.getElem?_map] at hu
 by_cases hj : j < nn
 ·rw [List.getElem?_range hj] at hu
  simp at hu
  subst hu
  rw [Go.WideShapes.add_plain]
  exact h j hj
 ·rw [List.getElem?_eq_none (by simpa using hj)] at hu
  simp at hu
theorem DAt.start {w W : World} {R r c nn ob B cp : Nat} {c0 : Bool} {n0 : Int} {Z : Nat → Int} (h : RC R c0 n0 W) (hR : R < w.heap.size) (hX : Blk ob #[.int .i64 0, .int .i64 0, .slice none 0 0] 38 W) (own : Own B nn Z W) (hB : w.heap.size < B) (hne : B ≠ ob) (hcp : nn ≤ cp) (hr : Blk w.heap.size #[.int .i64 0, .int .i64 0, .slice none 0 0] 38 W) (ho : w.heap.size < ob) (m : Mk R w W) :
  DAt w R r c nn ob c0 n0 Z false 0 (some ⟨B, 0, none⟩) cp (((W.setCell ⟨ob, 0, none⟩ (.int .i64 r)).setCell ⟨ob, 1, none⟩ (.int .i64 c)).setCell ⟨ob, 2, none⟩ (.slice (some ⟨B, 0, none⟩) nn cp)) := by
 have P := putM hX (.int .i64 r) (.int .i64 c) (.slice (some ⟨B, 0, none⟩) nn cp)
 obtain ⟨cur, o1, o2⟩ := own
 refine ⟨P.1, Own.row ⟨cur, Blk.keep o1 P.2 hne, o2⟩, fun U hU _ a ha => by cases ha; show B ≠ U; omega, fun _ a ha => by cases ha; exact hne, hcp, ⟨n0, Int.le_refl _, by omega, ?_⟩, Blk.keep hr P.2 (by omega), ho, m.new P.2 (by omega), fun _ a ha => by cases ha; show B ≠ w.heap.size; omega⟩
 rw [Bool.or_false]
 exact Blk.keep h P.2 (by omega)
theorem DAt.step {w W W' : World} {R r c nn ob cp cp2 : Nat} {c0 G G' : Bool} {n0 d d' q : Int} {Z Y : Nat → Int} {ao a2 : Option Addr} (h : DAt w R r c nn ob c0 n0 Z G d ao cp W) (hR : R < w.heap.size) (m : Mk R W W') (u : RC R (c0 || G') q W') (hq : n0 ≤ q) (hq2 : q ≤ n0 + d') (hrow : Row W' a2 nn Y) (hoff : ∀ U, U < W.heap.size → Off U nn a2) (hcp : nn ≤ cp2) :
  Blk ob #[.int .i64 r, .int .i64 c, .slice ao nn cp] 38 W' ∧ DAt w R r c nn ob c0 n0 Y G' d' a2 cp2 (((W'.setCell ⟨ob, 0, none⟩ (.int .i64 r)).setCell ⟨ob, 1, none⟩ (.int .i64 c)).setCell ⟨ob, 2, none⟩ (.slice a2 nn cp2)) := by
 obtain ⟨h1, h2, h3, h4, h5, h6, h7, h8, h9, h10⟩ := h
 have b := Blk.mk h1 m (by omega : ob ≠ R)
 have P := putM b (.int .i64 r) (.int .i64 c) (.slice a2 nn cp2)
 have lo := Blk.lt h1
 refine ⟨b, P.1, hrow.mk (Mk.of P.2) (hoff ob lo), fun U hU => hoff U (by omega), hoff ob lo, hcp, ⟨q, hq, hq2, Blk.keep u P.2 (by omega)⟩, Blk.keep (Blk.mk h7 m (by omega)) P.2 (by omega), h8, (h9.trans m).new P.2 (by omega), hoff _ (by omega)⟩
set_option maxRecDepth 50000 in
set_option maxHeartbeats 16000000 in
theorem pRefAt_ok (R r c nn k n b o cap : Nat) (c0 : Bool) (n0 t : Int) (hn0 : 0 ≤ n0 ∧ n0 < 1000000000000000000) (ht : I64 t) (hr : 1 ≤ r ∧ r ≤ 12) (hc : 1 ≤ c ∧ c ≤ 12) (hnn : r * c = nn) (hk : k ≤ 24) (hnk : n = k + 1) (X : Nat → MV) (hok : okP n X) (hX : ∀ i, i ≤ k → (X i).R = r ∧ (X i).C = c ∧ (X i).len = nn) (hI : ∀ i, i ≤ k → ∀ j, j < nn → I64 ((X i).Z j)) (w : World) (h : RC R c0 n0 w) (hm : Mats w (some ⟨b, o, none⟩) n X) (hrow : ∀ i, i ≤ k → Row w (X i).ao nn (X i).Z) (ho : ∀ i, i ≤ k → Off R nn (X i).ao) (hoM : b ≠ R) :
  Calls Tryz.prog 45 #[.pointer (some ⟨R, 0, none⟩), .slice (some ⟨b, o, none⟩) n cap, .int .i64 t] w fun e w' => DocP r c nn (horZ (fun i => (X i).Z) k t k) 0 (fun w' => RW R (c0 || horC (fun i => (X i).Z) k t nn k) n0 100000 w' ∧ Mk R w w') w e w' := by
 have FI := hide (fun W (g : Grown w W) => pRefFine (some ⟨b, o, none⟩) n cap X (by omega) W (hm.grown g))
 rw [okPB_yes hok] at FI
 have k2 := mul12n r c hr hc
 rw [hnn] at k2
 have lR := Blk.lt h
 have G1 : Hid (Grown w (w.alloc (.cells #[.int .i64 0, .int .i64 0, .slice none 0 0] 38)) ∧ Blk w.heap.size #[.int .i64 0, .int .i64 0, .slice none 0 0] 38 (w.alloc (.cells #[.int .i64 0, .int .i64 0, .slice none 0 0] 38))) := ⟨(Grown.refl _).alloc _ _, Blk.new w _ _⟩
 obtain ⟨Zs, hZs⟩ : ∃ Zs : Nat → Nat → Int, Zs = fun i => (X i).Z := ⟨_, rfl⟩
 rw [← hZs]
 have XR : Hid (∀ i, i ≤ k → ∃ bx ox xc, (∀ j, j < nn → w.cell? ⟨bx, ox + j, none⟩ = some (.int .i64 (Zs i j))) ∧ bx ≠ R ∧ w.cell? ⟨b, o + i * 3, none⟩ = some (.int .i64 r) ∧ w.cell? ⟨b, o + i * 3 + 1, none⟩ = some (.int .i64 c) ∧ w.cell? ⟨b, o + i * 3 + 2, none⟩ = some (.slice (some ⟨bx, ox, none⟩) nn xc) ∧ (∀ j, j < nn → I64 (Zs i j))) := fun i hi => by
  obtain ⟨b', o', e, c0', c1', c2'⟩ := hm.at (k := i) (by omega)
  cases e
  obtain ⟨e1, e2, e3⟩ := hX i hi
  obtain ⟨bx, ox, e4, hz⟩ := (hrow i hi).some (by omega)
  rw [e1] at c0'
  rw [e2] at c1'
  rw [e3, e4] at c2'
  have hoi := ho i hi
  rw [e4] at hoi
  subst hZs
  exact ⟨bx, ox, (X i).cap, hz, off_at hoi (by omega), c0', c1', c2', hI i hi⟩
 have HR := hide lR
 have HU := hide h
 have HB := hide hoM
 have HN : Hid ((1 ≤ r ∧ r ≤ 12) ∧ (1 ≤ c ∧ c ≤ 12) ∧ r * c = nn ∧ 1 ≤ nn ∧ nn ≤ 144 ∧ k ≤ 24 ∧ n = k + 1 ∧ I64 t ∧ (0 ≤ n0 ∧ n0 < 1000000000000000000)) := ⟨hr, hc, hnn, by omega, by omega, hk, hnk, ht, hn0⟩
 have OK : Hid (okM r c nn) := ⟨by omega, by omega, by rw [← hnn, Int.natCast_mul]⟩
 obtain ⟨x0, hx0⟩ : ∃ x : Int, x = (k : Int) - 1 := ⟨_, rfl⟩
 have wq1 : wrap64 ((n : Int) - 1) = (k : Int) := by unfold wrap64; omega
 have wq2 : wrap64 ((n : Int) - 2) = x0 := by unfold wrap64; omega
 have wp1 : IntKind.i64.wrap ((n : Int) - 1) = (k : Int) := by rw [IntKind.wrap_i64]; omega
 have i0 : (0 : Int) ≤ (k : Int) := Int.natCast_nonneg _
 have i1 : (k : Int) < (n : Int) := by omega
 have HX0 := hide hx0
 clear hZs hm hX hI hrow ho hok h lR hoM hr hc hnn hk hnk ht hn0 k2 hx0
 go_enter Tryz.func45, Tryz.ntmps45
 go_wp2_with fail
 generalize w.alloc (.cells #[.int .i64 0, .int .i64 0, .slice none 0 0] 38) = w1 at *
 refine (unhide FI _ (unhide G1).1).mono ?_
 rintro e w2 ⟨rfl, g2⟩
 have G2 : Hid (Grown w w2 ∧ Blk w.heap.size #[.int .i64 0, .int .i64 0, .slice none 0 0] 38 w2) := ⟨gtrans (unhide G1).1 g2, Blk.grown (unhide G1).2 g2⟩
 obtain ⟨bx, ox, xc, hz, hbx, m0, m1, m2, _⟩ := unhide XR k (Nat.le_refl _)
 have y0 := gat (unhide G2).1 m0
 have y1 := gat (unhide G2).1 m1
 have y2 := gat (unhide G2).1 m2
 have HZ := hide (And.intro hz hbx)
 clear g2 G1 FI m0 m1 m2 hz hbx
 go_upto_region 4 with fail
 clear wq1 wp1 i0 i1 y0 y1 y2
 have CH : Hid (∀ W, Kp (w2.alloc (.cells #[.int .i64 r, .int .i64 c, .slice (some ⟨bx, ox, none⟩) nn xc] 38)) W → ((fun w' => w'.cell? ⟨w2.heap.size, 0, none⟩ = some (.int .i64 r) ∧ w'.cell? ⟨w2.heap.size, 1, none⟩ = some (.int .i64 c) ∧ w'.cell? ⟨w2.heap.size, 2, none⟩ = some (.slice (some ⟨bx, ox, none⟩) nn xc)) W) ∧ (∀ j, j < nn → W.cell? ⟨bx, ox + j, none⟩ = some (.int .i64 (Zs k j))) ∧ RC R c0 n0 W ∧ Blk w.heap.size #[.int .i64 0, .int .i64 0, .slice none 0 0] 38 W ∧ Mk R w W ∧ w.heap.size < (w2.alloc (.cells #[.int .i64 r, .int .i64 c, .slice (some ⟨bx, ox, none⟩) nn xc] 38)).heap.size) := fun W kW => by
  have bl := Blk.kp (Blk.new w2 #[.int .i64 r, .int .i64 c, .slice (some ⟨bx, ox, none⟩) nn xc] 38) kW
  have kk : Kp w W := ((Kp.of (unhide G2).1).alloc _ _).trans kW
  have lw := Blk.lt (unhide G2).2
  exact ⟨⟨Blk.cell bl 0, Blk.cell bl 1, Blk.cell bl 2⟩, fun j hj => kk.cell ((unhide HZ).1 j hj), Blk.kp (unhide HU) kk, Blk.kp (Blk.kp (unhide G2).2 ((Kp.refl w2).alloc _ _)) kW, Mk.kp kk, by simp; omega⟩
 generalize w2.alloc (.cells #[.int .i64 r, .int .i64 c, .slice (some ⟨bx, ox, none⟩) nn xc] 38) = w4 at *
 generalize w2.heap.size = lb at *
 clear G2 HZ
 obtain ⟨Zk, hZk⟩ : ∃ Zk, Zs k = Zk := ⟨_, rfl⟩
 rw [hZk] at CH
 have EZ := hide hZk
 clear hZk
 go_cut [9] (fun s9 wx => ∃ ob, s9 = .pointer (some ⟨ob, 0, none⟩) ∧ ∃ B cp, Hid (DAt w R r c nn ob c0 n0 Zk false 0 (some ⟨B, 0, none⟩) cp wx))
 case first =>
   refine region_G (fun w' => w'.cell? ⟨lb, 0, none⟩ = some (.int .i64 r) ∧ w'.cell? ⟨lb, 1, none⟩ = some (.int .i64 c) ∧ w'.cell? ⟨lb, 2, none⟩ = some (.slice (some ⟨bx, ox, none⟩) nn xc)) 10 (by kernel_rfl) ((unhide CH w4 (Kp.refl _)).1) (fun hHeld => ?_)
   have kd : Hid (Kp w4 w4.drew) := Kp.refl w4
   generalize w4.drew = wd at *
   refine take_G (i := 0) (d := 23) (v := .pointer (some ⟨lb, 0, none⟩)) rfl rfl (by kernel_rfl) (by kernel_rfl) (by kernel_rfl) (by kernel_rfl) (by kernel_rfl) (Or.inl ⟨by rfl, ?_⟩) hHeld ?_
   ·intro wS hSw
    obtain ⟨z0, z1, z2⟩ := hSw
    clear hHeld
    go_simp
    (try (intro hz; omega))
   (try simp only [Act.put, List.setIfInBounds_toArray, List.set_cons_zero, List.set_cons_succ])
   refine take_G (i := 1) (d := 24) (v := .int .i64 r) rfl rfl (by kernel_rfl) (by kernel_rfl) (by kernel_rfl) (by kernel_rfl) (by kernel_rfl) (Or.inl ⟨by rfl, ?_⟩) hHeld ?_
   ·intro wS hSw
    obtain ⟨z0, z1, z2⟩ := hSw
    clear hHeld
    go_simp
    (try (intro hz; omega))
   (try simp only [Act.put, List.setIfInBounds_toArray, List.set_cons_zero, List.set_cons_succ])
   refine take_G (i := 2) (d := 25) (v := .pointer (some ⟨lb, 1, none⟩)) rfl rfl (by kernel_rfl) (by kernel_rfl) (by kernel_rfl) (by kernel_rfl) (by kernel_rfl) (Or.inl ⟨by rfl, ?_⟩) hHeld ?_
   ·intro wS hSw
    obtain ⟨z0, z1, z2⟩ := hSw
    clear hHeld
    go_simp
    (try (intro hz; omega))
   (try simp only [Act.put, List.setIfInBounds_toArray, List.set_cons_zero, List.set_cons_succ])
   refine take_G (i := 3) (d := 26) (v := .int .i64 c) rfl rfl (by kernel_rfl) (by kernel_rfl) (by kernel_rfl) (by kernel_rfl) (by kernel_rfl) (Or.inl ⟨by rfl, ?_⟩) hHeld ?_
   ·intro wS hSw
    obtain ⟨z0, z1, z2⟩ := hSw
    clear hHeld
    go_simp
    (try (intro hz; omega))
   (try simp only [Act.put, List.setIfInBounds_toArray, List.set_cons_zero, List.set_cons_succ])
   refine take_G (i := 5) (d := 28) (v := .pointer (some ⟨lb, 2, none⟩)) rfl rfl (by kernel_rfl) (by kernel_rfl) (by kernel_rfl) (by kernel_rfl) (by kernel_rfl) (Or.inl ⟨by rfl, ?_⟩) hHeld ?_
   ·intro wS hSw
    obtain ⟨z0, z1, z2⟩ := hSw
    clear hHeld
    go_simp
    (try (intro hz; omega))
   (try simp only [Act.put, List.setIfInBounds_toArray, List.set_cons_zero, List.set_cons_succ])
   refine take_G (i := 6) (d := 29) (v := .slice (some ⟨bx, ox, none⟩) nn xc) rfl rfl (by kernel_rfl) (by kernel_rfl) (by kernel_rfl) (by kernel_rfl) (by kernel_rfl) (Or.inl ⟨by rfl, ?_⟩) hHeld ?_
   ·intro wS hSw
    obtain ⟨z0, z1, z2⟩ := hSw
    clear hHeld
    go_simp
    (try (intro hz; omega))
   (try simp only [Act.put, List.setIfInBounds_toArray, List.set_cons_zero, List.set_cons_succ])
   refine two_G (i := 4) (j := 9) (by kernel_rfl) (fun K hK => ?_) (fun K hK => ?_)
   ·clear hHeld
    refine wpOp_of rfl rfl ?_
    unfold Oper.wp
    go_simp
    have OM : Hid ((wd.alloc (.cells #[] 3)).ownsRow w4.heap.size 3 1 (.slice (some ⟨wd.heap.size, 0, none⟩) 0 0) 0 []) := World.ownsRow_made (base := w4.heap.size) (e := 3) (size := 1) wd #[] 0 (unhide kd).2.2.2 (by unfold maxLen; omega) (by simp)
    have lmd : Hid (wd.heap.size < (wd.alloc (.cells #[] 3)).heap.size ∧ w4.heap.size ≤ wd.heap.size) := ⟨by simp, (unhide kd).2.2.2⟩
    have k5 : Hid (Kp w4 (wd.alloc (.cells #[] 3))) := (unhide kd).alloc _ _
    generalize wd.alloc (.cells #[] 3) = w5 at *
    generalize wd.heap.size = md at *
    have hHeld := (unhide CH _ (unhide k5)).1
    refine hK _ _ (fun _ => hHeld) ?_
    clear hK K
    (try simp only [Act.put, List.setIfInBounds_toArray, List.set_cons_zero, List.set_cons_succ])
    refine two_G (i := 7) (j := 9) (by kernel_rfl) (fun K hK => ?_) (fun K hK => ?_)
    ·clear hHeld
     refine wpOp_of rfl rfl ?_
     refine wp_append_at (.tmp 27) (.tmp 29) rfl w4.heap.size (.slice (some ⟨md, 0, none⟩) 0 0) 0 [] (by first | rfl | simp [Act.eval, Act.put]) (unhide OM) ⟨bx, ox, none⟩ nn xc ((List.range nn).map fun i => Value.int .i64 (Zk i)) (by first | rfl | simp [Act.eval, Act.put]) (by simp) (news_row (unhide CH _ (unhide k5)).2.1) (cells_one _ _) (by have := unhide HN; omega) (by omega) (unhide k5).2.2.2 ?_
     intro v' w6 hown hgrow hat
     rw [Nat.zero_add, List.nil_append] at hown
     obtain ⟨B, cp, rfl, hcp, hbB, own⟩ := owns_ownC (unhide HN).2.2.2.1 hown
     have HBO := hide (ap_at hat)
     have k6 : Hid (Kp w4 w6) := Kp.by (unhide k5) hgrow (fun k e => ((unhide OM).lt k e).1)
     have OWN := hide (And.intro own (And.intro hcp hbB))
     clear hown hgrow hat own hcp hbB OM
     have hHeld := (unhide CH _ (unhide k6)).1
     refine hK _ _ (fun _ => hHeld) ?_
     clear hK K
     (try simp only [Act.put, List.setIfInBounds_toArray, List.set_cons_zero, List.set_cons_succ])
     refine take_G (i := 8) (d := 31) (v := .agg #[.int .i64 r, .int .i64 c, .slice (some ⟨B, 0, none⟩) nn cp]) rfl rfl (by kernel_rfl) (by kernel_rfl) (by kernel_rfl) (by kernel_rfl) (by kernel_rfl) (Or.inl ⟨by rfl, ?_⟩) hHeld ?_
     ·intro wS hSw
      obtain ⟨z0, z1, z2⟩ := hSw
      clear hHeld
      go_simp
      (try (intro hz; omega))
     (try simp only [Act.put, List.setIfInBounds_toArray, List.set_cons_zero, List.set_cons_succ])
     clear hHeld
     refine step_G (i := 9) (by kernel_rfl) (fun K hK => ?_)
     refine wpOp_of rfl rfl ?_
     unfold Oper.wp
     go_simp
     have k7 : Hid (Kp w4 (w6.alloc (.cells #[.int .i64 0, .int .i64 0, .slice none 0 0] 38))) := (unhide k6).alloc _ _
     have ZB := hide (Blk.new w6 #[.int .i64 0, .int .i64 0, .slice none 0 0] 38)
     have lob : Hid (w6.heap.size < (w6.alloc (.cells #[.int .i64 0, .int .i64 0, .slice none 0 0] 38)).heap.size ∧ w4.heap.size ≤ w6.heap.size) := ⟨by simp, (unhide k6).2.2.2⟩
     have lB := hide (Own.ltA (unhide OWN).1)
     have OWN : Hid (Own B nn Zk (w6.alloc (.cells #[.int .i64 0, .int .i64 0, .slice none 0 0] 38)) ∧ nn ≤ cp ∧ w4.heap.size ≤ B) := ⟨Own.kpA (unhide OWN).1 ((Kp.refl _).alloc _ _), (unhide OWN).2⟩
     generalize w6.alloc (.cells #[.int .i64 0, .int .i64 0, .slice none 0 0] 38) = w7 at *
     generalize w6.heap.size = ob at *
     have hHeld := (unhide CH _ (unhide k7)).1
     refine hK _ _ (fun _ => hHeld) ?_
     clear hK K
     (try simp only [Act.put, List.setIfInBounds_toArray, List.set_cons_zero, List.set_cons_succ])
     clear hHeld
     have HD : Hid (DAt w R r c nn ob c0 n0 Zk false 0 (some ⟨B, 0, none⟩) cp (((w7.setCell ⟨ob, 0, none⟩ (.int .i64 r)).setCell ⟨ob, 1, none⟩ (.int .i64 c)).setCell ⟨ob, 2, none⟩ (.slice (some ⟨B, 0, none⟩) nn cp))) := by
      obtain ⟨_, _, q1, q2, q3, q4⟩ := unhide CH _ (unhide k7)
      have := unhide lob
      have := (unhide OWN).2.2
      exact DAt.start q1 (unhide HR) (unhide ZB) (unhide OWN).1 (by omega) (by have := unhide lB; omega) (unhide OWN).2.1 q2 (by omega) q3
     have z3 : w7.cell? ⟨ob, 0, none⟩ = some (.int .i64 0) := Blk.cell (unhide ZB) 0
     have z4 : w7.cell? ⟨ob, 1, none⟩ = some (.int .i64 0) := Blk.cell (unhide ZB) 1
     have z5 : w7.cell? ⟨ob, 2, none⟩ = some (.slice none 0 0) := Blk.cell (unhide ZB) 2
     have zf := Blk.free (unhide ZB)
     refine step_G (i := 10) (by kernel_rfl) (fun K hK => ?_)
     refine wpOp_of rfl rfl ?_
     unfold Oper.wp
     go_simp
     refine hK _ _ (fun h => absurd rfl h) ?_
     clear hK K
     (try simp only [Act.put, List.setIfInBounds_toArray, List.set_cons_zero, List.set_cons_succ])
     refine done_G (by kernel_rfl) ?_
     refine noPanic_normalE ?_
     go_wp2_with fail
     go_meet
     exact ⟨ob, rfl, B, cp, HD⟩
    ·clear hHeld
     refine wpOp_of rfl rfl ?_
     unfold Oper.wp
     go_simp
     have k6 : Hid (Kp w4 (w5.alloc (.cells #[.int .i64 0, .int .i64 0, .slice none 0 0] 38))) := (unhide k5).alloc _ _
     have ZB := hide (Blk.new w5 #[.int .i64 0, .int .i64 0, .slice none 0 0] 38)
     have lob : Hid (w5.heap.size < (w5.alloc (.cells #[.int .i64 0, .int .i64 0, .slice none 0 0] 38)).heap.size ∧ w4.heap.size ≤ w5.heap.size) := ⟨by simp, (unhide k5).2.2.2⟩
     have OM : Hid ((w5.alloc (.cells #[.int .i64 0, .int .i64 0, .slice none 0 0] 38)).ownsRow w4.heap.size 3 1 (.slice (some ⟨md, 0, none⟩) 0 0) 0 []) := (unhide OM).alloc _
     generalize w5.alloc (.cells #[.int .i64 0, .int .i64 0, .slice none 0 0] 38) = w6 at *
     generalize w5.heap.size = ob at *
     have hHeld := (unhide CH _ (unhide k6)).1
     refine hK _ _ (fun _ => hHeld) ?_
     clear hK K
     (try simp only [Act.put, List.setIfInBounds_toArray, List.set_cons_zero, List.set_cons_succ])
     refine step_G (i := 7) (by kernel_rfl) (fun K hK => ?_)
     clear hHeld
     refine wpOp_of rfl rfl ?_
     refine wp_append_at (.tmp 27) (.tmp 29) rfl w4.heap.size (.slice (some ⟨md, 0, none⟩) 0 0) 0 [] (by first | rfl | simp [Act.eval, Act.put]) (unhide OM) ⟨bx, ox, none⟩ nn xc ((List.range nn).map fun i => Value.int .i64 (Zk i)) (by first | rfl | simp [Act.eval, Act.put]) (by simp) (news_row (unhide CH _ (unhide k6)).2.1) (cells_one _ _) (by have := unhide HN; omega) (by omega) (unhide k6).2.2.2 ?_
     intro v' w7 hown hgrow hat
     rw [Nat.zero_add, List.nil_append] at hown
     obtain ⟨B, cp, rfl, hcp, hbB, own⟩ := owns_ownC (unhide HN).2.2.2.1 hown
     have HBO := hide (ap_at hat)
     have k7 : Hid (Kp w4 w7) := Kp.by (unhide k6) hgrow (fun k e => ((unhide OM).lt k e).1)
     have OWN := hide (And.intro own (And.intro hcp hbB))
     have ZB := hide (Blk.by (unhide ZB) hgrow (by intro e; have e : some ob = some md := e; cases e; have := unhide lmd; have := unhide lob; omega))
     clear hown hgrow hat own hcp hbB OM
     have hHeld := (unhide CH _ (unhide k7)).1
     refine hK _ _ (fun _ => hHeld) ?_
     clear hK K
     (try simp only [Act.put, List.setIfInBounds_toArray, List.set_cons_zero, List.set_cons_succ])
     refine take_G (i := 8) (d := 31) (v := .agg #[.int .i64 r, .int .i64 c, .slice (some ⟨B, 0, none⟩) nn cp]) rfl rfl (by kernel_rfl) (by kernel_rfl) (by kernel_rfl) (by kernel_rfl) (by kernel_rfl) (Or.inl ⟨by rfl, ?_⟩) hHeld ?_
     ·intro wS hSw
      obtain ⟨z0, z1, z2⟩ := hSw
      clear hHeld
      go_simp
      (try (intro hz; omega))
     (try simp only [Act.put, List.setIfInBounds_toArray, List.set_cons_zero, List.set_cons_succ])
     clear hHeld
     have HD : Hid (DAt w R r c nn ob c0 n0 Zk false 0 (some ⟨B, 0, none⟩) cp (((w7.setCell ⟨ob, 0, none⟩ (.int .i64 r)).setCell ⟨ob, 1, none⟩ (.int .i64 c)).setCell ⟨ob, 2, none⟩ (.slice (some ⟨B, 0, none⟩) nn cp))) := by
      obtain ⟨_, _, q1, q2, q3, q4⟩ := unhide CH _ (unhide k7)
      have := unhide lob
      have := (unhide OWN).2.2
      exact DAt.start q1 (unhide HR) (unhide ZB) (unhide OWN).1 (by omega) (by have := unhide HBO; have := unhide lmd; omega) (unhide OWN).2.1 q2 (by omega) q3
     have z3 : w7.cell? ⟨ob, 0, none⟩ = some (.int .i64 0) := Blk.cell (unhide ZB) 0
     have z4 : w7.cell? ⟨ob, 1, none⟩ = some (.int .i64 0) := Blk.cell (unhide ZB) 1
     have z5 : w7.cell? ⟨ob, 2, none⟩ = some (.slice none 0 0) := Blk.cell (unhide ZB) 2
     have zf := Blk.free (unhide ZB)
     refine step_G (i := 10) (by kernel_rfl) (fun K hK => ?_)
     refine wpOp_of rfl rfl ?_
     unfold Oper.wp
     go_simp
     refine hK _ _ (fun h => absurd rfl h) ?_
     clear hK K
     (try simp only [Act.put, List.setIfInBounds_toArray, List.set_cons_zero, List.set_cons_succ])
     refine done_G (by kernel_rfl) ?_
     refine noPanic_normalE ?_
     go_wp2_with fail
     go_meet
     exact ⟨ob, rfl, B, cp, HD⟩
   ·clear hHeld
    refine wpOp_of rfl rfl ?_
    unfold Oper.wp
    go_simp
    have k5 : Hid (Kp w4 (wd.alloc (.cells #[.int .i64 0, .int .i64 0, .slice none 0 0] 38))) := (unhide kd).alloc _ _
    have ZB := hide (Blk.new wd #[.int .i64 0, .int .i64 0, .slice none 0 0] 38)
    have lob : Hid (wd.heap.size < (wd.alloc (.cells #[.int .i64 0, .int .i64 0, .slice none 0 0] 38)).heap.size ∧ w4.heap.size ≤ wd.heap.size) := ⟨by simp, (unhide kd).2.2.2⟩
    generalize wd.alloc (.cells #[.int .i64 0, .int .i64 0, .slice none 0 0] 38) = w5 at *
    generalize wd.heap.size = ob at *
    have hHeld := (unhide CH _ (unhide k5)).1
    refine hK _ _ (fun _ => hHeld) ?_
    clear hK K
    (try simp only [Act.put, List.setIfInBounds_toArray, List.set_cons_zero, List.set_cons_succ])
    refine step_G (i := 4) (by kernel_rfl) (fun K hK => ?_)
    clear hHeld
    refine wpOp_of rfl rfl ?_
    unfold Oper.wp
    go_simp
    have OM : Hid ((w5.alloc (.cells #[] 3)).ownsRow w4.heap.size 3 1 (.slice (some ⟨w5.heap.size, 0, none⟩) 0 0) 0 []) := World.ownsRow_made (base := w4.heap.size) (e := 3) (size := 1) w5 #[] 0 (unhide k5).2.2.2 (by unfold maxLen; omega) (by simp)
    have lmd : Hid (w5.heap.size < (w5.alloc (.cells #[] 3)).heap.size ∧ w4.heap.size ≤ w5.heap.size) := ⟨by simp, (unhide k5).2.2.2⟩
    have k6 : Hid (Kp w4 (w5.alloc (.cells #[] 3))) := (unhide k5).alloc _ _
    have ZB := hide (Blk.kp (unhide ZB) ((Kp.refl w5).alloc #[] 3))
    generalize w5.alloc (.cells #[] 3) = w6 at *
    generalize w5.heap.size = md at *
    have hHeld := (unhide CH _ (unhide k6)).1
    refine hK _ _ (fun _ => hHeld) ?_
    clear hK K
    (try simp only [Act.put, List.setIfInBounds_toArray, List.set_cons_zero, List.set_cons_succ])
    refine step_G (i := 7) (by kernel_rfl) (fun K hK => ?_)
    clear hHeld
    refine wpOp_of rfl rfl ?_
    refine wp_append_at (.tmp 27) (.tmp 29) rfl w4.heap.size (.slice (some ⟨md, 0, none⟩) 0 0) 0 [] (by first | rfl | simp [Act.eval, Act.put]) (unhide OM) ⟨bx, ox, none⟩ nn xc ((List.range nn).map fun i => Value.int .i64 (Zk i)) (by first | rfl | simp [Act.eval, Act.put]) (by simp) (news_row (unhide CH _ (unhide k6)).2.1) (cells_one _ _) (by have := unhide HN; omega) (by omega) (unhide k6).2.2.2 ?_
    intro v' w7 hown hgrow hat
    rw [Nat.zero_add, List.nil_append] at hown
    obtain ⟨B, cp, rfl, hcp, hbB, own⟩ := owns_ownC (unhide HN).2.2.2.1 hown
    have HBO := hide (ap_at hat)
    have k7 : Hid (Kp w4 w7) := Kp.by (unhide k6) hgrow (fun k e => ((unhide OM).lt k e).1)
    have OWN := hide (And.intro own (And.intro hcp hbB))
    have ZB := hide (Blk.by (unhide ZB) hgrow (by intro e; have e : some ob = some md := e; cases e; have := unhide lmd; have := unhide lob; omega))
    clear hown hgrow hat own hcp hbB OM
    have hHeld := (unhide CH _ (unhide k7)).1
    refine hK _ _ (fun _ => hHeld) ?_
    clear hK K
    (try simp only [Act.put, List.setIfInBounds_toArray, List.set_cons_zero, List.set_cons_succ])
    refine take_G (i := 8) (d := 31) (v := .agg #[.int .i64 r, .int .i64 c, .slice (some ⟨B, 0, none⟩) nn cp]) rfl rfl (by kernel_rfl) (by kernel_rfl) (by kernel_rfl) (by kernel_rfl) (by kernel_rfl) (Or.inl ⟨by rfl, ?_⟩) hHeld ?_
    ·intro wS hSw
     obtain ⟨z0, z1, z2⟩ := hSw
     clear hHeld
     go_simp
     (try (intro hz; omega))
    (try simp only [Act.put, List.setIfInBounds_toArray, List.set_cons_zero, List.set_cons_succ])
    clear hHeld
    have HD : Hid (DAt w R r c nn ob c0 n0 Zk false 0 (some ⟨B, 0, none⟩) cp (((w7.setCell ⟨ob, 0, none⟩ (.int .i64 r)).setCell ⟨ob, 1, none⟩ (.int .i64 c)).setCell ⟨ob, 2, none⟩ (.slice (some ⟨B, 0, none⟩) nn cp))) := by
     obtain ⟨_, _, q1, q2, q3, q4⟩ := unhide CH _ (unhide k7)
     have := unhide lob
     have := (unhide OWN).2.2
     exact DAt.start q1 (unhide HR) (unhide ZB) (unhide OWN).1 (by omega) (by have := unhide HBO; have := unhide lmd; have := unhide lob; omega) (unhide OWN).2.1 q2 (by omega) q3
    have z3 : w7.cell? ⟨ob, 0, none⟩ = some (.int .i64 0) := Blk.cell (unhide ZB) 0
    have z4 : w7.cell? ⟨ob, 1, none⟩ = some (.int .i64 0) := Blk.cell (unhide ZB) 1
    have z5 : w7.cell? ⟨ob, 2, none⟩ = some (.slice none 0 0) := Blk.cell (unhide ZB) 2
    have zf := Blk.free (unhide ZB)
    refine step_G (i := 10) (by kernel_rfl) (fun K hK => ?_)
    refine wpOp_of rfl rfl ?_
    unfold Oper.wp
    go_simp
    refine hK _ _ (fun h => absurd rfl h) ?_
    clear hK K
    (try simp only [Act.put, List.setIfInBounds_toArray, List.set_cons_zero, List.set_cons_succ])
    refine done_G (by kernel_rfl) ?_
    refine noPanic_normalE ?_
    go_wp2_with fail
    go_meet
    exact ⟨ob, rfl, B, cp, HD⟩
 case rest =>
  obtain ⟨ob, rfl, B0, cp0, HD⟩ := hcut
  clear CH
  go_wp2_with fail
  simp only [wq2]
  clear wq2
  go_loopw [10] (fun i wr => ∃ (j : Nat) (x : Int), j ≤ k ∧ i = .int .i64 x ∧ Hid (x = (k : Int) - 1 - j) ∧ ∃ ao cp, Hid (DAt w R r c nn ob c0 n0 (horZ Zs k t j) (horC Zs k t nn j) ((j : Int) * 1000) ao cp wr)) (fun i _ => (intOf i + 1).toNat)
  case atStart => exact ⟨0, x0, Nat.zero_le _, rfl, (by have := unhide HX0; show x0 = _; omega), _, _, by show Hid (DAt w R r c nn ob c0 n0 (Zs k) false ((0 : Nat) * 1000) _ _ _); rw [unhide EZ]; exact HD⟩
  case round =>
   obtain ⟨j, x, hj, rfl, HXJ, ao1, cp1, HJ⟩ := hrel
   clear HD
   by_cases hlt : j < k
   ·obtain ⟨m, hm⟩ : ∃ m : Nat, x = (m : Int) := ⟨k - 1 - j, by have := unhide HXJ; omega⟩
    subst hm
    have hmk : Hid (m = k - (j + 1) ∧ m ≤ k) := by have := unhide HXJ; exact ⟨by omega, by omega⟩
    obtain ⟨x', hx'⟩ : ∃ x' : Int, x' = (m : Int) - 1 := ⟨_, rfl⟩
    have wm : wrap64 ((m : Int) - 1) = x' := by have := (unhide HN).2.2.2.2.2.1; have := (unhide hmk).2; unfold wrap64; omega
    have HX' : Hid (x' = (k : Int) - 1 - ((j + 1 : Nat) : Int) ∧ x' = (m : Int) - 1) := by have := unhide HXJ; exact ⟨by omega, hx'⟩
    obtain ⟨bm, om, mc, hzm, hbm, m0, m1, m2, hIm⟩ := unhide XR m (unhide hmk).2
    have hN := unhide HN
    have y0 := Blk.cell (unhide HJ).1 0
    have y1 := Blk.cell (unhide HJ).1 1
    have y2 := Blk.cell (unhide HJ).1 2
    have y0 : wr.cell? ⟨ob, 0, none⟩ = some (.int .i64 r) := y0
    have y1 : wr.cell? ⟨ob, 1, none⟩ = some (.int .i64 c) := y1
    have y2 : wr.cell? ⟨ob, 2, none⟩ = some (.slice ao1 nn cp1) := y2
    have SC : Hid (∃ cnt, (n0 ≤ cnt ∧ cnt ≤ n0 + (j : Int) * 1000 ∧ j ≤ 24) ∧ Calls Tryz.prog 47 #[.pointer (some ⟨R, 0, none⟩), .agg #[.int .i64 r, .int .i64 c, .slice ao1 nn cp1], .int .i64 t] wr fun e w' => DocP r c nn (fun p => m2N (horZ Zs k t j p) t) 0 (fun w' => RC R (c0 || horC Zs k t nn j || orC (fun p => m2C (horZ Zs k t j p) t) nn) (cnt + 2 * nn) w' ∧ Mk R wr w') wr e w') := by
     obtain ⟨d1, d2, d3, d4, d5, ⟨cnt, q1, q2, hu⟩, d7, d8, d9, d10⟩ := unhide HJ
     have hI : ∀ p, p < nn → I64 (Zs k p) := by
      obtain ⟨_, _, _, _, _, _, _, _, hh⟩ := unhide XR k (Nat.le_refl _)
      exact hh
     exact ⟨cnt, ⟨q1, q2, by omega⟩, refScale_ok R _ cnt r c t hN.2.2.2.2.2.2.2.1 ao1 nn cp1 _ (unhide OK) ⟨by omega, by omega⟩ (hide (fun i hi => horZ_I64 Zs k t nn hI j i hi)) wr hu d2 (d3 R (unhide HR))⟩
    have MC : Hid ((∀ p, p < nn → w.cell? ⟨bm, om + p, none⟩ = some (.int .i64 (Zs m p))) ∧ bm ≠ R ∧ w.cell? ⟨b, o + m * 3, none⟩ = some (.int .i64 r) ∧ w.cell? ⟨b, o + m * 3 + 1, none⟩ = some (.int .i64 c) ∧ w.cell? ⟨b, o + m * 3 + 2, none⟩ = some (.slice (some ⟨bm, om, none⟩) nn mc) ∧ (∀ p, p < nn → I64 (Zs m p))) := ⟨hzm, hbm, m0, m1, m2, hIm⟩
    obtain ⟨cnt, hcnt, sc⟩ := unhide SC
    have HC := hide hcnt
    have SC2 := hide sc
    have i0 : (0 : Int) ≤ (m : Int) := Int.natCast_nonneg _
    have i1 : (m : Int) < (n : Int) := by have := (unhide hmk).2; omega
    have HLT : Hid (j + 1 ≤ k) := hlt
    clear hzm hbm m0 m1 m2 hIm hN hx' hcnt sc SC HXJ hlt hj
    go_wp2_with fail
    refine (unhide SC2).mono ?_
    rintro e w2 ⟨a2, p2, rfl, hp2, row2, off2, hu2, hm2⟩
    have W2 := hide (And.intro hp2 (And.intro row2 (And.intro off2 (And.intro hu2 hm2))))
    clear hp2 row2 off2 hu2 hm2 SC2 y0 y1 y2
    go_wp2_with fail
    have xbl : Hid (Blk w2.heap.size #[.int .i64 r, .int .i64 c, .slice a2 nn p2] 38 (w2.alloc (.cells #[.int .i64 r, .int .i64 c, .slice a2 nn p2] 38))) := Blk.new w2 _ _
    have ka : Hid (Kp w2 (w2.alloc (.cells #[.int .i64 r, .int .i64 c, .slice a2 nn p2] 38))) := (Kp.refl _).alloc _ _
    generalize w2.alloc (.cells #[.int .i64 r, .int .i64 c, .slice a2 nn p2] 38) = w3 at *
    have HX : Hid (w2.heap.size ≠ R ∧ b ≠ R) := ⟨by have := (unhide W2).2.2.2.2.2.2.2; have := (unhide HJ).2.2.2.2.2.2.2.2.1.2.2.2; have := unhide HR; omega, unhide HB⟩
    have HX3 : Hid (w2.heap.size ≠ ob ∧ b ≠ ob) := by
     have q1 := Blk.lt (unhide HJ).1
     have q2 := (unhide W2).2.2.2.2.2.2.2
     have q3 := heap_gt (unhide MC).2.2.1
     have q4 := (unhide HJ).2.2.2.2.2.2.2.1
     exact ⟨by omega, by omega⟩
    have HJ1 : Hid (j + 1 ≤ k) := unhide HLT
    have M3 : Hid (Mk R wr w3) := (unhide W2).2.2.2.2.trans (Mk.kp (unhide ka))
    have SU : Hid (∀ W, Kp w3 W → Calls Tryz.prog 95 #[.pointer (some ⟨R, 0, none⟩), .agg #[.int .i64 r, .int .i64 c, .slice a2 nn p2], .agg #[.int .i64 r, .int .i64 c, .slice (some ⟨bm, om, none⟩) nn mc]] W fun e w' => DocP r c nn (fun p => s2N (m2N (horZ Zs k t j p) t) (Zs m p)) 0 (fun w' => RC R (c0 || horC Zs k t nn j || orC (fun p => m2C (horZ Zs k t j p) t) nn || orC (fun p => s2C (m2N (horZ Zs k t j p) t) (Zs m p)) nn) (cnt + 2 * nn + 2 * nn) w' ∧ Mk R W w') W e w') := fun W kW => by
     obtain ⟨hp2, row2, off2, hu2, hm2⟩ := unhide W2
     obtain ⟨hzm, hbm, _, _, _, hIm⟩ := unhide MC
     have hN := unhide HN
     have hC := unhide HC
     have kk := (unhide ka).trans kW
     have mW : Mk R w W := ((unhide HJ).2.2.2.2.2.2.2.2.1.trans hm2).trans (Mk.kp kk)
     exact refSum_ok R _ (cnt + 2 * nn) r c a2 (some ⟨bm, om, none⟩) nn p2 mc _ _ (unhide OK) ⟨by omega, by omega⟩ (hide (fun i hi => m2N_I64 _ _)) (hide hIm) W (Blk.kp hu2 kk) (row2.kp kk) (off2 R (by have := (unhide HJ).2.2.2.2.2.2.2.2.1.2.2.2; have := unhide HR; omega)) (Or.inr ⟨bm, om, rfl, fun i hi => mW.cell (hzm i hi) hbm⟩) (fun _ a ha => by cases ha; exact hbm)
    have SS : Hid (∀ w5 a5 p5, nn ≤ p5 → Row w5 a5 nn (fun p => s2N (m2N (horZ Zs k t j p) t) (Zs m p)) → (∀ U, U < w3.heap.size → Off U nn a5) → RC R (c0 || horC Zs k t nn j || orC (fun p => m2C (horZ Zs k t j p) t) nn || orC (fun p => s2C (m2N (horZ Zs k t j p) t) (Zs m p)) nn) (cnt + 2 * nn + 2 * nn) w5 → Mk R w3 w5 →
      Blk ob #[.int .i64 r, .int .i64 c, .slice ao1 nn cp1] 38 w5 ∧ Hid (DAt w R r c nn ob c0 n0 (horZ Zs k t (j + 1)) (horC Zs k t nn (j + 1)) (((j + 1 : Nat) : Int) * 1000) a5 p5 (((w5.setCell ⟨ob, 0, none⟩ (.int .i64 r)).setCell ⟨ob, 1, none⟩ (.int .i64 c)).setCell ⟨ob, 2, none⟩ (.slice a5 nn p5)))) := fun w5 a5 p5 hp5 row5 off5 hu5 hm5 => by
     have hN := unhide HN
     have hC := unhide HC
     have e1 : horZ Zs k t (j + 1) = fun p => s2N (m2N (horZ Zs k t j p) t) (Zs m p) := by
      show hoZ _ (Zs (k - (j + 1))) t = _
      rw [← (unhide hmk).1]
      rfl
     have e2 : (c0 || horC Zs k t nn (j + 1)) = (c0 || horC Zs k t nn j || orC (fun p => m2C (horZ Zs k t j p) t) nn || orC (fun p => s2C (m2N (horZ Zs k t j p) t) (Zs m p)) nn) := by
      show (c0 || (horC Zs k t nn j || (orC _ nn || orC (fun p => s2C _ (Zs (k - (j + 1)) p)) nn))) = _
      rw [← (unhide hmk).1]
      simp only [Bool.or_assoc]
     rw [e1]
     rw [← e2] at hu5
     have mm : Mk R wr w5 := (unhide M3).trans hm5
     have lw : wr.heap.size ≤ w3.heap.size := (unhide M3).2.2.2
     have := (unhide HJ).step (unhide HR) mm hu5 (by omega) (d' := ((j + 1 : Nat) : Int) * 1000) (by omega) row5 (fun U hU => off5 U (by omega)) hp5
     exact ⟨this.1, this.2⟩
    have HHeld : Hid ((fun w' => w'.cell? ⟨w2.heap.size, 0, none⟩ = some (.int .i64 r) ∧ w'.cell? ⟨w2.heap.size, 1, none⟩ = some (.int .i64 c) ∧ w'.cell? ⟨w2.heap.size, 2, none⟩ = some (.slice a2 nn p2) ∧ w'.cell? ⟨b, o + m * 3, none⟩ = some (.int .i64 r) ∧ w'.cell? ⟨b, o + m * 3 + 1, none⟩ = some (.int .i64 c) ∧ w'.cell? ⟨b, o + m * 3 + 2, none⟩ = some (.slice (some ⟨bm, om, none⟩) nn mc)) w3.drew) := by
     have mW : Mk R w w3 := (unhide HJ).2.2.2.2.2.2.2.2.1.trans (unhide M3)
     obtain ⟨_, _, q0, q1, q2, _⟩ := unhide MC
     exact ⟨Blk.cell (unhide xbl) 0, Blk.cell (unhide xbl) 1, Blk.cell (unhide xbl) 2, mW.cell q0 (unhide HB), mW.cell q1 (unhide HB), mW.cell q2 (unhide HB)⟩
    generalize w2.heap.size = xb at *
    clear W2 ka M3 MC HC xbl hmk HJ
    generalize hma : (some ⟨bm, om, none⟩ : Option Addr) = ma at *
    refine wp_region_noPanic ?_
    refine wp_region_held_drew (S := fun w' => w'.cell? ⟨xb, 0, none⟩ = some (.int .i64 r) ∧ w'.cell? ⟨xb, 1, none⟩ = some (.int .i64 c) ∧ w'.cell? ⟨xb, 2, none⟩ = some (.slice a2 nn p2) ∧ w'.cell? ⟨b, o + m * 3, none⟩ = some (.int .i64 r) ∧ w'.cell? ⟨b, o + m * 3 + 1, none⟩ = some (.int .i64 c) ∧ w'.cell? ⟨b, o + m * 3 + 2, none⟩ = some (.slice ma nn mc)) (by kernel_rfl) (unhide HHeld) (fun hHeld => ?_)
    clear HHeld
    refine take_slotP (i := 0) (d := 47) (v := .pointer (some ⟨R, 0, none⟩)) rfl rfl (by kernel_rfl) (by kernel_rfl) (by kernel_rfl) (fun _ _ _ h => h) (Or.inl ⟨by rfl, ?_⟩) hHeld ?_
    ·intro wS hSw
     obtain ⟨z0, z1, z2, z3, z4, z5⟩ := hSw
     clear hHeld
     go_simp
     (try (intro hz; omega))
    (try simp only [Act.put, List.setIfInBounds_toArray, List.set_cons_zero, List.set_cons_succ])
    refine take_slotP (i := 1) (d := 48) (v := .agg #[.int .i64 r, .int .i64 c, .slice a2 nn p2]) rfl rfl (by kernel_rfl) (by kernel_rfl) (by kernel_rfl) (fun _ _ _ h => h) (Or.inl ⟨by rfl, ?_⟩) hHeld ?_
    ·intro wS hSw
     obtain ⟨z0, z1, z2, z3, z4, z5⟩ := hSw
     clear hHeld
     go_simp
     (try (intro hz; omega))
    (try simp only [Act.put, List.setIfInBounds_toArray, List.set_cons_zero, List.set_cons_succ])
    refine take_slotP (i := 2) (d := 49) (v := .slice (some ⟨b, o, none⟩) n cap) rfl rfl (by kernel_rfl) (by kernel_rfl) (by kernel_rfl) (fun _ _ _ h => h) (Or.inl ⟨by rfl, ?_⟩) hHeld ?_
    ·intro wS hSw
     obtain ⟨z0, z1, z2, z3, z4, z5⟩ := hSw
     clear hHeld
     go_simp
     (try (intro hz; omega))
    (try simp only [Act.put, List.setIfInBounds_toArray, List.set_cons_zero, List.set_cons_succ])
    refine take_slotP (i := 3) (d := 50) (v := .int .i64 (m : Int)) rfl rfl (by kernel_rfl) (by kernel_rfl) (by kernel_rfl) (fun _ _ _ h => h) (Or.inl ⟨by rfl, ?_⟩) hHeld ?_
    ·intro wS hSw
     obtain ⟨z0, z1, z2, z3, z4, z5⟩ := hSw
     clear hHeld
     go_simp
     (try (intro hz; omega))
    (try simp only [Act.put, List.setIfInBounds_toArray, List.set_cons_zero, List.set_cons_succ])
    refine take_slotP (i := 4) (d := 51) (v := .pointer (some ⟨b, o + m * 3, none⟩)) rfl rfl (by kernel_rfl) (by kernel_rfl) (by kernel_rfl) (fun _ _ _ h => h) (Or.inl ⟨by rfl, ?_⟩) hHeld ?_
    ·intro wS hSw
     obtain ⟨z0, z1, z2, z3, z4, z5⟩ := hSw
     clear hHeld
     go_simp
     (try (intro hz; omega))
    (try simp only [Act.put, List.setIfInBounds_toArray, List.set_cons_zero, List.set_cons_succ])
    refine take_slotP (i := 5) (d := 52) (v := .agg #[.int .i64 r, .int .i64 c, .slice ma nn mc]) rfl rfl (by kernel_rfl) (by kernel_rfl) (by kernel_rfl) (fun _ _ _ h => h) (Or.inl ⟨by rfl, ?_⟩) hHeld ?_
    ·intro wS hSw
     obtain ⟨z0, z1, z2, z3, z4, z5⟩ := hSw
     clear hHeld
     go_simp
     (try (intro hz; omega))
    (try simp only [Act.put, List.setIfInBounds_toArray, List.set_cons_zero, List.set_cons_succ])
    refine wpAnyH_ready (rs := [6]) (by kernel_rfl) (by simp) ?_
    refine AllReadyH.cons rfl (fun K hK => ?_) AllReadyH.nil
    go_simp
    refine (unhide SU _ (show Kp w3 w3.drew from Kp.refl _)).mono ?_
    rintro e w5 ⟨a5, p5, rfl, hp5, row5, off5, hu5, hm5⟩
    have hHeld : (fun w' => w'.cell? ⟨xb, 0, none⟩ = some (.int .i64 r) ∧ w'.cell? ⟨xb, 1, none⟩ = some (.int .i64 c) ∧ w'.cell? ⟨xb, 2, none⟩ = some (.slice a2 nn p2) ∧ w'.cell? ⟨b, o + m * 3, none⟩ = some (.int .i64 r) ∧ w'.cell? ⟨b, o + m * 3 + 1, none⟩ = some (.int .i64 c) ∧ w'.cell? ⟨b, o + m * 3 + 2, none⟩ = some (.slice ma nn mc)) w5 := by
     obtain ⟨q0, q1, q2, q3, q4, q5⟩ := hHeld
     have m5 : Mk R w3 w5 := hm5
     have n1 := unhide HX
     exact ⟨m5.cell q0 n1.1, m5.cell q1 n1.1, m5.cell q2 n1.1, m5.cell q3 n1.2, m5.cell q4 n1.2, m5.cell q5 n1.2⟩
    have ST := hide (unhide SS w5 a5 p5 hp5 row5 off5 hu5 (show Mk R w3 w5 from hm5))
    refine hK.out _ _ hHeld (fun hHeld => ?_)
    clear hK K hp5 row5 off5 hu5 hm5 SU SS
    (try simp only [Act.put, List.setIfInBounds_toArray, List.set_cons_zero, List.set_cons_succ])
    refine take_slotP (i := 7) (d := 46) (v := .tuple #[.agg #[.int .i64 r, .int .i64 c, .slice a5 nn p5], .int .i64 0]) rfl rfl (by kernel_rfl) (by kernel_rfl) (by kernel_rfl) (fun _ _ _ h => h) (Or.inl ⟨by rfl, ?_⟩) hHeld ?_
    ·intro wS hSw
     obtain ⟨z0, z1, z2, z3, z4, z5⟩ := hSw
     clear hHeld
     go_simp
     (try (intro hz; omega))
    (try simp only [Act.put, List.setIfInBounds_toArray, List.set_cons_zero, List.set_cons_succ])
    refine take_slotP (i := 8) (d := 54) (v := .agg #[.int .i64 r, .int .i64 c, .slice a5 nn p5]) rfl rfl (by kernel_rfl) (by kernel_rfl) (by kernel_rfl) (fun _ _ _ h => h) (Or.inl ⟨by rfl, ?_⟩) hHeld ?_
    ·intro wS hSw
     obtain ⟨z0, z1, z2, z3, z4, z5⟩ := hSw
     clear hHeld
     go_simp
     (try (intro hz; omega))
    (try simp only [Act.put, List.setIfInBounds_toArray, List.set_cons_zero, List.set_cons_succ])
    refine take_slotP (i := 9) (d := 55) (v := .int .i64 0) rfl rfl (by kernel_rfl) (by kernel_rfl) (by kernel_rfl) (fun _ _ _ h => h) (Or.inl ⟨by rfl, ?_⟩) hHeld ?_
    ·intro wS hSw
     obtain ⟨z0, z1, z2, z3, z4, z5⟩ := hSw
     clear hHeld
     go_simp
     (try (intro hz; omega))
    (try simp only [Act.put, List.setIfInBounds_toArray, List.set_cons_zero, List.set_cons_succ])
    have z0 : w5.cell? ⟨ob, 0, none⟩ = some (.int .i64 r) := Blk.cell (unhide ST).1 0
    have z1 : w5.cell? ⟨ob, 1, none⟩ = some (.int .i64 c) := Blk.cell (unhide ST).1 1
    have z2 : w5.cell? ⟨ob, 2, none⟩ = some (.slice ao1 nn cp1) := Blk.cell (unhide ST).1 2
    have zf := Blk.free (unhide ST).1
    have SD := hide (unhide ST).2
    have hHeld : (fun w' => w'.cell? ⟨xb, 0, none⟩ = some (.int .i64 r) ∧ w'.cell? ⟨xb, 1, none⟩ = some (.int .i64 c) ∧ w'.cell? ⟨xb, 2, none⟩ = some (.slice a2 nn p2) ∧ w'.cell? ⟨b, o + m * 3, none⟩ = some (.int .i64 r) ∧ w'.cell? ⟨b, o + m * 3 + 1, none⟩ = some (.int .i64 c) ∧ w'.cell? ⟨b, o + m * 3 + 2, none⟩ = some (.slice ma nn mc)) (((w5.setCell ⟨ob, 0, none⟩ (.int .i64 r)).setCell ⟨ob, 1, none⟩ (.int .i64 c)).setCell ⟨ob, 2, none⟩ (.slice a5 nn p5)) := by
     have P := Mk.of (putM (unhide ST).1 (.int .i64 r) (.int .i64 c) (.slice a5 nn p5)).2
     obtain ⟨q0, q1, q2, q3, q4, q5⟩ := hHeld
     have n1 := unhide HX3
     exact ⟨P.cell q0 n1.1, P.cell q1 n1.1, P.cell q2 n1.1, P.cell q3 n1.2, P.cell q4 n1.2, P.cell q5 n1.2⟩
    have HS3 := hide hHeld
    clear ST hHeld
    refine wpAnyH_ready (rs := [10]) (by kernel_rfl) (by simp) ?_
    refine AllReadyH.cons rfl (fun K hK => ?_) AllReadyH.nil
    go_simp
    refine hK.out _ _ (unhide HS3) (fun hHeld => ?_)
    clear HS3 hHeld
    clear hK K
    (try simp only [Act.put, List.setIfInBounds_toArray, List.set_cons_zero, List.set_cons_succ])
    refine wpAnyH_done (by kernel_rfl) (NoPanic.normal ?_) _
    clear z0 z1 z2 zf
    generalize (((w5.setCell ⟨ob, 0, none⟩ (.int .i64 r)).setCell ⟨ob, 1, none⟩ (.int .i64 c)).setCell ⟨ob, 2, none⟩ (.slice a5 nn p5)) = w6 at *
    go_wp2
    go_roundw
    case rel => exact ⟨j + 1, x', unhide HJ1, by first | rfl | rw [wm], (by have := unhide HX'; show x' = _; omega), a5, p5, unhide SD⟩
    case measure => have := unhide HX'; (try rw [wm]); simp [intOf]; omega
   ·obtain rfl : j = k := by omega
    obtain rfl : x = -1 := by have := unhide HXJ; omega
    have y0 : wr.cell? ⟨ob, 0, none⟩ = some (.int .i64 r) := Blk.cell (unhide HJ).1 0
    have y1 : wr.cell? ⟨ob, 1, none⟩ = some (.int .i64 c) := Blk.cell (unhide HJ).1 1
    have y2 : wr.cell? ⟨ob, 2, none⟩ = some (.slice ao1 nn cp1) := Blk.cell (unhide HJ).1 2
    obtain ⟨d1, d2, d3, d4, d5, ⟨cnt, q1, q2, hu⟩, d7, d8, d9, d10⟩ := unhide HJ
    have e0 : wr.cell? ⟨w.heap.size, 0, none⟩ = some (.int .i64 0) := Blk.cell d7 0
    have e1 : wr.cell? ⟨w.heap.size, 1, none⟩ = some (.int .i64 0) := Blk.cell d7 1
    have e2 : wr.cell? ⟨w.heap.size, 2, none⟩ = some (.slice none 0 0) := Blk.cell d7 2
    have f := Blk.free d7
    have hn := (unhide HN).2.2.2.2.2.1
    have RR : Hid (Row wr ao1 nn (horZ Zs j t j) ∧ (∀ U, U < w.heap.size → Off U nn ao1) ∧ nn ≤ cp1 ∧ (∃ cnt, n0 ≤ cnt ∧ cnt ≤ n0 + 100000 ∧ RC R (c0 || horC Zs j t nn j) cnt wr) ∧ Blk w.heap.size #[.int .i64 0, .int .i64 0, .slice none 0 0] 38 wr ∧ Mk R w wr ∧ Off w.heap.size nn ao1) := ⟨d2, d3, d5, ⟨cnt, q1, by omega, hu⟩, d7, d9, d10⟩
    clear d1 d2 d3 d4 d5 q1 q2 hu d7 d8 d9 d10 HJ hn
    go_wp2
    obtain ⟨h1, h2, h3, ⟨cnt, q1, q2, hu⟩, h5, h6, h7⟩ := unhide RR
    have P := putM h5 (.int .i64 r) (.int .i64 c) (.slice ao1 nn cp1)
    generalize (((wr.setCell ⟨w.heap.size, 0, none⟩ (.int .i64 r)).setCell ⟨w.heap.size, 1, none⟩ (.int .i64 c)).setCell ⟨w.heap.size, 2, none⟩ (.slice ao1 nn cp1)) = wE at *
    have c0' : wE.cell? ⟨w.heap.size, 0, none⟩ = some (.int .i64 r) := Blk.cell P.1 0
    have c1' : wE.cell? ⟨w.heap.size, 1, none⟩ = some (.int .i64 c) := Blk.cell P.1 1
    have c2' : wE.cell? ⟨w.heap.size, 2, none⟩ = some (.slice ao1 nn cp1) := Blk.cell P.1 2
    refine bodyPost_ret (v := .tuple #[.agg #[.int .i64 r, .int .i64 c, .slice ao1 nn cp1], .int .i64 0]) (by simp [results, Tryz.results45, go_sem, c0', c1', c2']) rfl ?_
    exact ⟨ao1, cp1, rfl, h3, h1.mk (Mk.of P.2) h7, h2, ⟨cnt, q1, q2, Blk.keep hu P.2 (by have := unhide HR; omega)⟩, h6.new P.2 (by omega)⟩
end Go.Proofs.YtjobgjcfkomhpaaGreat
namespace Go.Proofs.YtjobgjcfkomhpaaGreat
open Go.RowKit Go.Shelf Go.Proofs.Wd
set_option maxRecDepth 10000
section
variable {w wx w' : World} {es pre post fs : List Ob} {D E : List Nat} {p p' q : World → Prop}
theorem ST.tellU (pre : List Ob) (h : ST w (pre ++ (D, p) :: post) fs wx) (m : MkL D wx w') (hp : p' w') (hd : DepL D p') (hn : D.Nodup) (hq : q w') (hqd : DepL E q) (hE : ∀ k ∈ E, wx.heap.size ≤ k ∧ k < w'.heap.size) : ST w (pre ++ (D, p') :: post) ((E, q) :: fs) w' := by
 refine (h.mk pre m hp hd hn (fun k hk => Or.inl hk)).fact hq hqd (fun k hk => ⟨(hE k hk).2, fun hb => ?_⟩)
 rw [blks_mid] at hb
 have := (h.2.2.2.1 k (by rw [blks_mid]; exact hb)).2
 have := (hE k hk).1
 omega
theorem ST.upd (pre : List Ob) (h : ST w (pre ++ (D, p) :: post) fs wx) (m : MkL D wx w') (hp : p' w') (hd : DepL D p') (hn : D.Nodup) : ST w (pre ++ (D, p') :: post) fs w' := h.mk pre m hp hd hn (fun k hk => Or.inl hk)
theorem ST.pushU (pre : List Ob) (h : ST w (pre ++ (D, p) :: post) fs wx) (m : MkL D wx w') (hp : p' w') (hd : DepL D p') (hn : D.Nodup) (hq : q w') (hqd : DepL E q) (hEn : E.Nodup) (hE : ∀ k ∈ E, wx.heap.size ≤ k ∧ k < w'.heap.size) : ST w ((E, q) :: (pre ++ (D, p') :: post)) fs w' := by
 have h2 := h.mk pre m hp hd hn (fun k hk => Or.inl hk)
 obtain ⟨a1, a2, a3, a4, a5⟩ := h2
 have hb : ∀ k ∈ blksOf (pre ++ (D, p') :: post), k < wx.heap.size := fun k hk => by
  rw [blks_mid] at hk
  exact (h.2.2.2.1 k (by rw [blks_mid]; exact hk)).2
 have e : blksOf ((E, q) :: (pre ++ (D, p') :: post)) = E ++ blksOf (pre ++ (D, p') :: post) := rfl
 refine ⟨a1, fun c hc => ?_, ?_, fun k hk => ?_, fun f hf => ⟨(a5 f hf).1, (a5 f hf).2.1, fun k hk => ⟨((a5 f hf).2.2 k hk).1, fun hx => ?_⟩⟩⟩
 ·rcases List.mem_cons.1 hc with rfl | hc
  ·exact ⟨hq, hqd⟩
  ·exact a2 c hc
 ·rw [e]
  exact List.nodup_append.2 ⟨hEn, a3, fun a ha b hb' e => by have := hb b hb'; have := (hE a ha).1; omega⟩
 ·rw [e] at hk
  rcases List.mem_append.1 hk with hk | hk
  ·exact ⟨Nat.le_trans h.1.2.2.2 (hE k hk).1, (hE k hk).2⟩
  ·exact a4 k hk
 ·rw [e] at hx
  rcases List.mem_append.1 hx with hx | hx
  ·have h0 : ∀ i ∈ f.1, i < wx.heap.size := fun i hi => by
    have := (h.2.2.2.2 f hf).2.2 i hi
    exact this.1
   have := h0 k hk
   have := (hE k hx).1
   omega
  ·exact ((a5 f hf).2.2 k hk).2 hx
end
def UO (U : Nat) (P : Bool → Prop) (d : Int) (wx : World) : Prop := ∃ c n, P c ∧ 0 ≤ n ∧ n ≤ d ∧ UC U c n wx
theorem uo_dep (U : Nat) (P : Bool → Prop) (d : Int) : DepL [U] (UO U P d) := fun w w' h ⟨c, n, h1, h2, h3, h4⟩ => ⟨c, n, h1, h2, h3, (h U (by simp)).trans h4⟩
theorem Own.lt {B len : Nat} {Z : Nat → Int} {w : World} (h : Own B len Z w) : B < w.heap.size := let ⟨_, h1, _⟩ := h; Blk.lt h1
def OwnM (r : Int) (n : Nat) (Z : Nat → Int) (w : World) (e : Ending) (w' : World) : Prop := ∃ B cap, e = .returned (.agg #[.int .i64 r, .int .i64 r, .slice (some ⟨B, 0, none⟩) n cap]) ∧ n ≤ cap ∧ w.heap.size ≤ B ∧ Own B n Z w' ∧ Kp w w'
end Go.Proofs.YtjobgjcfkomhpaaGreat
namespace Go.Proofs.YtjobgjcfkomhpaaGreat
open Go.RowKit Go.Shelf Go.Proofs.Wd
set_option maxRecDepth 10000
structure VO where
 r : Int
 c : Int
 len : Nat
 Z : Nat → Int
 err : Int
 cut : Bool
def zeroF : Nat → Int := fun _ => 0
open Classical in
noncomputable def flowO (R C : Int) (len : Nat) (A : Nat → Int) (t : Int) (c0 : Bool) : VO :=
 if sqA R C len then (if upTo A R.toNat R.toNat = true then ⟨R, C, len, flowZ A R.toNat t, 0, c0 || flowC A R.toNat t⟩ else ⟨0, 0, 0, zeroF, 2, c0⟩) else ⟨0, 0, 0, zeroF, 3, c0⟩
theorem dtl_at {base n nn : Nat} {A : Nat → Int} {v : Value} {l : List MV} {W : World} (h : DTl base n nn A v l W) {i : Nat} (hi : i < l.length) : ∃ B cp, ixM l i = DTx n nn A i B cp ∧ nn ≤ cp ∧ base ≤ B ∧ Own B nn (termZ A n i) W := by
 obtain ⟨B, cp, e, h1, h2, h3⟩ := h.2 i _ (List.getElem?_eq_getElem hi)
 exact ⟨B, cp, by rw [ixM_at (List.getElem?_eq_getElem hi), e], h1, h2, h3⟩
theorem refAtTerms (R n nn k : Nat) (c1 : Bool) (cnt t : Int) (hcnt : 0 ≤ cnt ∧ cnt < 1000000000000000000) (ht : I64 t) (hn : 1 ≤ n ∧ n ≤ 12) (hnn : n * n = nn) (hk : n = k + 1) (A : Nat → Int) (base : Nat) (v : Value) (l : List MV) (hl : l.length = k + 1) (w : World) (h : RC R c1 cnt w) (hD : DTl base n nn A v l w) (hR : R < base) :
  Calls Tryz.prog 45 #[.pointer (some ⟨R, 0, none⟩), v, .int .i64 t] w fun e w' => DocP n n nn (horZ (termZ A n) k t k) 0 (fun w' => RW R (c1 || horC (termZ A n) k t nn k) cnt 100000 w' ∧ Mk R w w') w e w' := by
 obtain ⟨ao, cap, e, hM, hc, hoff⟩ := hD.1.mats
 obtain ⟨g, cg, e2, _, hge, _⟩ := hD.1.openL hl (by omega)
 rw [e] at e2
 injection e2 with e3 e4 e5
 subst e3
 rw [hl] at e hM
 subst e
 have k2 := mul12n n n hn hn
 rw [hnn] at k2
 have at' : ∀ i, i ≤ k → ∃ B cp, ixM l i = DTx n nn A i B cp ∧ nn ≤ cp ∧ base ≤ B ∧ Own B nn (termZ A n i) w := fun i hi => dtl_at hD (by omega)
 have hZ : ∀ i, i ≤ k → ∀ p, p < nn → (ixM l i).Z p = termZ A n i p := fun i hi p _ => by
  obtain ⟨B, cp, e, _⟩ := at' i hi
  rw [e]
  rfl
 have hX : ∀ i, i ≤ k → (ixM l i).R = n ∧ (ixM l i).C = n ∧ (ixM l i).len = nn := fun i hi => by
  obtain ⟨B, cp, e, _⟩ := at' i hi
  rw [e]
  exact ⟨rfl, rfl, rfl⟩
 have hc' := hor_congr (fun i => (ixM l i).Z) (termZ A n) k t nn hZ k
 have okn : okM n n nn := ⟨by omega, by omega, by rw [← hnn, Int.natCast_mul]⟩
 refine (pRefAt_ok R n n nn k (k + 1) g 0 cap c1 cnt t hcnt ht hn hn hnn (by omega) rfl (ixM l) ⟨by omega, fun i hi => ?_⟩ hX (fun i hi j hj => ?_) w h hM (fun i hi => ?_) (fun i hi => ?_) (by omega)).mono ?_
 ·obtain ⟨a1, a2, a3⟩ := hX i (by omega)
  obtain ⟨b1, b2, b3⟩ := hX 0 (by omega)
  rw [a1, a2, a3, b1, b2]
  exact ⟨okn, rfl, rfl⟩
 ·rw [hZ i hi j hj]
  exact termZ_I64 A n i j (by rw [hnn]; exact hj)
 ·obtain ⟨B, cp, e, _, _, ho⟩ := at' i hi
  rw [e]
  exact ho.row
 ·obtain ⟨B, cp, e, _, hb, _⟩ := at' i hi
  rw [e]
  intro _ a ha
  cases ha
  show B ≠ R
  omega
 ·rintro e w6 ⟨a6, c6, rfl, h2, h3, h4, ⟨c', r1, r2, hu6⟩, h6⟩
  refine ⟨a6, c6, rfl, h2, ?_, h4, ⟨c', r1, r2, by rw [← hc'.2]; exact hu6⟩, h6⟩
  rcases h3 with h3 | ⟨b, o, rfl, h3⟩
  ·exact Or.inl h3
  ·exact Or.inr ⟨b, o, rfl, fun i hi => by rw [h3 i hi, hc'.1 i hi]⟩
set_option maxRecDepth 20000 in
set_option maxHeartbeats 4000000 in
theorem pRefFlow_ok (R n b o cap : Nat) (c0 : Bool) (n0 t : Int) (ht : I64 t) (hn0 : 0 ≤ n0 ∧ n0 < 100000000000000000) (A : Nat → Int) (hn : 1 ≤ n ∧ n ≤ 12) (hcap : n * n ≤ cap) (hA : ∀ j, j < n * n → I64 (A j)) (hup : upTo A n n = true) (w : World) (h : RC R c0 n0 w) (za : ∀ j, j < n * n → w.cell? ⟨b, o + j, none⟩ = some (.int .i64 (A j))) (hb : b ≠ R) :
  Calls Tryz.prog 40 #[.pointer (some ⟨R, 0, none⟩), .agg #[.int .i64 n, .int .i64 n, .slice (some ⟨b, o, none⟩) (n * n) cap], .int .i64 t] w fun e w' => DocP n n (n * n) (flowZ A n t) 0 (fun w' => RW R (c0 || flowC A n t) n0 200000 w' ∧ Mk R w w') w e w' := by
 have SQ := hide (fun w => pRefSquare n n (some ⟨b, o, none⟩) (n * n) cap w)
 rw [sqB_yes (sqA_of hn)] at SQ
 have k2 := mul12n n n hn hn
 have lU := Blk.lt h
 have UPP : Hid (∀ wx, Mk R w wx → Calls Tryz.prog 85 #[.agg #[.int .i64 n, .int .i64 n, .slice (some ⟨b, o, none⟩) (n * n) cap]] wx fun e w' => e = .returned (.bool true) ∧ Grown wx w') := fun wx m => by
  have := pRefUpper_ok n b o cap A hn wx (fun j hj => m.cell (za j hj) hb)
  rwa [hup] at this
 obtain ⟨nn, hnn⟩ : ∃ nn, n * n = nn := ⟨_, rfl⟩
 obtain ⟨k, hk⟩ : ∃ k, n = k + 1 := ⟨n - 1, by omega⟩
 have hk1 : n - 1 = k := by omega
 have TM : Hid (∀ wx, RC R c0 n0 wx → Mk R w wx → Calls Tryz.prog 86 #[.pointer (some ⟨R, 0, none⟩), .agg #[.int .i64 n, .int .i64 n, .slice (some ⟨b, o, none⟩) nn cap], .int .i64 (k : Int)] wx fun e w' => DTermP R n nn c0 n0 A k wx e w') := fun wx u m =>
  pRefTerms_ok R n nn b o cap k c0 n0 ⟨hn0.1, by omega⟩ A hn hnn (by omega) (by omega) (by rw [← hnn]; exact hA) wx u (fun j hj => m.cell (za j (by omega)) hb) hb
 have eF : Hid (flowZ A n t = horZ (termZ A n) k t k ∧ flowC A n t = (termC A n k || horC (termZ A n) k t nn k)) := by
  unfold flowZ flowC
  rw [hk1, hnn]
  exact ⟨rfl, rfl⟩
 rw [hnn] at SQ k2 UPP
 rw [hnn]
 have G : Grown w ((w.alloc (.cells #[.int .i64 n, .int .i64 n, .slice (some ⟨b, o, none⟩) nn cap] 38)).alloc (.cells #[.int .i64 0, .int .i64 0, .slice none 0 0] 38)) := ((Grown.refl _).alloc _ _).alloc _ _
 have HB : Hid (Blk w.heap.size #[.int .i64 n, .int .i64 n, .slice (some ⟨b, o, none⟩) nn cap] 38 ((w.alloc (.cells #[.int .i64 n, .int .i64 n, .slice (some ⟨b, o, none⟩) nn cap] 38)).alloc (.cells #[.int .i64 0, .int .i64 0, .slice none 0 0] 38)) ∧ Blk (w.heap.size + 1) #[.int .i64 0, .int .i64 0, .slice none 0 0] 38 ((w.alloc (.cells #[.int .i64 n, .int .i64 n, .slice (some ⟨b, o, none⟩) nn cap] 38)).alloc (.cells #[.int .i64 0, .int .i64 0, .slice none 0 0] 38))) := ⟨Blk.grown (Blk.new w _ _) ((Grown.refl _).alloc _ _), blk_new2 w _ _ _⟩
 have HG := hide (And.intro G (And.intro (Blk.grown h G) (And.intro hn0 (And.intro lU (And.intro k2 (And.intro ht (And.intro hn (And.intro hk hnn))))))))
 have wk : wrap64 ((n : Int) - 1) = (k : Int) := by unfold wrap64; omega
 clear G h hn0 lU za hb hA hup hcap k2 hk1 ht hn hk hnn
 go_enter Tryz.func40, Tryz.ntmps40
 go_wp2_with fail
 generalize (w.alloc (.cells #[.int .i64 n, .int .i64 n, .slice (some ⟨b, o, none⟩) nn cap] 38)).alloc (.cells #[.int .i64 0, .int .i64 0, .slice none 0 0] 38) = w1 at *
 refine (unhide SQ _).mono ?_
 rintro e w2 ⟨rfl, g2⟩
 have M2 : Mk R w w2 := Mk.kp (Kp.of (gtrans (unhide HG).1 g2))
 have S3 := hide (And.intro (Blk.grown (unhide HG).2.1 g2) (And.intro M2 (And.intro (Blk.grown (unhide HB).1 g2) (Blk.grown (unhide HB).2 g2))))
 have x0 : w2.cell? ⟨w.heap.size, 0, none⟩ = some (.int .i64 n) := Blk.cell (unhide S3).2.2.1 0
 have x1 : w2.cell? ⟨w.heap.size, 1, none⟩ = some (.int .i64 n) := Blk.cell (unhide S3).2.2.1 1
 have x2 : w2.cell? ⟨w.heap.size, 2, none⟩ = some (.slice (some ⟨b, o, none⟩) nn cap) := Blk.cell (unhide S3).2.2.1 2
 clear g2 SQ M2
 go_wp2_with fail
 refine (unhide UPP _ (unhide S3).2.1).mono ?_
 rintro e w4 ⟨rfl, g4⟩
 have S4 := hide (And.intro (Blk.grown (unhide S3).1 g4) (And.intro ((unhide S3).2.1.grown g4) (And.intro (Blk.grown (unhide S3).2.2.1 g4) (Blk.grown (unhide S3).2.2.2 g4))))
 clear g4 S3 x0 x1 x2 UPP
 have x0 : w4.cell? ⟨w.heap.size, 0, none⟩ = some (.int .i64 n) := Blk.cell (unhide S4).2.2.1 0
 have x1 : w4.cell? ⟨w.heap.size, 1, none⟩ = some (.int .i64 n) := Blk.cell (unhide S4).2.2.1 1
 have x2 : w4.cell? ⟨w.heap.size, 2, none⟩ = some (.slice (some ⟨b, o, none⟩) nn cap) := Blk.cell (unhide S4).2.2.1 2
 have T4 := hide (unhide TM _ (unhide S4).1 (unhide S4).2.1)
 clear TM
 go_wp2_with fail
 refine (unhide T4).mono ?_
 rintro e w5 ⟨v, l, rfl, hl, hD, ⟨cnt, q1, q2, hu⟩, hm⟩
 clear T4 x0 x1 x2
 have AT : Hid (Calls Tryz.prog 45 #[.pointer (some ⟨R, 0, none⟩), v, .int .i64 t] w5 fun e w' => DocP n n nn (flowZ A n t) 0 (fun w' => RW R (c0 || flowC A n t) n0 200000 w' ∧ Mk R w5 w') w5 e w') := by
  obtain ⟨_, _, hn0, lU, k2, ht, hn, hk, hnn⟩ := unhide HG
  have lw : w.heap.size ≤ w4.heap.size := (unhide S4).2.1.2.2.2
  refine (refAtTerms R n nn k (c0 || termC A n k) cnt t ⟨by omega, by omega⟩ ht hn hnn hk A w4.heap.size v l hl w5 hu hD (by omega)).mono ?_
  rintro e w6 ⟨a6, c6, rfl, h2, h3, h4, ⟨c', r1, r2, hu6⟩, h6⟩
  refine ⟨a6, c6, rfl, h2, by rw [(unhide eF).1]; exact h3, h4, ⟨c', by omega, by omega, ?_⟩, h6⟩
  rw [(unhide eF).2, ← Bool.or_assoc]
  exact hu6
 have S5 : Hid (Mk R w w5 ∧ Blk (w.heap.size + 1) #[.int .i64 0, .int .i64 0, .slice none 0 0] 38 w5) := ⟨(unhide S4).2.1.trans hm, Blk.mk (unhide S4).2.2.2 hm (by have := (unhide HG).2.2.2.1; omega)⟩
 clear hl hD q1 q2 hu hm S4
 go_wp2_with fail
 refine (unhide AT).mono ?_
 rintro e w6 ⟨a6, c6, rfl, h2, h3, h4, hu6, h6⟩
 have r6 := Blk.mk (unhide S5).2 h6 (by have := (unhide HG).2.2.2.1; omega)
 have M6 : Mk R w w6 := (unhide S5).1.trans h6
 have e0 : w6.cell? ⟨w.heap.size + 1, 0, none⟩ = some (.int .i64 0) := Blk.cell r6 0
 have e1 : w6.cell? ⟨w.heap.size + 1, 1, none⟩ = some (.int .i64 0) := Blk.cell r6 1
 have e2 : w6.cell? ⟨w.heap.size + 1, 2, none⟩ = some (.slice none 0 0) := Blk.cell r6 2
 have f := Blk.free r6
 have l5 := Blk.lt (unhide S5).2
 have RR := hide (And.intro h2 (And.intro h3 (And.intro (fun U (hU : U < w5.heap.size) => h4 U hU) (And.intro hu6 (And.intro M6 (And.intro r6 (And.intro (unhide HG).2.2.2.1 l5)))))))
 clear h2 h3 h4 hu6 h6 r6 M6 AT S5 HB HG l5
 go_wp2
 obtain ⟨h2, h3, h4, ⟨c', r1, r2, hu6⟩, M6, r6, lU, l5⟩ := unhide RR
 have P := putM r6 (.int .i64 n) (.int .i64 n) (.slice a6 nn c6)
 generalize (((w6.setCell ⟨w.heap.size + 1, 0, none⟩ (.int .i64 n)).setCell ⟨w.heap.size + 1, 1, none⟩ (.int .i64 n)).setCell ⟨w.heap.size + 1, 2, none⟩ (.slice a6 nn c6)) = wE at *
 have c0' : wE.cell? ⟨w.heap.size + 1, 0, none⟩ = some (.int .i64 n) := Blk.cell P.1 0
 have c1' : wE.cell? ⟨w.heap.size + 1, 1, none⟩ = some (.int .i64 n) := Blk.cell P.1 1
 have c2' : wE.cell? ⟨w.heap.size + 1, 2, none⟩ = some (.slice a6 nn c6) := Blk.cell P.1 2
 refine bodyPost_ret (v := .tuple #[.agg #[.int .i64 n, .int .i64 n, .slice a6 nn c6], .int .i64 0]) (by simp [results, Tryz.results40, go_sem, c0', c1', c2']) rfl ?_
 exact ⟨a6, c6, rfl, h2, h3.mk (Mk.of P.2) (h4 _ l5), fun U hU => h4 U (by omega), ⟨c', r1, r2, Blk.keep hu6 P.2 (by omega)⟩, M6.new P.2 (by omega)⟩
set_option maxRecDepth 20000 in
set_option maxHeartbeats 4000000 in
theorem pRefFlow_bad (R : Nat) (c0 : Bool) (n0 t : Int) (R1 C1 : Int) (ao : Option Addr) (len cap : Nat) (A Z : Nat → Int) (err : Int) (hb : (¬ sqA R1 C1 len ∧ err = 3) ∨ (sqA R1 C1 len ∧ upO R1 C1 len A = false ∧ err = 2)) (w : World) (h : RC R c0 n0 w) (ra : Row w ao len A) :
  Calls Tryz.prog 40 #[.pointer (some ⟨R, 0, none⟩), .agg #[.int .i64 R1, .int .i64 C1, .slice ao len cap], .int .i64 t] w fun e w' => DocP 0 0 0 Z err (fun w' => RC R c0 n0 w' ∧ Mk R w w') w e w' := by
 have SQ := hide (fun w => pRefSquare R1 C1 ao len cap w)
 have lU := Blk.lt h
 have G : Grown w ((w.alloc (.cells #[.int .i64 R1, .int .i64 C1, .slice ao len cap] 38)).alloc (.cells #[.int .i64 0, .int .i64 0, .slice none 0 0] 38)) := ((Grown.refl _).alloc _ _).alloc _ _
 have UPP : Hid (∀ wx, Grown w wx → Calls Tryz.prog 85 #[.agg #[.int .i64 R1, .int .i64 C1, .slice ao len cap]] wx fun e w' => e = .returned (.bool (upO R1 C1 len A)) ∧ Grown wx w') := fun wx g => pRefUpper R1 C1 ao len cap A wx (ra.grown g)
 have HB : Hid (Blk w.heap.size #[.int .i64 R1, .int .i64 C1, .slice ao len cap] 38 ((w.alloc (.cells #[.int .i64 R1, .int .i64 C1, .slice ao len cap] 38)).alloc (.cells #[.int .i64 0, .int .i64 0, .slice none 0 0] 38)) ∧ Blk (w.heap.size + 1) #[.int .i64 0, .int .i64 0, .slice none 0 0] 38 ((w.alloc (.cells #[.int .i64 R1, .int .i64 C1, .slice ao len cap] 38)).alloc (.cells #[.int .i64 0, .int .i64 0, .slice none 0 0] 38))) := ⟨Blk.grown (Blk.new w _ _) ((Grown.refl _).alloc _ _), blk_new2 w _ _ _⟩
 have HG := hide (And.intro G (And.intro h lU))
 rcases hb with ⟨hs, rfl⟩ | ⟨hs, hu, rfl⟩
 ·rw [sqB_no hs] at SQ
  clear G h lU hs UPP ra
  go_enter Tryz.func40, Tryz.ntmps40
  go_wp2_with fail
  generalize (w.alloc (.cells #[.int .i64 R1, .int .i64 C1, .slice ao len cap] 38)).alloc (.cells #[.int .i64 0, .int .i64 0, .slice none 0 0] 38) = w1 at *
  refine (unhide SQ _).mono ?_
  rintro e w6 ⟨rfl, g2⟩
  have r6 := Blk.grown (unhide HB).2 g2
  have GG := hide (And.intro (gtrans (unhide HG).1 g2) r6)
  have e0 : w6.cell? ⟨w.heap.size + 1, 0, none⟩ = some (.int .i64 0) := Blk.cell r6 0
  have e1 : w6.cell? ⟨w.heap.size + 1, 1, none⟩ = some (.int .i64 0) := Blk.cell r6 1
  have e2 : w6.cell? ⟨w.heap.size + 1, 2, none⟩ = some (.slice none 0 0) := Blk.cell r6 2
  have f := Blk.free r6
  clear g2 SQ r6
  go_wp2
  have P := putM (unhide GG).2 (.int .i64 0) (.int .i64 0) (.slice none 0 0)
  generalize (((w6.setCell ⟨w.heap.size + 1, 0, none⟩ (.int .i64 0)).setCell ⟨w.heap.size + 1, 1, none⟩ (.int .i64 0)).setCell ⟨w.heap.size + 1, 2, none⟩ (.slice none 0 0)) = wE at *
  have c0' : wE.cell? ⟨w.heap.size + 1, 0, none⟩ = some (.int .i64 0) := Blk.cell P.1 0
  have c1' : wE.cell? ⟨w.heap.size + 1, 1, none⟩ = some (.int .i64 0) := Blk.cell P.1 1
  have c2' : wE.cell? ⟨w.heap.size + 1, 2, none⟩ = some (.slice none 0 0) := Blk.cell P.1 2
  refine bodyPost_ret (v := .tuple #[.agg #[.int .i64 0, .int .i64 0, .slice none 0 0], .int .i64 3]) (by simp [results, Tryz.results40, go_sem, c0', c1', c2']) rfl ?_
  exact ⟨none, 0, rfl, Nat.le_refl _, Or.inl rfl, fun U _ h0 => absurd h0 (Nat.lt_irrefl _), Blk.keep (Blk.grown (unhide HG).2.1 (unhide GG).1) P.2 (by have := (unhide HG).2.2; omega), (Mk.kp (Kp.of (unhide GG).1)).new P.2 (by omega)⟩
 ·rw [sqB_yes hs] at SQ
  rw [hu] at UPP
  clear G h lU hs ra hu
  go_enter Tryz.func40, Tryz.ntmps40
  go_wp2_with fail
  generalize (w.alloc (.cells #[.int .i64 R1, .int .i64 C1, .slice ao len cap] 38)).alloc (.cells #[.int .i64 0, .int .i64 0, .slice none 0 0] 38) = w1 at *
  refine (unhide SQ _).mono ?_
  rintro e w2 ⟨rfl, g2⟩
  have S3 := hide (And.intro (gtrans (unhide HG).1 g2) (And.intro (Blk.grown (unhide HB).1 g2) (Blk.grown (unhide HB).2 g2)))
  have x0 : w2.cell? ⟨w.heap.size, 0, none⟩ = some (.int .i64 R1) := Blk.cell (unhide S3).2.1 0
  have x1 : w2.cell? ⟨w.heap.size, 1, none⟩ = some (.int .i64 C1) := Blk.cell (unhide S3).2.1 1
  have x2 : w2.cell? ⟨w.heap.size, 2, none⟩ = some (.slice ao len cap) := Blk.cell (unhide S3).2.1 2
  clear g2 SQ
  go_wp2_with fail
  refine (unhide UPP _ (unhide S3).1).mono ?_
  rintro e w6 ⟨rfl, g4⟩
  have r6 := Blk.grown (unhide S3).2.2 g4
  have GG := hide (And.intro (gtrans (unhide S3).1 g4) r6)
  have e0 : w6.cell? ⟨w.heap.size + 1, 0, none⟩ = some (.int .i64 0) := Blk.cell r6 0
  have e1 : w6.cell? ⟨w.heap.size + 1, 1, none⟩ = some (.int .i64 0) := Blk.cell r6 1
  have e2 : w6.cell? ⟨w.heap.size + 1, 2, none⟩ = some (.slice none 0 0) := Blk.cell r6 2
  have f := Blk.free r6
  clear g4 UPP r6 x0 x1 x2 S3
  go_wp2
  have P := putM (unhide GG).2 (.int .i64 0) (.int .i64 0) (.slice none 0 0)
  generalize (((w6.setCell ⟨w.heap.size + 1, 0, none⟩ (.int .i64 0)).setCell ⟨w.heap.size + 1, 1, none⟩ (.int .i64 0)).setCell ⟨w.heap.size + 1, 2, none⟩ (.slice none 0 0)) = wE at *
  have c0' : wE.cell? ⟨w.heap.size + 1, 0, none⟩ = some (.int .i64 0) := Blk.cell P.1 0
  have c1' : wE.cell? ⟨w.heap.size + 1, 1, none⟩ = some (.int .i64 0) := Blk.cell P.1 1
  have c2' : wE.cell? ⟨w.heap.size + 1, 2, none⟩ = some (.slice none 0 0) := Blk.cell P.1 2
  refine bodyPost_ret (v := .tuple #[.agg #[.int .i64 0, .int .i64 0, .slice none 0 0], .int .i64 2]) (by simp [results, Tryz.results40, go_sem, c0', c1', c2']) rfl ?_
  exact ⟨none, 0, rfl, Nat.le_refl _, Or.inl rfl, fun U _ h0 => absurd h0 (Nat.lt_irrefl _), Blk.keep (Blk.grown (unhide HG).2.1 (unhide GG).1) P.2 (by have := (unhide HG).2.2; omega), (Mk.kp (Kp.of (unhide GG).1)).new P.2 (by omega)⟩
theorem DocP.toP {r c err : Int} {len : Nat} {Z : Nat → Int} {X Y : World → Prop} {w : World} {e : Ending} {w' : World} (h : DocP r c len Z err X w e w') (f : X w' → Y w') : DocP r c len Z err Y w e w' := let ⟨ao, cap, h1, h2, h3, h4, h5⟩ := h; ⟨ao, cap, h1, h2, h3, h4, f h5⟩
theorem rw_more {U : Nat} {c : Bool} {n0 d : Int} {w w' : World} (hd : d ≤ 200000) (h : RW U c n0 d w' ∧ Mk U w w') : RW U c n0 200000 w' ∧ Mk U w w' := let ⟨⟨m, h1, h2, h3⟩, h4⟩ := h; ⟨⟨m, h1, by omega, h3⟩, h4⟩
theorem rw_none {U : Nat} {c : Bool} {n0 : Int} {w w' : World} (h : RC U c n0 w' ∧ Mk U w w') : RW U c n0 200000 w' ∧ Mk U w w' := ⟨⟨n0, by omega, by omega, h.1⟩, h.2⟩
theorem refFlowAny (R : Nat) (c0 : Bool) (n0 : Int) (hn0 : 0 ≤ n0 ∧ n0 < 100000000000000000) (R1 C1 t : Int) (ht : I64 t) (ao : Option Addr) (len cap : Nat) (A : Nat → Int) (hp : len ≤ cap) (hA : ∀ j, j < len → I64 (A j)) (w : World) (h : RC R c0 n0 w) (ra : Row w ao len A) (oa : Off R len ao) (q : VO) (hq : flowO R1 C1 len A t c0 = q) :
  Calls Tryz.prog 40 #[.pointer (some ⟨R, 0, none⟩), .agg #[.int .i64 R1, .int .i64 C1, .slice ao len cap], .int .i64 t] w fun e w' => DocP q.r q.c q.len q.Z q.err (fun w' => RW R q.cut n0 200000 w' ∧ Mk R w w') w e w' := by
 subst hq
 unfold flowO
 by_cases hg : sqA R1 C1 len
 ·rw [if_pos hg]
  have hg' := hg
  obtain ⟨n, rfl, rfl, hn, rfl, k1, k2⟩ := hg.nat
  have en : ((n : Int)).toNat = n := Int.toNat_natCast n
  rw [en]
  by_cases hu : upTo A n n = true
  ·rw [if_pos hu]
   obtain ⟨b, o, rfl, za⟩ := ra.some k1
   exact (pRefFlow_ok R n b o cap c0 n0 t ht hn0 A hn hp hA hu w h za (off_at oa k1)).mono (fun e w' h => h.toP (fun h => rw_more (by omega) h))
  ·rw [if_neg hu]
   exact (pRefFlow_bad R c0 n0 t n n ao (n * n) cap A zeroF 2 (Or.inr ⟨hg', by unfold upO; rw [if_pos hg', en]; simpa using hu, rfl⟩) w h ra).mono (fun e w' h => h.toP rw_none)
 ·rw [if_neg hg]
  exact (pRefFlow_bad R c0 n0 t R1 C1 ao len cap A zeroF 3 (Or.inl ⟨hg, rfl⟩) w h ra).mono (fun e w' h => h.toP rw_none)
open Classical in
noncomputable def moFlowO (m : DV) (ticks : Int) (c0 : Bool) : VO :=
 if rfD m ticks = 0 then ⟨m.N, m.N, m.A.len, flowZ m.A.Z m.N.toNat (spanZ ticks m.tick), 0, c0 || spanC ticks m.tick || flowC m.A.Z m.N.toNat (spanZ ticks m.tick)⟩ else ⟨0, 0, 0, zeroF, rfD m ticks, c0⟩
theorem rfD_ok {m : DV} {ticks : Int} (h : rfD m ticks = 0) : okD m ∧ inTime ticks := by
 unfold rfD at h
 by_cases h1 : okD m
 ·rw [if_pos h1] at h
  by_cases h2 : inTime ticks
  ·exact ⟨h1, h2⟩
  ·rw [if_neg h2] at h; exact absurd h (by decide)
 ·rw [if_neg h1] at h; exact absurd h (by decide)
theorem okD_nat {m : DV} (h : okD m) : ∃ n : Nat, m.N = n ∧ (1 ≤ n ∧ n ≤ 6) ∧ m.A.len = n * n ∧ m.Q.len = n ∧ (1 ≤ n * n ∧ n * n ≤ 36) ∧ upTo m.A.Z n n = true := by
 obtain ⟨⟨h1, h2⟩, ⟨h3, h4, h5⟩, _⟩ := h
 obtain ⟨n, hn⟩ : ∃ n : Nat, m.N = n := ⟨m.N.toNat, (Int.toNat_of_nonneg (by omega)).symm⟩
 rw [hn] at h1 h2 h3 h4 h5
 rw [Int.toNat_natCast] at h3 h4 h5
 have n1 : 1 ≤ n := by omega
 have n6 : n ≤ 6 := by omega
 have q1 : 1 * 1 ≤ n * n := Nat.mul_le_mul n1 n1
 have q2 : n * n ≤ 6 * 6 := Nat.mul_le_mul n6 n6
 exact ⟨n, hn, ⟨n1, n6⟩, h3, h4, ⟨by omega, by omega⟩, (upTo_true _ _ _).2 fun i hi j hj => ((h5 i hi).2 j (by omega)).2 hj⟩
theorem okD_sq {m : DV} (h : okD m) : sqA m.N m.N m.A.len := by
 obtain ⟨n, hn, h1, h2, _⟩ := okD_nat h
 rw [hn, h2]
 exact sqA_of ⟨by omega, by omega⟩
theorem moFlow_in {m : DV} (h : okD m) (t : Int) (c : Bool) : flowO m.N m.N m.A.len m.A.Z t c = ⟨m.N, m.N, m.A.len, flowZ m.A.Z m.N.toNat t, 0, c || flowC m.A.Z m.N.toNat t⟩ := by
 have hs := okD_sq h
 obtain ⟨n, hn, h1, h2, _, _, hu⟩ := okD_nat h
 unfold flowO
 rw [if_pos hs, hn, Int.toNat_natCast, if_pos hu]
set_option maxRecDepth 20000 in
set_option maxHeartbeats 8000000 in
theorem refMoFlow_ok (R : Nat) (c0 : Bool) (n0 : Int) (hn0 : 0 ≤ n0 ∧ n0 < 10000000000000000) (m : DV) (ticks : Int) (hI : I64 ticks) (w : World) (hm : m.good w) (oa : Off R m.A.len m.A.ao) (e0 : rfD m ticks = 0) (h : RC R c0 n0 w) :
  Calls Tryz.prog 16 #[.pointer (some ⟨R, 0, none⟩), .agg m.cells, .int .i64 ticks] w fun e w' => DocP m.N m.N m.A.len (flowZ m.A.Z m.N.toNat (spanZ ticks m.tick)) 0 (fun w' => RW R (c0 || spanC ticks m.tick || flowC m.A.Z m.N.toNat (spanZ ticks m.tick)) n0 200003 w' ∧ Mk R w w') w e w' := by
 have S0 : Hid (Grown w ((w.alloc (.cells #[.int .i64 m.N, .slice m.A.ao m.A.len m.A.cap, .slice m.Q.ao m.Q.len m.Q.cap, .int .i64 m.tick, .int .i64 m.gate, .int .i64 m.rmin, .slice m.ro m.rl m.rc] 25)).alloc (.cells #[.int .i64 0, .int .i64 0, .slice none 0 0] 38)) ∧ Blk w.heap.size m.cells 25 ((w.alloc (.cells #[.int .i64 m.N, .slice m.A.ao m.A.len m.A.cap, .slice m.Q.ao m.Q.len m.Q.cap, .int .i64 m.tick, .int .i64 m.gate, .int .i64 m.rmin, .slice m.ro m.rl m.rc] 25)).alloc (.cells #[.int .i64 0, .int .i64 0, .slice none 0 0] 38)) ∧ Blk (w.heap.size + 1) #[.int .i64 0, .int .i64 0, .slice none 0 0] 38 ((w.alloc (.cells #[.int .i64 m.N, .slice m.A.ao m.A.len m.A.cap, .slice m.Q.ao m.Q.len m.Q.cap, .int .i64 m.tick, .int .i64 m.gate, .int .i64 m.rmin, .slice m.ro m.rl m.rc] 25)).alloc (.cells #[.int .i64 0, .int .i64 0, .slice none 0 0] 38))) := by
  have g1 : Grown w (w.alloc (.cells m.cells 25)) := (Grown.refl _).alloc _ _
  have s1 : (w.alloc (.cells m.cells 25)).heap.size = w.heap.size + 1 := by simp
  have b1 : Blk w.heap.size m.cells 25 (w.alloc (.cells m.cells 25)) := Blk.new w _ _
  have b2 : Blk (w.alloc (.cells m.cells 25)).heap.size #[.int .i64 0, .int .i64 0, .slice none 0 0] 38 ((w.alloc (.cells m.cells 25)).alloc (.cells #[.int .i64 0, .int .i64 0, .slice none 0 0] 38)) := Blk.new _ _ _
  rw [s1] at b2
  exact ⟨g1.alloc _ _, Blk.grown b1 ((Grown.refl _).alloc _ _), b2⟩
 have SP : Hid (∀ W, Grown w W → Calls Tryz.prog 14 #[.pointer (some ⟨R, 0, none⟩), .agg #[.int .i64 m.N, .slice m.A.ao m.A.len m.A.cap, .slice m.Q.ao m.Q.len m.Q.cap, .int .i64 m.tick, .int .i64 m.gate, .int .i64 m.rmin, .slice m.ro m.rl m.rc], .int .i64 ticks] W fun e w' => e = .returned (.tuple #[.int .i64 (spanZ ticks m.tick), .int .i64 0]) ∧ RC R (c0 || spanC ticks m.tick) (n0 + 3) w' ∧ Mod R W w') := fun W g => refSpan_ok R c0 n0 ⟨by omega, by omega⟩ m ticks hI W (hm.kp (Kp.of g)) e0 (Blk.grown h g)
 have AA := hide (fun W => refMoA m W)
 unfold DV.cells at AA
 have FL : Hid (∀ W, Mk R w W → RC R (c0 || spanC ticks m.tick) (n0 + 3) W → Calls Tryz.prog 40 #[.pointer (some ⟨R, 0, none⟩), .agg #[.int .i64 m.N, .int .i64 m.N, .slice m.A.ao m.A.len m.A.cap], .int .i64 (spanZ ticks m.tick)] W fun e w' => DocP m.N m.N m.A.len (flowZ m.A.Z m.N.toNat (spanZ ticks m.tick)) 0 (fun w' => RW R (c0 || spanC ticks m.tick || flowC m.A.Z m.N.toNat (spanZ ticks m.tick)) (n0 + 3) 200000 w' ∧ Mk R W w') W e w') := fun W g u =>
  refFlowAny R _ (n0 + 3) ⟨by omega, by omega⟩ m.N m.N (spanZ ticks m.tick) (spanZ_I64 _ _) m.A.ao m.A.len m.A.cap m.A.Z hm.1.2.1.1 hm.1.2.2 W u (hm.1.1.mk g oa) oa _ (moFlow_in (rfD_ok e0).1 _ _)
 have lR : Hid (R < w.heap.size) := Blk.lt h
 clear hm e0 h hn0 hI oa
 generalize spanZ ticks m.tick = sp at *
 generalize (c0 || spanC ticks m.tick) = c1 at *
 obtain ⟨y0, y1, y2, y3, y4, y5, y6⟩ := (unhide S0).2.1.cellsM
 unfold DV.cells
 go_enter Tryz.func16, Tryz.ntmps16
 go_wp2_with fail
 generalize ((w.alloc (.cells #[.int .i64 m.N, .slice m.A.ao m.A.len m.A.cap, .slice m.Q.ao m.Q.len m.Q.cap, .int .i64 m.tick, .int .i64 m.gate, .int .i64 m.rmin, .slice m.ro m.rl m.rc] 25)).alloc (.cells #[.int .i64 0, .int .i64 0, .slice none 0 0] 38)) = w1 at *
 refine (unhide SP w1 (unhide S0).1).mono ?_
 rintro e w2 ⟨rfl, u2, m2⟩
 have S2 : Hid (Mk R w w2 ∧ RC R c1 (n0 + 3) w2 ∧ Blk w.heap.size m.cells 25 w2 ∧ Blk (w.heap.size + 1) #[.int .i64 0, .int .i64 0, .slice none 0 0] 38 w2) := ⟨(Mk.of (Mod.of (unhide S0).1)).trans (Mk.of m2), u2, Blk.keep (unhide S0).2.1 m2 (by have := unhide lR; omega), Blk.keep (unhide S0).2.2 m2 (by have := unhide lR; omega)⟩
 clear u2 m2 S0 SP y0 y1 y2 y3 y4 y5 y6
 obtain ⟨y0, y1, y2, y3, y4, y5, y6⟩ := ((unhide S2).2.2.1).cellsM
 go_wp2_with fail
 refine (unhide AA w2).mono ?_
 rintro e w3 ⟨rfl, g3⟩
 have S3 : Hid (Mk R w w3 ∧ RC R c1 (n0 + 3) w3 ∧ Blk (w.heap.size + 1) #[.int .i64 0, .int .i64 0, .slice none 0 0] 38 w3) := ⟨(unhide S2).1.grown g3, Blk.grown (unhide S2).2.1 g3, Blk.grown (unhide S2).2.2.2 g3⟩
 clear g3 S2 AA y0 y1 y2 y3 y4 y5 y6
 go_wp2_with fail
 refine (unhide FL w3 (unhide S3).1 (unhide S3).2.1).mono ?_
 rintro e w6 ⟨a6, c6, rfl, h2, h3, h4, hu6, h6⟩
 have r6 := Blk.mk (unhide S3).2.2 h6 (by have := unhide lR; omega)
 have M6 : Mk R w w6 := (unhide S3).1.trans h6
 have e0 : w6.cell? ⟨w.heap.size + 1, 0, none⟩ = some (.int .i64 0) := Blk.cell r6 0
 have e1 : w6.cell? ⟨w.heap.size + 1, 1, none⟩ = some (.int .i64 0) := Blk.cell r6 1
 have e2 : w6.cell? ⟨w.heap.size + 1, 2, none⟩ = some (.slice none 0 0) := Blk.cell r6 2
 have f := Blk.free r6
 have l5 := Blk.lt (unhide S3).2.2
 have RR := hide (And.intro h2 (And.intro h3 (And.intro (fun U (hU : U < w3.heap.size) => h4 U hU) (And.intro hu6 (And.intro M6 (And.intro r6 (And.intro (unhide lR) l5)))))))
 clear h2 h3 h4 hu6 h6 r6 M6 FL S3 l5 lR
 go_wp2
 obtain ⟨h2, h3, h4, ⟨c', r1, r2, hu6⟩, M6, r6, lU, l5⟩ := unhide RR
 have P := putM r6 (.int .i64 m.N) (.int .i64 m.N) (.slice a6 m.A.len c6)
 generalize (((w6.setCell ⟨w.heap.size + 1, 0, none⟩ (.int .i64 m.N)).setCell ⟨w.heap.size + 1, 1, none⟩ (.int .i64 m.N)).setCell ⟨w.heap.size + 1, 2, none⟩ (.slice a6 m.A.len c6)) = wE at *
 have c0' : wE.cell? ⟨w.heap.size + 1, 0, none⟩ = some (.int .i64 m.N) := Blk.cell P.1 0
 have c1' : wE.cell? ⟨w.heap.size + 1, 1, none⟩ = some (.int .i64 m.N) := Blk.cell P.1 1
 have c2' : wE.cell? ⟨w.heap.size + 1, 2, none⟩ = some (.slice a6 m.A.len c6) := Blk.cell P.1 2
 refine bodyPost_ret (v := .tuple #[.agg #[.int .i64 m.N, .int .i64 m.N, .slice a6 m.A.len c6], .int .i64 0]) (by simp [results, Tryz.results16, go_sem, c0', c1', c2']) rfl ?_
 exact ⟨a6, c6, rfl, h2, h3.mk (Mk.of P.2) (h4 _ l5), fun U hU => h4 U (by omega), ⟨c', by omega, by omega, Blk.keep hu6 P.2 (by omega)⟩, M6.new P.2 (by omega)⟩
set_option maxRecDepth 20000 in
set_option maxHeartbeats 4000000 in
theorem refMoFlow_bad (R : Nat) (c0 : Bool) (n0 : Int) (m : DV) (ticks : Int) (Z : Nat → Int) (w : World) (hm : m.good w) (e0 : rfD m ticks ≠ 0) (h : RC R c0 n0 w) :
  Calls Tryz.prog 16 #[.pointer (some ⟨R, 0, none⟩), .agg m.cells, .int .i64 ticks] w fun e w' => DocP 0 0 0 Z (rfD m ticks) (fun w' => RC R c0 n0 w' ∧ Mk R w w') w e w' := by
 have S0 : Hid (Grown w ((w.alloc (.cells #[.int .i64 m.N, .slice m.A.ao m.A.len m.A.cap, .slice m.Q.ao m.Q.len m.Q.cap, .int .i64 m.tick, .int .i64 m.gate, .int .i64 m.rmin, .slice m.ro m.rl m.rc] 25)).alloc (.cells #[.int .i64 0, .int .i64 0, .slice none 0 0] 38)) ∧ Blk w.heap.size m.cells 25 ((w.alloc (.cells #[.int .i64 m.N, .slice m.A.ao m.A.len m.A.cap, .slice m.Q.ao m.Q.len m.Q.cap, .int .i64 m.tick, .int .i64 m.gate, .int .i64 m.rmin, .slice m.ro m.rl m.rc] 25)).alloc (.cells #[.int .i64 0, .int .i64 0, .slice none 0 0] 38)) ∧ Blk (w.heap.size + 1) #[.int .i64 0, .int .i64 0, .slice none 0 0] 38 ((w.alloc (.cells #[.int .i64 m.N, .slice m.A.ao m.A.len m.A.cap, .slice m.Q.ao m.Q.len m.Q.cap, .int .i64 m.tick, .int .i64 m.gate, .int .i64 m.rmin, .slice m.ro m.rl m.rc] 25)).alloc (.cells #[.int .i64 0, .int .i64 0, .slice none 0 0] 38))) := by
  have g1 : Grown w (w.alloc (.cells m.cells 25)) := (Grown.refl _).alloc _ _
  have s1 : (w.alloc (.cells m.cells 25)).heap.size = w.heap.size + 1 := by simp
  have b1 : Blk w.heap.size m.cells 25 (w.alloc (.cells m.cells 25)) := Blk.new w _ _
  have b2 : Blk (w.alloc (.cells m.cells 25)).heap.size #[.int .i64 0, .int .i64 0, .slice none 0 0] 38 ((w.alloc (.cells m.cells 25)).alloc (.cells #[.int .i64 0, .int .i64 0, .slice none 0 0] 38)) := Blk.new _ _ _
  rw [s1] at b2
  exact ⟨g1.alloc _ _, Blk.grown b1 ((Grown.refl _).alloc _ _), b2⟩
 have SP : Hid (∀ W, Grown w W → Calls Tryz.prog 14 #[.pointer (some ⟨R, 0, none⟩), .agg #[.int .i64 m.N, .slice m.A.ao m.A.len m.A.cap, .slice m.Q.ao m.Q.len m.Q.cap, .int .i64 m.tick, .int .i64 m.gate, .int .i64 m.rmin, .slice m.ro m.rl m.rc], .int .i64 ticks] W fun e w' => e = .returned (.tuple #[.int .i64 0, .int .i64 (rfD m ticks)]) ∧ Grown W w') := fun W g => refSpan_bad R m ticks W (hm.kp (Kp.of g)) e0
 have lR : Hid (R < w.heap.size) := Blk.lt h
 have HH := hide h
 have de : (rfD m ticks != 0) = true := by simpa using e0
 clear hm e0 h
 generalize rfD m ticks = er at *
 obtain ⟨y0, y1, y2, y3, y4, y5, y6⟩ := (unhide S0).2.1.cellsM
 unfold DV.cells
 go_enter Tryz.func16, Tryz.ntmps16
 go_wp2_with fail
 generalize ((w.alloc (.cells #[.int .i64 m.N, .slice m.A.ao m.A.len m.A.cap, .slice m.Q.ao m.Q.len m.Q.cap, .int .i64 m.tick, .int .i64 m.gate, .int .i64 m.rmin, .slice m.ro m.rl m.rc] 25)).alloc (.cells #[.int .i64 0, .int .i64 0, .slice none 0 0] 38)) = w1 at *
 refine (unhide SP w1 (unhide S0).1).mono ?_
 rintro e w2 ⟨rfl, g2⟩
 have S2 : Hid (Grown w w2 ∧ Blk (w.heap.size + 1) #[.int .i64 0, .int .i64 0, .slice none 0 0] 38 w2) := ⟨gtrans (unhide S0).1 g2, Blk.grown (unhide S0).2.2 g2⟩
 clear g2 S0 SP y0 y1 y2 y3 y4 y5 y6
 have e0 : w2.cell? ⟨w.heap.size + 1, 0, none⟩ = some (.int .i64 0) := Blk.cell (unhide S2).2 0
 have e1 : w2.cell? ⟨w.heap.size + 1, 1, none⟩ = some (.int .i64 0) := Blk.cell (unhide S2).2 1
 have e2 : w2.cell? ⟨w.heap.size + 1, 2, none⟩ = some (.slice none 0 0) := Blk.cell (unhide S2).2 2
 have f := Blk.free (unhide S2).2
 go_wp2
 have P := putM (unhide S2).2 (.int .i64 0) (.int .i64 0) (.slice none 0 0)
 generalize (((w2.setCell ⟨w.heap.size + 1, 0, none⟩ (.int .i64 0)).setCell ⟨w.heap.size + 1, 1, none⟩ (.int .i64 0)).setCell ⟨w.heap.size + 1, 2, none⟩ (.slice none 0 0)) = wE at *
 have c0' : wE.cell? ⟨w.heap.size + 1, 0, none⟩ = some (.int .i64 0) := Blk.cell P.1 0
 have c1' : wE.cell? ⟨w.heap.size + 1, 1, none⟩ = some (.int .i64 0) := Blk.cell P.1 1
 have c2' : wE.cell? ⟨w.heap.size + 1, 2, none⟩ = some (.slice none 0 0) := Blk.cell P.1 2
 refine bodyPost_ret (v := .tuple #[.agg #[.int .i64 0, .int .i64 0, .slice none 0 0], .int .i64 er]) (by simp [results, Tryz.results16, go_sem, c0', c1', c2']) rfl ?_
 exact ⟨none, 0, rfl, Nat.le_refl _, Or.inl rfl, fun U _ h0 => absurd h0 (by omega), Blk.keep (Blk.grown (unhide HH) (unhide S2).1) P.2 (by have := unhide lR; omega), (Mk.of (Mod.of (unhide S2).1)).new P.2 (by omega)⟩
end Go.Proofs.YtjobgjcfkomhpaaGreat
namespace Go.Proofs.YtjobgjcfkomhpaaGreat
open Go.RowKit Go.Shelf Go.Proofs.Wd
set_option maxRecDepth 10000
def GCoefP (R n nn : Nat) (c : Bool) (n0 : Int) (T : Nat → Nat → Int) (C : Nat → Bool) (k : Nat) (w : World) (e : Ending) (w' : World) : Prop :=
 ∃ (v : Value) (l : List MV), e = .returned v ∧ l.length = k + 1 ∧ GTl w.heap.size n nn T v l w' ∧ (∃ m, n0 ≤ m ∧ m ≤ n0 + 100000 ∧ RC R (c || C k) m w') ∧ Mk R w w'
def GX (R n nn : Nat) (wr : World) (X : Nat → Int) (c : Bool) (z : Int) (Xb Bx cx : Nat) (wx : World) : Prop :=
 Mk R wr wx ∧ RC R c z wx ∧ Own Bx nn X wx ∧ nn ≤ cx ∧ Blk Xb #[.int .i64 n, .int .i64 n, .slice (some ⟨Bx, 0, none⟩) nn cx] 38 wx ∧ wr.heap.size ≤ Bx ∧ wr.heap.size ≤ Xb
theorem GX.mk {R n nn Xb Bx cx : Nat} {wr wx : World} {X : Nat → Int} {c : Bool} {z : Int} (m : Mk R wr wx) (u : RC R c z wx) (o : Own Bx nn X wx) (hc : nn ≤ cx) (hX : Blk Xb #[.int .i64 0, .int .i64 0, .slice none 0 0] 38 wx) (h1 : wr.heap.size ≤ Bx) (h2 : wr.heap.size ≤ Xb) (hR : R < wr.heap.size) :
  GX R n nn wr X c z Xb Bx cx (((wx.setCell ⟨Xb, 0, none⟩ (.int .i64 n)).setCell ⟨Xb, 1, none⟩ (.int .i64 n)).setCell ⟨Xb, 2, none⟩ (.slice (some ⟨Bx, 0, none⟩) nn cx)) := by
 have P := putM hX (.int .i64 n) (.int .i64 n) (.slice (some ⟨Bx, 0, none⟩) nn cx)
 obtain ⟨cur, o1, o2⟩ := o
 exact ⟨m.new P.2 h2, Blk.keep u P.2 (by omega), ⟨cur, Blk.keep o1 P.2 (blk_ne o1 hX (by decide +kernel)), o2⟩, hc, P.1, h1, h2⟩
set_option maxRecDepth 50000 in
set_option maxHeartbeats 16000000 in
theorem refCoef (R : Nat) (c0 : Bool) (n0 : Int) (hn0 : 0 ≤ n0 ∧ n0 < 10000000000000000) (m : DV) (n nn K : Nat) (eN : m.N = n) (hnn : n * n = nn) (hK : 2 * n - 2 = K) (w : World) (hm : m.good w) (hok : okD m) (oa : Off R m.A.len m.A.ao) (h : RC R c0 n0 w) :
  Calls Tryz.prog 46 #[.pointer (some ⟨R, 0, none⟩), .agg m.cells] w fun e w' => GCoefP R n nn c0 n0 (gainZ m.A.Z m.Q.Z n) (gainC m.A.Z m.Q.Z n) K w e w' := by
 have HN : Hid ((1 ≤ n ∧ n ≤ 6) ∧ (1 ≤ nn ∧ nn ≤ 36) ∧ m.A.len = nn ∧ m.Q.len = n) := by
  obtain ⟨n', e, h1, h2, h3, h4, _⟩ := okD_nat hok
  obtain rfl : n' = n := Int.ofNat.inj (e.symm.trans eN)
  rw [hnn] at h2 h4
  exact ⟨h1, h4, h2, h3⟩
 have hal := (unhide HN).2.2.1
 have hql := (unhide HN).2.2.2
 obtain ⟨ab, ao, ea, _⟩ := hm.1.1.at (show 0 < m.A.len by have := unhide HN; omega)
 have HNN := hide hnn
 have HCP : Hid (nn ≤ m.A.cap) := by have := hm.1.2.1.1; show nn ≤ m.A.cap; omega
 have HH : Hid (0 ≤ n0 ∧ n0 < 10000000000000000 ∧ R < w.heap.size ∧ ab ≠ R) := ⟨hn0.1, hn0.2, Blk.lt h, oa (by have := unhide HN; omega) _ ea⟩
 obtain ⟨A, hA⟩ : ∃ A, A = m.A.Z := ⟨_, rfl⟩
 obtain ⟨Q, hQ⟩ : ∃ Q, Q = m.Q.Z := ⟨_, rfl⟩
 rw [← hA, ← hQ]
 have IA : Hid (∀ j, j < nn → I64 (A j)) := fun j hj => by rw [hA]; exact hm.1.2.2 j (by omega)
 have IQ : Hid (∀ j, j < n → I64 (Q j)) := fun j hj => by rw [hQ]; exact hm.2.1.2.2 j (by omega)
 have ZA : Hid (∀ wx, Mk R w wx → ∀ j, j < nn → wx.cell? ⟨ab, ao + j, none⟩ = some (.int .i64 (A j))) := fun wx k j hj => by
  obtain ⟨b', o', e', hc⟩ := hm.1.1.at (show j < m.A.len by omega)
  rw [ea] at e'
  cases e'
  rw [hA]
  exact k.cell hc (unhide HH).2.2.2
 have CM : Hid (∀ wx, Blk w.heap.size m.cells 25 wx → wx.cell? ⟨w.heap.size, 0, none⟩ = some (.int .i64 n) ∧ wx.cell? ⟨w.heap.size, 1, none⟩ = some (.slice (some ⟨ab, ao, none⟩) nn m.A.cap) ∧ wx.cell? ⟨w.heap.size, 2, none⟩ = some (.slice m.Q.ao n m.Q.cap) ∧ wx.cell? ⟨w.heap.size, 3, none⟩ = some (.int .i64 m.tick) ∧ wx.cell? ⟨w.heap.size, 4, none⟩ = some (.int .i64 m.gate) ∧ wx.cell? ⟨w.heap.size, 5, none⟩ = some (.int .i64 m.rmin) ∧ wx.cell? ⟨w.heap.size, 6, none⟩ = some (.slice m.ro m.rl m.rc)) := fun wx B => by
  have := B.cellsM
  rwa [eN, ea, hal, hql] at this
 have AA : Hid (∀ W, Calls Tryz.prog 41 #[.agg #[.int .i64 n, .slice (some ⟨ab, ao, none⟩) nn m.A.cap, .slice m.Q.ao n m.Q.cap, .int .i64 m.tick, .int .i64 m.gate, .int .i64 m.rmin, .slice m.ro m.rl m.rc]] W fun e w' => e = .returned (.agg #[.int .i64 n, .int .i64 n, .slice (some ⟨ab, ao, none⟩) nn m.A.cap]) ∧ Grown W w') := fun W => by
  have := refMoA m W
  unfold DV.cells at this
  rwa [eN, ea, hal, hql] at this
 have S0 : Hid (Grown w (w.alloc (.cells #[.int .i64 m.N, .slice m.A.ao m.A.len m.A.cap, .slice m.Q.ao m.Q.len m.Q.cap, .int .i64 m.tick, .int .i64 m.gate, .int .i64 m.rmin, .slice m.ro m.rl m.rc] 25)) ∧ Blk w.heap.size m.cells 25 (w.alloc (.cells #[.int .i64 m.N, .slice m.A.ao m.A.len m.A.cap, .slice m.Q.ao m.Q.len m.Q.cap, .int .i64 m.tick, .int .i64 m.gate, .int .i64 m.rmin, .slice m.ro m.rl m.rc] 25))) := ⟨(Grown.refl _).alloc _ _, Blk.new w _ _⟩
 have DG : Hid (∀ W, Grown w W → Calls Tryz.prog 96 #[.slice m.Q.ao n m.Q.cap] W fun e w' => DocB n n nn (diagZ Q n) 0 (Kp W) W e w') := fun W g => by
  have := refDiag_own n m.Q.cap m.Q.ao Q (by have := unhide HN; omega) W (by have := hm.2.1.1.grown g; rwa [hql, ← hQ] at this)
  rwa [hnn] at this
 have HU := hide h
 have HKK : Hid (2 * n - 2 = K ∧ K ≤ 10) := ⟨hK, by have := unhide HN; omega⟩
 obtain ⟨n2, hn2⟩ : ∃ x, 2 * n = x := ⟨_, rfl⟩
 obtain ⟨kk, hkk⟩ : ∃ x, n2 - 1 = x := ⟨_, rfl⟩
 have wa : wrap64 ((2 : Int) * (n : Int)) = (n2 : Int) := wrapP 2 n n2 hn2 (by have := unhide HN; omega)
 have wb : wrap64 ((n2 : Int) - 1) = (kk : Int) := by have := unhide HN; unfold wrap64; omega
 have kK : Hid (kk = K + 1) := by have := unhide HN; have := unhide HKK; show kk = K + 1; omega
 obtain ⟨y0, y1, y2, y3, y4, y5, y6⟩ := unhide CM _ (unhide S0).2
 clear hm hok oa h hn0 eN hnn hK hal hql ea hA hQ hn2 hkk
 unfold DV.cells
 go_enter Tryz.func46, Tryz.ntmps46
 go_wp2_with fail
 generalize (w.alloc (.cells #[.int .i64 m.N, .slice m.A.ao m.A.len m.A.cap, .slice m.Q.ao m.Q.len m.Q.cap, .int .i64 m.tick, .int .i64 m.gate, .int .i64 m.rmin, .slice m.ro m.rl m.rc] 25)) = w1 at *
 refine (unhide DG w1 (unhide S0).1).mono ?_
 rintro e w3 ⟨B, cp, rfl, hcp, hB, own, k3⟩
 have k4 : Kp w3 ((w3.alloc (.cells #[.int .i64 n, .int .i64 n, .slice (some ⟨B, 0, none⟩) nn cp] 38)).alloc (.cells #[.int .i64 n, .int .i64 n, .slice (some ⟨B, 0, none⟩) nn cp] 38)) := Kp.of (((Grown.refl _).alloc _ _).alloc _ _)
 have G0 : Hid (GTo w R n nn m.cells (gainZ A Q n) (gainC A Q n) c0 n0 1 (.slice (some ⟨w3.heap.size + 1, 0, none⟩) 1 1) ((w3.alloc (.cells #[.int .i64 n, .int .i64 n, .slice (some ⟨B, 0, none⟩) nn cp] 38)).alloc (.cells #[.int .i64 n, .int .i64 n, .slice (some ⟨B, 0, none⟩) nn cp] 38))) := by
  obtain ⟨g1, b1⟩ := unhide S0
  have kk : Kp w ((w3.alloc (.cells #[.int .i64 n, .int .i64 n, .slice (some ⟨B, 0, none⟩) nn cp] 38)).alloc (.cells #[.int .i64 n, .int .i64 n, .slice (some ⟨B, 0, none⟩) nn cp] 38)) := ((Kp.of g1).trans k3).trans k4
  refine ⟨[GTx n nn (gainZ A Q n) 0 B cp], rfl, ⟨mls_one _ (blk_new2 w3 _ _ _) (by have := k3.2.2.2; have := g1.2.2; omega), fun i x hx => ?_⟩, ⟨n0, by omega, by omega, ?_⟩, Mk.kp kk, Blk.kp (Blk.kp b1 k3) k4⟩
  ·rcases i with _ | i
   ·cases hx
    obtain ⟨cur, o1, o2⟩ := own
    exact ⟨B, cp, rfl, hcp, by have := Blk.lt b1; omega, cur, Blk.kp o1 k4, o2⟩
   ·cases hx
  ·show RC R (c0 || false) _ _
   rw [Bool.or_false]
   exact Blk.kp (unhide HU) kk
 clear hcp hB own k3 k4 S0 DG y0 y1 y2 y3 y4 y5 y6 HU
 go_wp2_with fail
 go_loopw [7, 8] (fun v i wr => ∃ (q e : Nat), e ≤ kk + 1 ∧ i = .int .i64 (e : Int) ∧ Hid (e = q + 2 ∧ GTo w R n nn m.cells (gainZ A Q n) (gainC A Q n) c0 n0 (q + 1) v wr)) (fun _ i _ => kk + 1 - (intOf i).toNat)
 case atStart => exact ⟨0, 2, by have := unhide kK; omega, rfl, rfl, G0⟩
 case round =>
  obtain ⟨q, e, he, rfl, HI⟩ := hrel
  clear G0
  have k11 : kk ≤ 11 := by have := unhide kK; have := unhide HKK; omega
  by_cases hlt : e ≤ kk
  ·obtain ⟨eq2, l, hl, hD, ⟨cnt, q1, q2, hu⟩, hmk, hab⟩ := unhide HI
   obtain ⟨g, cg, rfl, hcg, hge, hcell⟩ := hD.1.openL hl (by omega)
   obtain ⟨x, hx⟩ : ∃ x, l[q]? = some x := ⟨_, List.getElem?_eq_getElem (by omega)⟩
   obtain ⟨Bq, cq, rfl, hcq, hBq, hoq⟩ := hD.2 q x hx
   obtain ⟨m0, m1, m2⟩ := hcell q _ hx
   have lR := (unhide HH).2.2.1
   have q10 : q ≤ 10 := by omega
   have w2 : wrap64 ((e : Int) - 2) = (q : Int) := by unfold wrap64; omega
   have w2i : IntKind.i64.wrap ((e : Int) - 2) = (q : Int) := by rw [IntKind.wrap_i64]; omega
   have MU : Hid (∀ wx, Mk R wr wx → RC R (c0 || (gainC A Q n) q) cnt wx → Calls Tryz.prog 97 #[.pointer (some ⟨R, 0, none⟩), .agg #[.int .i64 n, .int .i64 n, .slice (some ⟨ab, ao, none⟩) nn m.A.cap], .agg #[.int .i64 n, .int .i64 n, .slice (some ⟨Bq, 0, none⟩) nn cq]] wx fun e w' => DocB n n nn (mulZ A ((gainZ A Q n) q) n n) 0 (fun w' => RC R (c0 || (gainC A Q n) q || orC (mulG A ((gainZ A Q n) q) n n) nn) (cnt + 2 * (n : Int) * (nn : Int)) w' ∧ Mk R wx w') wx e w') := fun wx kx ux => by
    have hN := unhide HN
    have := refMul_own R (c0 || (gainC A Q n) q) cnt (by have := unhide HH; omega) n n n nn m.A.cap nn cq ab ao Bq 0 A ((gainZ A Q n) q) ⟨hN.1.1, by omega⟩ ⟨hN.1.1, by omega⟩ ⟨hN.1.1, by omega⟩ (unhide HNN).symm (unhide HNN).symm (unhide HCP) (unhide IA) (fun p hp => gainZ_I64 A Q n (unhide IQ) q p (by rw [unhide HNN]; exact hp)) wx ux (unhide ZA wx (hmk.trans kx)) (fun i hi => by rw [Nat.zero_add]; exact (hoq.mk kx (by omega)).cellAt i hi) (unhide HH).2.2.2 (by omega)
    rw [unhide HNN] at this
    exact this
   have HBM : Hid (Blk w.heap.size m.cells 25 wr) := hab
   have c0' : wr.cell? ⟨g, q * 3, none⟩ = some (.int .i64 n) := m0
   have c1' : wr.cell? ⟨g, q * 3 + 1, none⟩ = some (.int .i64 n) := m1
   have c2' : wr.cell? ⟨g, q * 3 + 2, none⟩ = some (.slice (some ⟨Bq, 0, none⟩) nn cq) := m2
   have HC := hide (And.intro c0' (And.intro c1' c2'))
   have NE : Hid (w.heap.size ≠ R ∧ g ≠ R ∧ R < wr.heap.size ∧ w.heap.size < wr.heap.size) := ⟨by omega, by omega, Nat.lt_of_lt_of_le lR hmk.2.2.2, Blk.lt hab⟩
   have S1 := hide (And.intro hl (And.intro hD (And.intro q1 (And.intro q2 (And.intro hmk hab)))))
   have HU : Hid (RC R (c0 || (gainC A Q n) q) cnt wr) := hu
   have E2 := hide eq2
   have j0 : (0 : Int) ≤ (q : Int) := Int.natCast_nonneg _
   have j1 : (q : Int) < ((q + 1 : Nat) : Int) := by omega
   have j3 : q < q + 1 := Nat.lt_succ_self q
   obtain ⟨y0, y1, y2, y3, y4, y5, y6⟩ := unhide CM _ hab
   clear hl hD q1 q2 hu hmk hab HI hcg hge hcell hx hcq hBq hoq m0 m1 m2 c0' c1' c2' lR eq2 he
   go_upto_region 6 with fail
   clear y0 y1 y2 y3 y4 y5 y6 wa wb

   go_cut [9, 10] (fun s9 s10 wx => s10 = .int .i64 0 ∧ ∃ Xb Bx cx, s9 = .pointer (some ⟨Xb, 0, none⟩) ∧ Hid (GX R n nn wr (mulZ A ((gainZ A Q n) q) n n) (c0 || (gainC A Q n) q || orC (mulG A ((gainZ A Q n) q) n n) nn) (cnt + 2 * (n : Int) * (nn : Int)) Xb Bx cx wx))
   case first =>
    refine region_G (fun w' => Mk R wr w') 14 (by kernel_rfl) (show Mk R wr wr from Mk.of (Mod.refl _ _)) (fun hHeld => ?_)
    refine take_G (i := 0) (d := 33) (v := .pointer (some ⟨R, 0, none⟩)) rfl rfl (by kernel_rfl) (by kernel_rfl) (by kernel_rfl) (by kernel_rfl) (by kernel_rfl) (Or.inl ⟨by rfl, ?_⟩) hHeld ?_
    ·intro wS hSw
     clear hSw hHeld
     go_simp
     (try (intro hz; omega))
    (try simp only [Act.put, List.setIfInBounds_toArray, List.set_cons_zero, List.set_cons_succ])
    refine take_G (i := 1) (d := 34) (v := .agg #[.int .i64 n, .slice (some ⟨ab, ao, none⟩) nn m.A.cap, .slice m.Q.ao n m.Q.cap, .int .i64 m.tick, .int .i64 m.gate, .int .i64 m.rmin, .slice m.ro m.rl m.rc]) rfl rfl (by kernel_rfl) (by kernel_rfl) (by kernel_rfl) (by kernel_rfl) (by kernel_rfl) (Or.inl ⟨by rfl, ?_⟩) hHeld ?_
    ·intro wS hSw
     obtain ⟨y0, y1, y2, y3, y4, y5, y6⟩ := unhide CM wS (Blk.mk (unhide HBM) hSw (unhide NE).1)
     clear hSw hHeld
     go_simp
     (try (intro hz; omega))
    (try simp only [Act.put, List.setIfInBounds_toArray, List.set_cons_zero, List.set_cons_succ])
    refine take_G (i := 3) (d := 36) (v := .slice (some ⟨g, 0, none⟩) (q + 1) cg) rfl rfl (by kernel_rfl) (by kernel_rfl) (by kernel_rfl) (by kernel_rfl) (by kernel_rfl) (Or.inl ⟨by rfl, ?_⟩) hHeld ?_
    ·intro wS hSw
     clear hSw hHeld
     go_simp
     (try (intro hz; omega))
    (try simp only [Act.put, List.setIfInBounds_toArray, List.set_cons_zero, List.set_cons_succ])
    refine take_G (i := 4) (d := 37) (v := .int .i64 (e : Int)) rfl rfl (by kernel_rfl) (by kernel_rfl) (by kernel_rfl) (by kernel_rfl) (by kernel_rfl) (Or.inl ⟨by rfl, ?_⟩) hHeld ?_
    ·intro wS hSw
     clear hSw hHeld
     go_simp
     (try (intro hz; omega))
    (try simp only [Act.put, List.setIfInBounds_toArray, List.set_cons_zero, List.set_cons_succ])
    refine take_G (i := 5) (d := 38) (v := .int .i64 (q : Int)) rfl rfl (by kernel_rfl) (by kernel_rfl) (by kernel_rfl) (by kernel_rfl) (by kernel_rfl) (Or.inl ⟨by rfl, ?_⟩) hHeld ?_
    ·intro wS hSw
     clear hSw hHeld
     go_simp
     (try (intro hz; omega))
    (try simp only [Act.put, List.setIfInBounds_toArray, List.set_cons_zero, List.set_cons_succ])
    refine take_G (i := 6) (d := 39) (v := .pointer (some ⟨g, q * 3, none⟩)) rfl rfl (by kernel_rfl) (by kernel_rfl) (by kernel_rfl) (by kernel_rfl) (by kernel_rfl) (Or.inl ⟨by rfl, ?_⟩) hHeld ?_
    ·intro wS hSw
     have j4 : ¬ ((q : Int) + 1 ≤ (q : Int)) := by omega
     clear hSw hHeld
     go_simp
     (try (intro hz; omega))
    (try simp only [Act.put, List.setIfInBounds_toArray, List.set_cons_zero, List.set_cons_succ])
    refine take_G (i := 7) (d := 40) (v := .agg #[.int .i64 n, .int .i64 n, .slice (some ⟨Bq, 0, none⟩) nn cq]) rfl rfl (by kernel_rfl) (by kernel_rfl) (by kernel_rfl) (by kernel_rfl) (by kernel_rfl) (Or.inl ⟨by rfl, ?_⟩) hHeld ?_
    ·intro wS hSw
     have z0 := hSw.cell (unhide HC).1 (unhide NE).2.1
     have z1 := hSw.cell (unhide HC).2.1 (unhide NE).2.1
     have z2 := hSw.cell (unhide HC).2.2 (unhide NE).2.1
     clear hSw hHeld
     go_simp
     (try (intro hz; omega))
    (try simp only [Act.put, List.setIfInBounds_toArray, List.set_cons_zero, List.set_cons_succ])
    have HS0 : Hid (Mk R wr wr.drew) := hHeld
    refine two_G (i := 2) (j := 12) (by kernel_rfl) (fun K hK => ?_) (fun K hK => ?_)
    ·skip
     refine wpOp_of rfl rfl ?_
     unfold Oper.wp
     go_simp
     refine (unhide AA _).mono ?_
     rintro e' w11 ⟨rfl, ga⟩
     have HSw11 : Hid (Mk R wr w11) := (unhide HS0).grown ga
     have HUw11 : Hid (RC R (c0 || (gainC A Q n) q) cnt w11) := Blk.grown (unhide HU) ga
     clear ga
     refine hK _ _ (fun _ => unhide HSw11) ?_
     clear hK K
     (try simp only [Act.put, List.setIfInBounds_toArray, List.set_cons_zero, List.set_cons_succ])
     have hHeld := unhide HSw11
     refine two_G (i := 8) (j := 12) (by kernel_rfl) (fun K hK => ?_) (fun K hK => ?_)
     ·skip
      refine wpOp_of rfl rfl ?_
      unfold Oper.wp
      go_simp
      refine (unhide MU _ (unhide HSw11) (unhide HUw11)).mono ?_
      rintro e' w12 ⟨Bx, cx, rfl, hcx, hBx, hox, hux, hmx⟩
      have HSw12 : Hid (Mk R wr w12) := (unhide HSw11).trans hmx
      have HUw12 : Hid (RC R (c0 || (gainC A Q n) q || orC (mulG A ((gainZ A Q n) q) n n) nn) (cnt + 2 * (n : Int) * (nn : Int)) w12) := hux
      have HOw12 : Hid (Own Bx nn (mulZ A ((gainZ A Q n) q) n n) w12) := hox
      have HBX : Hid (nn ≤ cx ∧ wr.heap.size ≤ Bx) := ⟨hcx, Nat.le_trans (unhide HSw11).2.2.2 hBx⟩
      clear hcx hBx hox hux hmx
      refine hK _ _ (fun _ => unhide HSw12) ?_
      clear hK K
      (try simp only [Act.put, List.setIfInBounds_toArray, List.set_cons_zero, List.set_cons_succ])
      have hHeld := unhide HSw12
      refine take_G (i := 9) (d := 32) (v := .tuple #[.agg #[.int .i64 n, .int .i64 n, .slice (some ⟨Bx, 0, none⟩) nn cx], .int .i64 0]) rfl rfl (by kernel_rfl) (by kernel_rfl) (by kernel_rfl) (by kernel_rfl) (by kernel_rfl) (Or.inl ⟨by rfl, ?_⟩) hHeld ?_
      ·intro wS hSw
       clear hSw hHeld
       go_simp
       (try (intro hz; omega))
      (try simp only [Act.put, List.setIfInBounds_toArray, List.set_cons_zero, List.set_cons_succ])
      refine take_G (i := 10) (d := 42) (v := .agg #[.int .i64 n, .int .i64 n, .slice (some ⟨Bx, 0, none⟩) nn cx]) rfl rfl (by kernel_rfl) (by kernel_rfl) (by kernel_rfl) (by kernel_rfl) (by kernel_rfl) (Or.inl ⟨by rfl, ?_⟩) hHeld ?_
      ·intro wS hSw
       clear hSw hHeld
       go_simp
       (try (intro hz; omega))
      (try simp only [Act.put, List.setIfInBounds_toArray, List.set_cons_zero, List.set_cons_succ])
      refine take_G (i := 11) (d := 43) (v := .int .i64 0) rfl rfl (by kernel_rfl) (by kernel_rfl) (by kernel_rfl) (by kernel_rfl) (by kernel_rfl) (Or.inl ⟨by rfl, ?_⟩) hHeld ?_
      ·intro wS hSw
       clear hSw hHeld
       go_simp
       (try (intro hz; omega))
      (try simp only [Act.put, List.setIfInBounds_toArray, List.set_cons_zero, List.set_cons_succ])
      refine step_G (i := 12) (by kernel_rfl) (fun K hK => ?_)
      refine wpOp_of rfl rfl ?_
      unfold Oper.wp
      go_simp
      have ga : Grown w12 (w12.alloc (.cells #[.int .i64 0, .int .i64 0, .slice none 0 0] 38)) := (Grown.refl _).alloc _ _
      have HSw13 : Hid (Mk R wr (w12.alloc (.cells #[.int .i64 0, .int .i64 0, .slice none 0 0] 38))) := (unhide HSw12).grown ga
      have ZBw13 : Hid (Blk w12.heap.size #[.int .i64 0, .int .i64 0, .slice none 0 0] 38 (w12.alloc (.cells #[.int .i64 0, .int .i64 0, .slice none 0 0] 38))) := (show Blk w12.heap.size #[.int .i64 0, .int .i64 0, .slice none 0 0] 38 (w12.alloc (.cells #[.int .i64 0, .int .i64 0, .slice none 0 0] 38)) from Blk.new _ _ _)
      have Xbw13l : Hid (wr.heap.size ≤ w12.heap.size) := (unhide HSw12).2.2.2
      have HUw13 : Hid (RC R (c0 || (gainC A Q n) q || orC (mulG A ((gainZ A Q n) q) n n) nn) (cnt + 2 * (n : Int) * (nn : Int)) (w12.alloc (.cells #[.int .i64 0, .int .i64 0, .slice none 0 0] 38))) := Blk.grown (unhide HUw12) ga
      have HOw13 : Hid (Own Bx nn (mulZ A ((gainZ A Q n) q) n n) (w12.alloc (.cells #[.int .i64 0, .int .i64 0, .slice none 0 0] 38))) := Own.kpA (unhide HOw12) (Kp.of ga)
      clear ga
      generalize (w12.alloc (.cells #[.int .i64 0, .int .i64 0, .slice none 0 0] 38)) = w13 at *
      generalize w12.heap.size = Xbw13 at *
      refine hK _ _ (fun _ => unhide HSw13) ?_
      clear hK K
      (try simp only [Act.put, List.setIfInBounds_toArray, List.set_cons_zero, List.set_cons_succ])
      have hHeld := unhide HSw13
      have z0 : w13.cell? ⟨Xbw13, 0, none⟩ = some (.int .i64 0) := Blk.cell (unhide ZBw13) 0
      have z1 : w13.cell? ⟨Xbw13, 1, none⟩ = some (.int .i64 0) := Blk.cell (unhide ZBw13) 1
      have z2 : w13.cell? ⟨Xbw13, 2, none⟩ = some (.slice none 0 0) := Blk.cell (unhide ZBw13) 2
      have zf := Blk.free (unhide ZBw13)
      have GG := hide (GX.mk (n := n) (unhide HSw13) (unhide HUw13) (unhide HOw13) (unhide HBX).1 (unhide ZBw13) (unhide HBX).2 (unhide Xbw13l) (unhide NE).2.2.1)
      refine step_G (i := 13) (by kernel_rfl) (fun K hK => ?_)
      refine wpOp_of rfl rfl ?_
      unfold Oper.wp
      go_simp
      clear z0 z1 z2 zf
      generalize (((w13.setCell ⟨Xbw13, 0, none⟩ (.int .i64 n)).setCell ⟨Xbw13, 1, none⟩ (.int .i64 n)).setCell ⟨Xbw13, 2, none⟩ (.slice (some ⟨Bx, 0, none⟩) nn cx)) = wZ at *
      refine hK _ _ (fun _ => (unhide GG).1) ?_
      clear hK K hHeld
      (try simp only [Act.put, List.setIfInBounds_toArray, List.set_cons_zero, List.set_cons_succ])
      refine step_G (i := 14) (by kernel_rfl) (fun K hK => ?_)
      refine wpOp_of rfl rfl ?_
      unfold Oper.wp
      go_simp
      refine hK _ _ (fun h => absurd rfl h) ?_
      clear hK K
      (try simp only [Act.put, List.setIfInBounds_toArray, List.set_cons_zero, List.set_cons_succ])
      refine done_G (by kernel_rfl) ?_
      refine noPanic_normalE ?_
      go_wp2_with fail
      go_meet
      exact ⟨rfl, Xbw13, Bx, cx, rfl, GG⟩
     ·skip
      refine wpOp_of rfl rfl ?_
      unfold Oper.wp
      go_simp
      have ga : Grown w11 (w11.alloc (.cells #[.int .i64 0, .int .i64 0, .slice none 0 0] 38)) := (Grown.refl _).alloc _ _
      have HSw14 : Hid (Mk R wr (w11.alloc (.cells #[.int .i64 0, .int .i64 0, .slice none 0 0] 38))) := (unhide HSw11).grown ga
      have ZBw14 : Hid (Blk w11.heap.size #[.int .i64 0, .int .i64 0, .slice none 0 0] 38 (w11.alloc (.cells #[.int .i64 0, .int .i64 0, .slice none 0 0] 38))) := (show Blk w11.heap.size #[.int .i64 0, .int .i64 0, .slice none 0 0] 38 (w11.alloc (.cells #[.int .i64 0, .int .i64 0, .slice none 0 0] 38)) from Blk.new _ _ _)
      have Xbw14l : Hid (wr.heap.size ≤ w11.heap.size) := (unhide HSw11).2.2.2
      have HUw14 : Hid (RC R (c0 || (gainC A Q n) q) cnt (w11.alloc (.cells #[.int .i64 0, .int .i64 0, .slice none 0 0] 38))) := Blk.grown (unhide HUw11) ga
      clear ga
      generalize (w11.alloc (.cells #[.int .i64 0, .int .i64 0, .slice none 0 0] 38)) = w14 at *
      generalize w11.heap.size = Xbw14 at *
      refine hK _ _ (fun _ => unhide HSw14) ?_
      clear hK K
      (try simp only [Act.put, List.setIfInBounds_toArray, List.set_cons_zero, List.set_cons_succ])
      have hHeld := unhide HSw14
      refine step_G (i := 8) (by kernel_rfl) (fun K hK => ?_)
      refine wpOp_of rfl rfl ?_
      unfold Oper.wp
      go_simp
      refine (unhide MU _ (unhide HSw14) (unhide HUw14)).mono ?_
      rintro e' w15 ⟨Bx, cx, rfl, hcx, hBx, hox, hux, hmx⟩
      have HSw15 : Hid (Mk R wr w15) := (unhide HSw14).trans hmx
      have HUw15 : Hid (RC R (c0 || (gainC A Q n) q || orC (mulG A ((gainZ A Q n) q) n n) nn) (cnt + 2 * (n : Int) * (nn : Int)) w15) := hux
      have HOw15 : Hid (Own Bx nn (mulZ A ((gainZ A Q n) q) n n) w15) := hox
      have HBX : Hid (nn ≤ cx ∧ wr.heap.size ≤ Bx) := ⟨hcx, Nat.le_trans (unhide HSw14).2.2.2 hBx⟩
      have ZBw14w15 : Hid (Blk Xbw14 #[.int .i64 0, .int .i64 0, .slice none 0 0] 38 w15) := Blk.mk (unhide ZBw14) hmx (by have := unhide Xbw14l; have := (unhide NE).2.2.1; omega)
      clear hcx hBx hox hux hmx
      refine hK _ _ (fun _ => unhide HSw15) ?_
      clear hK K
      (try simp only [Act.put, List.setIfInBounds_toArray, List.set_cons_zero, List.set_cons_succ])
      have hHeld := unhide HSw15
      refine take_G (i := 9) (d := 32) (v := .tuple #[.agg #[.int .i64 n, .int .i64 n, .slice (some ⟨Bx, 0, none⟩) nn cx], .int .i64 0]) rfl rfl (by kernel_rfl) (by kernel_rfl) (by kernel_rfl) (by kernel_rfl) (by kernel_rfl) (Or.inl ⟨by rfl, ?_⟩) hHeld ?_
      ·intro wS hSw
       clear hSw hHeld
       go_simp
       (try (intro hz; omega))
      (try simp only [Act.put, List.setIfInBounds_toArray, List.set_cons_zero, List.set_cons_succ])
      refine take_G (i := 10) (d := 42) (v := .agg #[.int .i64 n, .int .i64 n, .slice (some ⟨Bx, 0, none⟩) nn cx]) rfl rfl (by kernel_rfl) (by kernel_rfl) (by kernel_rfl) (by kernel_rfl) (by kernel_rfl) (Or.inl ⟨by rfl, ?_⟩) hHeld ?_
      ·intro wS hSw
       clear hSw hHeld
       go_simp
       (try (intro hz; omega))
      (try simp only [Act.put, List.setIfInBounds_toArray, List.set_cons_zero, List.set_cons_succ])
      refine take_G (i := 11) (d := 43) (v := .int .i64 0) rfl rfl (by kernel_rfl) (by kernel_rfl) (by kernel_rfl) (by kernel_rfl) (by kernel_rfl) (Or.inl ⟨by rfl, ?_⟩) hHeld ?_
      ·intro wS hSw
       clear hSw hHeld
       go_simp
       (try (intro hz; omega))
      (try simp only [Act.put, List.setIfInBounds_toArray, List.set_cons_zero, List.set_cons_succ])
      have z0 : w15.cell? ⟨Xbw14, 0, none⟩ = some (.int .i64 0) := Blk.cell (unhide ZBw14w15) 0
      have z1 : w15.cell? ⟨Xbw14, 1, none⟩ = some (.int .i64 0) := Blk.cell (unhide ZBw14w15) 1
      have z2 : w15.cell? ⟨Xbw14, 2, none⟩ = some (.slice none 0 0) := Blk.cell (unhide ZBw14w15) 2
      have zf := Blk.free (unhide ZBw14w15)
      have GG := hide (GX.mk (n := n) (unhide HSw15) (unhide HUw15) (unhide HOw15) (unhide HBX).1 (unhide ZBw14w15) (unhide HBX).2 (unhide Xbw14l) (unhide NE).2.2.1)
      refine step_G (i := 13) (by kernel_rfl) (fun K hK => ?_)
      refine wpOp_of rfl rfl ?_
      unfold Oper.wp
      go_simp
      clear z0 z1 z2 zf
      generalize (((w15.setCell ⟨Xbw14, 0, none⟩ (.int .i64 n)).setCell ⟨Xbw14, 1, none⟩ (.int .i64 n)).setCell ⟨Xbw14, 2, none⟩ (.slice (some ⟨Bx, 0, none⟩) nn cx)) = wZ at *
      refine hK _ _ (fun _ => (unhide GG).1) ?_
      clear hK K hHeld
      (try simp only [Act.put, List.setIfInBounds_toArray, List.set_cons_zero, List.set_cons_succ])
      refine step_G (i := 14) (by kernel_rfl) (fun K hK => ?_)
      refine wpOp_of rfl rfl ?_
      unfold Oper.wp
      go_simp
      refine hK _ _ (fun h => absurd rfl h) ?_
      clear hK K
      (try simp only [Act.put, List.setIfInBounds_toArray, List.set_cons_zero, List.set_cons_succ])
      refine done_G (by kernel_rfl) ?_
      refine noPanic_normalE ?_
      go_wp2_with fail
      go_meet
      exact ⟨rfl, Xbw14, Bx, cx, rfl, GG⟩
    ·skip
     refine wpOp_of rfl rfl ?_
     unfold Oper.wp
     go_simp
     have ga : Grown wr.drew (wr.alloc (.cells #[.int .i64 0, .int .i64 0, .slice none 0 0] 38)).drew := (show Grown wr.drew (wr.drew.alloc (.cells #[.int .i64 0, .int .i64 0, .slice none 0 0] 38)) from (Grown.refl _).alloc _ _)
     have HSw16 : Hid (Mk R wr (wr.alloc (.cells #[.int .i64 0, .int .i64 0, .slice none 0 0] 38)).drew) := (unhide HS0).grown ga
     have ZBw16 : Hid (Blk wr.heap.size #[.int .i64 0, .int .i64 0, .slice none 0 0] 38 (wr.alloc (.cells #[.int .i64 0, .int .i64 0, .slice none 0 0] 38)).drew) := (show Blk wr.drew.heap.size #[.int .i64 0, .int .i64 0, .slice none 0 0] 38 (wr.drew.alloc (.cells #[.int .i64 0, .int .i64 0, .slice none 0 0] 38)) from Blk.new _ _ _)
     have HUw16 : Hid (RC R (c0 || (gainC A Q n) q) cnt (wr.alloc (.cells #[.int .i64 0, .int .i64 0, .slice none 0 0] 38)).drew) := Blk.grown (unhide HU) ga
     have Xbw16l : Hid (wr.heap.size ≤ wr.heap.size) := Nat.le_refl _
     clear ga
     generalize (wr.alloc (.cells #[.int .i64 0, .int .i64 0, .slice none 0 0] 38)).drew = w16 at *
     refine hK _ _ (fun _ => unhide HSw16) ?_
     clear hK K
     (try simp only [Act.put, List.setIfInBounds_toArray, List.set_cons_zero, List.set_cons_succ])
     have hHeld := unhide HSw16
     refine step_G (i := 2) (by kernel_rfl) (fun K hK => ?_)
     refine wpOp_of rfl rfl ?_
     unfold Oper.wp
     go_simp
     refine (unhide AA _).mono ?_
     rintro e' w17 ⟨rfl, ga⟩
     have HSw17 : Hid (Mk R wr w17) := (unhide HSw16).grown ga
     have HUw17 : Hid (RC R (c0 || (gainC A Q n) q) cnt w17) := Blk.grown (unhide HUw16) ga
     have ZBw16w17 : Hid (Blk wr.heap.size #[.int .i64 0, .int .i64 0, .slice none 0 0] 38 w17) := Blk.grown (unhide ZBw16) ga
     clear ga
     refine hK _ _ (fun _ => unhide HSw17) ?_
     clear hK K
     (try simp only [Act.put, List.setIfInBounds_toArray, List.set_cons_zero, List.set_cons_succ])
     have hHeld := unhide HSw17
     refine step_G (i := 8) (by kernel_rfl) (fun K hK => ?_)
     refine wpOp_of rfl rfl ?_
     unfold Oper.wp
     go_simp
     refine (unhide MU _ (unhide HSw17) (unhide HUw17)).mono ?_
     rintro e' w18 ⟨Bx, cx, rfl, hcx, hBx, hox, hux, hmx⟩
     have HSw18 : Hid (Mk R wr w18) := (unhide HSw17).trans hmx
     have HUw18 : Hid (RC R (c0 || (gainC A Q n) q || orC (mulG A ((gainZ A Q n) q) n n) nn) (cnt + 2 * (n : Int) * (nn : Int)) w18) := hux
     have HOw18 : Hid (Own Bx nn (mulZ A ((gainZ A Q n) q) n n) w18) := hox
     have HBX : Hid (nn ≤ cx ∧ wr.heap.size ≤ Bx) := ⟨hcx, Nat.le_trans (unhide HSw17).2.2.2 hBx⟩
     have ZBw16w17w18 : Hid (Blk wr.heap.size #[.int .i64 0, .int .i64 0, .slice none 0 0] 38 w18) := Blk.mk (unhide ZBw16w17) hmx (by have := unhide Xbw16l; have := (unhide NE).2.2.1; omega)
     clear hcx hBx hox hux hmx
     refine hK _ _ (fun _ => unhide HSw18) ?_
     clear hK K
     (try simp only [Act.put, List.setIfInBounds_toArray, List.set_cons_zero, List.set_cons_succ])
     have hHeld := unhide HSw18
     refine take_G (i := 9) (d := 32) (v := .tuple #[.agg #[.int .i64 n, .int .i64 n, .slice (some ⟨Bx, 0, none⟩) nn cx], .int .i64 0]) rfl rfl (by kernel_rfl) (by kernel_rfl) (by kernel_rfl) (by kernel_rfl) (by kernel_rfl) (Or.inl ⟨by rfl, ?_⟩) hHeld ?_
     ·intro wS hSw
      clear hSw hHeld
      go_simp
      (try (intro hz; omega))
     (try simp only [Act.put, List.setIfInBounds_toArray, List.set_cons_zero, List.set_cons_succ])
     refine take_G (i := 10) (d := 42) (v := .agg #[.int .i64 n, .int .i64 n, .slice (some ⟨Bx, 0, none⟩) nn cx]) rfl rfl (by kernel_rfl) (by kernel_rfl) (by kernel_rfl) (by kernel_rfl) (by kernel_rfl) (Or.inl ⟨by rfl, ?_⟩) hHeld ?_
     ·intro wS hSw
      clear hSw hHeld
      go_simp
      (try (intro hz; omega))
     (try simp only [Act.put, List.setIfInBounds_toArray, List.set_cons_zero, List.set_cons_succ])
     refine take_G (i := 11) (d := 43) (v := .int .i64 0) rfl rfl (by kernel_rfl) (by kernel_rfl) (by kernel_rfl) (by kernel_rfl) (by kernel_rfl) (Or.inl ⟨by rfl, ?_⟩) hHeld ?_
     ·intro wS hSw
      clear hSw hHeld
      go_simp
      (try (intro hz; omega))
     (try simp only [Act.put, List.setIfInBounds_toArray, List.set_cons_zero, List.set_cons_succ])
     have z0 : w18.cell? ⟨wr.heap.size, 0, none⟩ = some (.int .i64 0) := Blk.cell (unhide ZBw16w17w18) 0
     have z1 : w18.cell? ⟨wr.heap.size, 1, none⟩ = some (.int .i64 0) := Blk.cell (unhide ZBw16w17w18) 1
     have z2 : w18.cell? ⟨wr.heap.size, 2, none⟩ = some (.slice none 0 0) := Blk.cell (unhide ZBw16w17w18) 2
     have zf := Blk.free (unhide ZBw16w17w18)
     have GG := hide (GX.mk (n := n) (unhide HSw18) (unhide HUw18) (unhide HOw18) (unhide HBX).1 (unhide ZBw16w17w18) (unhide HBX).2 (unhide Xbw16l) (unhide NE).2.2.1)
     refine step_G (i := 13) (by kernel_rfl) (fun K hK => ?_)
     refine wpOp_of rfl rfl ?_
     unfold Oper.wp
     go_simp
     clear z0 z1 z2 zf
     generalize (((w18.setCell ⟨wr.heap.size, 0, none⟩ (.int .i64 n)).setCell ⟨wr.heap.size, 1, none⟩ (.int .i64 n)).setCell ⟨wr.heap.size, 2, none⟩ (.slice (some ⟨Bx, 0, none⟩) nn cx)) = wZ at *
     refine hK _ _ (fun _ => (unhide GG).1) ?_
     clear hK K hHeld
     (try simp only [Act.put, List.setIfInBounds_toArray, List.set_cons_zero, List.set_cons_succ])
     refine step_G (i := 14) (by kernel_rfl) (fun K hK => ?_)
     refine wpOp_of rfl rfl ?_
     unfold Oper.wp
     go_simp
     refine hK _ _ (fun h => absurd rfl h) ?_
     clear hK K
     (try simp only [Act.put, List.setIfInBounds_toArray, List.set_cons_zero, List.set_cons_succ])
     refine done_G (by kernel_rfl) ?_
     refine noPanic_normalE ?_
     go_wp2_with fail
     go_meet
     exact ⟨rfl, wr.heap.size, Bx, cx, rfl, GG⟩
   case rest =>
    obtain ⟨rfl, Xb, Bx, cx, rfl, HD⟩ := hcut
    clear MU HU
    obtain ⟨x0, x1, x2⟩ : wc.cell? ⟨Xb, 0, none⟩ = some (.int .i64 n) ∧ wc.cell? ⟨Xb, 1, none⟩ = some (.int .i64 n) ∧ wc.cell? ⟨Xb, 2, none⟩ = some (.slice (some ⟨Bx, 0, none⟩) nn cx) := ⟨Blk.cell (unhide HD).2.2.2.2.1 0, Blk.cell (unhide HD).2.2.2.2.1 1, Blk.cell (unhide HD).2.2.2.2.1 2⟩
    have TU : Hid (Calls Tryz.prog 98 #[.agg #[.int .i64 n, .int .i64 n, .slice (some ⟨Bx, 0, none⟩) nn cx]] wc fun e w' => DocP n n nn (turnZ (mulZ A ((gainZ A Q n) q) n n) n n) 0 (Kp wc) wc e w') := by
     have hN := unhide HN
     have := refTurn_ok n n nn cx Bx 0 (mulZ A ((gainZ A Q n) q) n n) ⟨hN.1.1, by omega⟩ ⟨hN.1.1, by omega⟩ (unhide HNN).symm wc (fun i hi => by rw [Nat.zero_add]; exact (unhide HD).2.2.1.cellAt i hi)
     rwa [unhide HNN] at this
    go_wp2_with fail
    refine (unhide TU).mono ?_
    rintro e' w5 ⟨ta, tp, rfl, htp, trow, toff, k5⟩
    clear TU x0 x1 x2
    have g6 : Grown w5 (w5.alloc (.cells #[.int .i64 n, .int .i64 n, .slice ta nn tp] 38)) := (Grown.refl _).alloc _ _
    have HD6 : Hid (GX R n nn wr (mulZ A ((gainZ A Q n) q) n n) (c0 || (gainC A Q n) q || orC (mulG A ((gainZ A Q n) q) n n) nn) (cnt + 2 * (n : Int) * (nn : Int)) Xb Bx cx (w5.alloc (.cells #[.int .i64 n, .int .i64 n, .slice ta nn tp] 38)) ∧ Row (w5.alloc (.cells #[.int .i64 n, .int .i64 n, .slice ta nn tp] 38)) ta nn (turnZ (mulZ A ((gainZ A Q n) q) n n) n n) ∧ Off R nn ta) := by
     obtain ⟨a1, a2, a3, a4, a5, a6, a7⟩ := unhide HD
     exact ⟨⟨(a1.trans (Mk.kp k5)).grown g6, Blk.grown (Blk.kp a2 k5) g6, Own.kpA (Own.kpA a3 k5) (Kp.of g6), a4, Blk.grown (Blk.kp a5 k5) g6, a6, a7⟩, trow.grown g6, toff R (Nat.lt_of_lt_of_le (unhide NE).2.2.1 a1.2.2.2)⟩
    obtain ⟨x0, x1, x2⟩ : (w5.alloc (.cells #[.int .i64 n, .int .i64 n, .slice ta nn tp] 38)).cell? ⟨Xb, 0, none⟩ = some (.int .i64 n) ∧ (w5.alloc (.cells #[.int .i64 n, .int .i64 n, .slice ta nn tp] 38)).cell? ⟨Xb, 1, none⟩ = some (.int .i64 n) ∧ (w5.alloc (.cells #[.int .i64 n, .int .i64 n, .slice ta nn tp] 38)).cell? ⟨Xb, 2, none⟩ = some (.slice (some ⟨Bx, 0, none⟩) nn cx) := ⟨Blk.cell (unhide HD6).1.2.2.2.2.1 0, Blk.cell (unhide HD6).1.2.2.2.2.1 1, Blk.cell (unhide HD6).1.2.2.2.2.1 2⟩
    have tb : Blk w5.heap.size #[.int .i64 n, .int .i64 n, .slice ta nn tp] 38 (w5.alloc (.cells #[.int .i64 n, .int .i64 n, .slice ta nn tp] 38)) := Blk.new _ _ _
    have t0 : (w5.alloc (.cells #[.int .i64 n, .int .i64 n, .slice ta nn tp] 38)).cell? ⟨w5.heap.size, 0, none⟩ = some (.int .i64 n) := Blk.cell tb 0
    have t1 : (w5.alloc (.cells #[.int .i64 n, .int .i64 n, .slice ta nn tp] 38)).cell? ⟨w5.heap.size, 1, none⟩ = some (.int .i64 n) := Blk.cell tb 1
    have t2 : (w5.alloc (.cells #[.int .i64 n, .int .i64 n, .slice ta nn tp] 38)).cell? ⟨w5.heap.size, 2, none⟩ = some (.slice ta nn tp) := Blk.cell tb 2
    have SU : Hid (Calls Tryz.prog 95 #[.pointer (some ⟨R, 0, none⟩), .agg #[.int .i64 n, .int .i64 n, .slice (some ⟨Bx, 0, none⟩) nn cx], .agg #[.int .i64 n, .int .i64 n, .slice ta nn tp]] (w5.alloc (.cells #[.int .i64 n, .int .i64 n, .slice ta nn tp] 38)) fun e w' => DocB n n nn (evZ (mulZ A ((gainZ A Q n) q) n n) n) 0 (fun w' => RC R ((c0 || (gainC A Q n) q || orC (mulG A ((gainZ A Q n) q) n n) nn) || orC (evG (mulZ A ((gainZ A Q n) q) n n) n) nn) (cnt + 2 * (n : Int) * (nn : Int) + 2 * nn) w' ∧ Mk R (w5.alloc (.cells #[.int .i64 n, .int .i64 n, .slice ta nn tp] 38)) w') (w5.alloc (.cells #[.int .i64 n, .int .i64 n, .slice ta nn tp] 38)) e w') := by
     have hN := unhide HN
     have kb : (n : Int) * (nn : Int) ≤ 6 * 36 := Int.mul_le_mul (by omega) (by omega) (by omega) (by omega)
     have kb0 : 0 ≤ (n : Int) * (nn : Int) := Int.mul_nonneg (by omega) (by omega)
     have kq : 2 * (n : Int) * (nn : Int) = 2 * ((n : Int) * (nn : Int)) := Int.mul_assoc _ _ _
     have okm : okM (n : Int) (n : Int) nn := by rw [← unhide HNN]; exact (sqA_of ⟨hN.1.1, by omega⟩).1
     refine refSum_own R (c0 || (gainC A Q n) q || orC (mulG A ((gainZ A Q n) q) n n) nn) (cnt + 2 * (n : Int) * (nn : Int)) n n (some ⟨Bx, 0, none⟩) ta nn cx tp (mulZ A ((gainZ A Q n) q) n n) (turnZ (mulZ A ((gainZ A Q n) q) n n) n n) okm ?_ (fun i hi => mulZ_I64 _ _ _ _ _) (fun i hi => ?_) _ (unhide HD6).1.2.1 (unhide HD6).1.2.2.1.row (fun _ a ha => ?_) (unhide HD6).2.1 (unhide HD6).2.2
     ·have := (unhide S1).2.2; have := (unhide HH); rw [kq]; omega
     ·exact mulZ_I64 _ _ _ _ _
     ·cases ha
      have := (unhide HD6).1.2.2.2.2.2.1
      have := (unhide NE).2.2.1
      show Bx ≠ R
      omega
    clear g6 tb htp trow toff k5
    go_wp2_with fail
    clear x0 x1 x2 t0 t1 t2
    generalize (w5.alloc (.cells #[.int .i64 n, .int .i64 n, .slice ta nn tp] 38)) = w6 at *
    refine (unhide SU).mono ?_
    rintro e' w7 ⟨By, cy, rfl, hcy, hBy, hoy, huy, hmy⟩
    have M7 : Mk R wr w7 := (unhide HD6).1.1.trans hmy
    have g8 : Grown w7 (w7.alloc (.cells #[.int .i64 n, .int .i64 n, .slice (some ⟨By, 0, none⟩) nn cy] 38)) := (Grown.refl _).alloc _ _
    have HI8 : Hid (GIn w R n nn m.cells (gainZ A Q n) (evZ (mulZ A ((gainZ A Q n) q) n n) n) e ((c0 || (gainC A Q n) q || orC (mulG A ((gainZ A Q n) q) n n) nn) || orC (evG (mulZ A ((gainZ A Q n) q) n n) n) nn) n0 q (.slice (some ⟨g, 0, none⟩) (q + 1) cg) w7.heap.size By cy 0 (w7.alloc (.cells #[.int .i64 n, .int .i64 n, .slice (some ⟨By, 0, none⟩) nn cy] 38))) := by
     obtain ⟨hl, hD, q1, q2, hmk, hab⟩ := unhide S1
     have hN := unhide HN
     have n7 := unhide NE
     have kb : (n : Int) * (nn : Int) ≤ 6 * 36 := Int.mul_le_mul (by omega) (by omega) (by omega) (by omega)
     have kb0 : 0 ≤ (n : Int) * (nn : Int) := Int.mul_nonneg (by omega) (by omega)
     have kq : 2 * (n : Int) * (nn : Int) = 2 * ((n : Int) * (nn : Int)) := Int.mul_assoc _ _ _
     have l7 := M7.2.2.2
     have lB : wr.heap.size ≤ By := Nat.le_trans (unhide HD6).1.1.2.2.2 hBy
     have dl := (hD.mk M7 (by have := (unhide HH).2.2.1; omega)).kp (Kp.of g8)
     refine ⟨⟨_, hl, dl, hD.far lB, fun gg eg => ?_⟩, ?_, hcy, by omega, by omega, Blk.new _ _ _, Blk.grown (Blk.mk hab M7 n7.1) g8, ⟨cnt + 2 * (n : Int) * (nn : Int) + 2 * nn, ?_, ?_, ?_⟩, ((hmk.trans M7).grown g8)⟩
     ·obtain ⟨_, cur, hg⟩ := hD.own_ge gg eg
      have := Blk.lt hg
      omega
     ·obtain ⟨cur, o1, o2⟩ := hoy
      exact ⟨cur, Blk.grown o1 g8, fun i hi => by rw [o2 i hi]; simp [mixZ]⟩
     ·rw [kq]; omega
     ·rw [kq]; omega
     ·show RC R (_ || false) _ _
      rw [Bool.or_false]
      exact Blk.grown huy g8
    have lY : Hid (R < w7.heap.size ∧ R < By) := ⟨Nat.lt_of_lt_of_le (unhide NE).2.2.1 M7.2.2.2, Nat.lt_of_lt_of_le (unhide NE).2.2.1 (Nat.le_trans (unhide HD6).1.1.2.2.2 hBy)⟩
    clear SU HD HD6 hcy hBy hoy huy hmy M7 g8
    go_wp2_with fail
    generalize (w7.alloc (.cells #[.int .i64 n, .int .i64 n, .slice (some ⟨By, 0, none⟩) nn cy] 38)) = w8 at *
    generalize w7.heap.size = Yb at *
    go_loopw [15] (fun i wr => ∃ j : Nat, j ≤ nn ∧ i = .int .i64 j ∧ Hid (GIn w R n nn m.cells (gainZ A Q n) (evZ (mulZ A ((gainZ A Q n) q) n n) n) e ((c0 || (gainC A Q n) q || orC (mulG A ((gainZ A Q n) q) n n) nn) || orC (evG (mulZ A ((gainZ A Q n) q) n n) n) nn) n0 q (.slice (some ⟨g, 0, none⟩) (q + 1) cg) Yb By cy j wr)) (fun i _ => nn - (intOf i).toNat)
    case atStart => exact ⟨0, Nat.zero_le _, rfl, HI8⟩
    case round =>
     obtain ⟨j, hj, rfl, HJ⟩ := hrel
     clear HI8
     have y0 : wr.cell? ⟨Yb, 2, none⟩ = some (.slice (some ⟨By, 0, none⟩) nn cy) := Blk.cell (unhide HJ).2.2.2.2.2.1 2
     have n36 : nn ≤ 36 := (unhide HN).2.1.2
     by_cases hlt2 : j < nn
     ·have xk : wr.cell? ⟨By, j, none⟩ = some (.int .i64 ((evZ (mulZ A ((gainZ A Q n) q) n n) n) j)) := by
       have := (unhide HJ).2.1.cellAt j hlt2
       simpa [mixZ] using this
      have i0 : (0 : Int) ≤ (j : Int) := Int.natCast_nonneg _
      have i1 : (j : Int) < (nn : Int) := Int.ofNat_lt.2 hlt2
      have NJ : Hid (j + 1 ≤ nn) := hlt2
      obtain ⟨z, zq1, zq2, hz⟩ := (unhide HJ).2.2.2.2.2.2.2.1
      have zb : 0 ≤ z ∧ z < 2000000000000000000 := by have := unhide HH; omega
      have e12 : e ≤ 12 := by omega
      have WH := hide (fun C w h => refUWhole R C z (e : Int) (by unfold I64; omega) ⟨zb.1, by omega⟩ w h)
      have yI : I64 ((evZ (mulZ A ((gainZ A Q n) q) n n) n) j) := evZ_I64 _ _ _
      have DV := hide (fun C w h => refUDiv R C (z + 1) ((evZ (mulZ A ((gainZ A Q n) q) n n) n) j) (whoN (e : Int)) yI (whoN_I64 _) ⟨by omega, by omega⟩ w h)
      have ED : Hid (divN ((evZ (mulZ A ((gainZ A Q n) q) n n) n) j) (whoN (e : Int)) = dvZ (evZ (mulZ A ((gainZ A Q n) q) n n) n) e j) := rfl
      have EG : Hid (orC (dvG (evZ (mulZ A ((gainZ A Q n) q) n n) n) e) (j + 1) = (orC (dvG (evZ (mulZ A ((gainZ A Q n) q) n n) n) e) j || (whoC (e : Int) || divC ((evZ (mulZ A ((gainZ A Q n) q) n n) n) j) (whoN (e : Int))))) := rfl
      have HZ := hide (And.intro zq1 (And.intro zq2 hz))
      have hXR : Yb ≠ R := by have := unhide lY; omega
      have hBR : By ≠ R := by have := unhide lY; omega
      have lR := hide ((unhide HH).2.2.1)
      generalize whoN (e : Int) = wm at *
      generalize whoC (e : Int) = wc' at *
      generalize hy : (evZ (mulZ A ((gainZ A Q n) q) n n) n) j = y at *
      generalize divN y wm = dq at *
      generalize divC y wm = dc at *
      clear hy zb zq1 zq2 hz yI
      go_wp2_with fail
      refine region_G (fun w' => w'.cell? ⟨Yb, 2, none⟩ = some (.slice (some ⟨By, 0, none⟩) nn cy) ∧ w'.cell? ⟨By, j, none⟩ = some (.int .i64 y)) 14 (by kernel_rfl) ⟨y0, xk⟩ (fun hHeld => ?_)
      refine take_G (i := 0) (d := 63) (v := .pointer (some ⟨Yb, 2, none⟩)) rfl rfl (by kernel_rfl) (by kernel_rfl) (by kernel_rfl) (by kernel_rfl) (by kernel_rfl) (Or.inl ⟨by rfl, ?_⟩) hHeld ?_
      ·intro wS hSw
       obtain ⟨z0, z1⟩ := hSw
       clear hHeld
       go_simp
       (try (intro hz; omega))
      (try simp only [Act.put, List.setIfInBounds_toArray, List.set_cons_zero, List.set_cons_succ])
      refine take_G (i := 1) (d := 64) (v := .slice (some ⟨By, 0, none⟩) nn cy) rfl rfl (by kernel_rfl) (by kernel_rfl) (by kernel_rfl) (by kernel_rfl) (by kernel_rfl) (Or.inl ⟨by rfl, ?_⟩) hHeld ?_
      ·intro wS hSw
       obtain ⟨z0, z1⟩ := hSw
       clear hHeld
       go_simp
       (try (intro hz; omega))
      (try simp only [Act.put, List.setIfInBounds_toArray, List.set_cons_zero, List.set_cons_succ])
      refine take_G (i := 2) (d := 65) (v := .int .i64 (j : Int)) rfl rfl (by kernel_rfl) (by kernel_rfl) (by kernel_rfl) (by kernel_rfl) (by kernel_rfl) (Or.inl ⟨by rfl, ?_⟩) hHeld ?_
      ·intro wS hSw
       obtain ⟨z0, z1⟩ := hSw
       clear hHeld
       go_simp
       (try (intro hz; omega))
      (try simp only [Act.put, List.setIfInBounds_toArray, List.set_cons_zero, List.set_cons_succ])
      refine take_G (i := 3) (d := 66) (v := .pointer (some ⟨R, 0, none⟩)) rfl rfl (by kernel_rfl) (by kernel_rfl) (by kernel_rfl) (by kernel_rfl) (by kernel_rfl) (Or.inl ⟨by rfl, ?_⟩) hHeld ?_
      ·intro wS hSw
       obtain ⟨z0, z1⟩ := hSw
       clear hHeld
       go_simp
       (try (intro hz; omega))
      (try simp only [Act.put, List.setIfInBounds_toArray, List.set_cons_zero, List.set_cons_succ])
      refine take_G (i := 4) (d := 67) (v := .pointer (some ⟨Yb, 2, none⟩)) rfl rfl (by kernel_rfl) (by kernel_rfl) (by kernel_rfl) (by kernel_rfl) (by kernel_rfl) (Or.inl ⟨by rfl, ?_⟩) hHeld ?_
      ·intro wS hSw
       obtain ⟨z0, z1⟩ := hSw
       clear hHeld
       go_simp
       (try (intro hz; omega))
      (try simp only [Act.put, List.setIfInBounds_toArray, List.set_cons_zero, List.set_cons_succ])
      refine take_G (i := 5) (d := 68) (v := .slice (some ⟨By, 0, none⟩) nn cy) rfl rfl (by kernel_rfl) (by kernel_rfl) (by kernel_rfl) (by kernel_rfl) (by kernel_rfl) (Or.inl ⟨by rfl, ?_⟩) hHeld ?_
      ·intro wS hSw
       obtain ⟨z0, z1⟩ := hSw
       clear hHeld
       go_simp
       (try (intro hz; omega))
      (try simp only [Act.put, List.setIfInBounds_toArray, List.set_cons_zero, List.set_cons_succ])
      refine take_G (i := 6) (d := 69) (v := .int .i64 (j : Int)) rfl rfl (by kernel_rfl) (by kernel_rfl) (by kernel_rfl) (by kernel_rfl) (by kernel_rfl) (Or.inl ⟨by rfl, ?_⟩) hHeld ?_
      ·intro wS hSw
       obtain ⟨z0, z1⟩ := hSw
       clear hHeld
       go_simp
       (try (intro hz; omega))
      (try simp only [Act.put, List.setIfInBounds_toArray, List.set_cons_zero, List.set_cons_succ])
      refine take_G (i := 7) (d := 70) (v := .pointer (some ⟨By, j, none⟩)) rfl rfl (by kernel_rfl) (by kernel_rfl) (by kernel_rfl) (by kernel_rfl) (by kernel_rfl) (Or.inl ⟨by rfl, ?_⟩) hHeld ?_
      ·intro wS hSw
       obtain ⟨z0, z1⟩ := hSw
       clear hHeld
       go_simp
       (try (intro hz; omega))
      (try simp only [Act.put, List.setIfInBounds_toArray, List.set_cons_zero, List.set_cons_succ])
      refine take_G (i := 8) (d := 71) (v := .int .i64 y) rfl rfl (by kernel_rfl) (by kernel_rfl) (by kernel_rfl) (by kernel_rfl) (by kernel_rfl) (Or.inl ⟨by rfl, ?_⟩) hHeld ?_
      ·intro wS hSw
       obtain ⟨z0, z1⟩ := hSw
       clear hHeld
       go_simp
       (try (intro hz; omega))
      (try simp only [Act.put, List.setIfInBounds_toArray, List.set_cons_zero, List.set_cons_succ])
      refine take_G (i := 9) (d := 72) (v := .pointer (some ⟨R, 0, none⟩)) rfl rfl (by kernel_rfl) (by kernel_rfl) (by kernel_rfl) (by kernel_rfl) (by kernel_rfl) (Or.inl ⟨by rfl, ?_⟩) hHeld ?_
      ·intro wS hSw
       obtain ⟨z0, z1⟩ := hSw
       clear hHeld
       go_simp
       (try (intro hz; omega))
      (try simp only [Act.put, List.setIfInBounds_toArray, List.set_cons_zero, List.set_cons_succ])
      refine take_G (i := 10) (d := 73) (v := .int .i64 (e : Int)) rfl rfl (by kernel_rfl) (by kernel_rfl) (by kernel_rfl) (by kernel_rfl) (by kernel_rfl) (Or.inl ⟨by rfl, ?_⟩) hHeld ?_
      ·intro wS hSw
       obtain ⟨z0, z1⟩ := hSw
       clear hHeld
       go_simp
       (try (intro hz; omega))
      (try simp only [Act.put, List.setIfInBounds_toArray, List.set_cons_zero, List.set_cons_succ])
      refine step_G (i := 11) (by kernel_rfl) (fun K hK => ?_)
      refine wpOp_of rfl rfl ?_
      unfold Oper.wp
      go_simp
      refine (unhide WH _ _ (show RC R _ z wr.drew from (unhide HZ).2.2)).mono ?_
      rintro e' w16 ⟨rfl, u6, m6⟩
      have hHeld : w16.cell? ⟨Yb, 2, none⟩ = some (.slice (some ⟨By, 0, none⟩) nn cy) ∧ w16.cell? ⟨By, j, none⟩ = some (.int .i64 y) := ⟨(Mk.of m6).cell hHeld.1 hXR, (Mk.of m6).cell hHeld.2 hBR⟩
      have S6 := hide (And.intro u6 m6)
      refine hK _ _ (fun _ => hHeld) ?_
      clear hK K u6 m6
      (try simp only [Act.put, List.setIfInBounds_toArray, List.set_cons_zero, List.set_cons_succ])
      refine step_G (i := 12) (by kernel_rfl) (fun K hK => ?_)
      refine wpOp_of rfl rfl ?_
      unfold Oper.wp
      go_simp
      refine (unhide DV _ _ (unhide S6).1).mono ?_
      rintro e' w17 ⟨rfl, u7, m7⟩
      have hHeld : w17.cell? ⟨Yb, 2, none⟩ = some (.slice (some ⟨By, 0, none⟩) nn cy) ∧ w17.cell? ⟨By, j, none⟩ = some (.int .i64 y) := ⟨(Mk.of m7).cell hHeld.1 hXR, (Mk.of m7).cell hHeld.2 hBR⟩
      have PP := hide (GIn.put (unhide HJ) (unhide lR) ((show Mod R wr w16 from (unhide S6).2).trans m7) (unhide HZ).1 (unhide HZ).2.1 u7 (unhide EG) (unhide ED) hlt2)
      have f7 : w17.frozen? ⟨By, j, none⟩ = false := (unhide PP).2
      have R7 := hide (unhide PP).1
      refine hK _ _ (fun _ => hHeld) ?_
      clear hK K u7 m7 S6 PP
      (try simp only [Act.put, List.setIfInBounds_toArray, List.set_cons_zero, List.set_cons_succ])
      refine take_G (i := 13) (d := 76) (v := .pointer (some ⟨By, j, none⟩)) rfl rfl (by kernel_rfl) (by kernel_rfl) (by kernel_rfl) (by kernel_rfl) (by kernel_rfl) (Or.inl ⟨by rfl, ?_⟩) hHeld ?_
      ·intro wS hSw
       obtain ⟨z0, z1⟩ := hSw
       clear hHeld
       go_simp
       (try (intro hz; omega))
      (try simp only [Act.put, List.setIfInBounds_toArray, List.set_cons_zero, List.set_cons_succ])
      have x7 := hHeld.2
      clear hHeld
      refine step_G (i := 14) (by kernel_rfl) (fun K hK => ?_)
      refine wpOp_of rfl rfl ?_
      unfold Oper.wp
      go_simp
      refine hK _ _ (fun h => absurd rfl h) ?_
      clear hK K
      (try simp only [Act.put, List.setIfInBounds_toArray, List.set_cons_zero, List.set_cons_succ])
      refine done_G (by kernel_rfl) ?_
      refine noPanic_normalE ?_
      clear WH DV ED EG HJ x7 f7 y0 xk
      go_wp2
      go_roundw
      case rel => exact ⟨j + 1, unhide NJ, by go_num, R7⟩
      case measure => have := unhide NJ; simp [intOf]; omega
     ·obtain rfl : j = nn := by omega
      obtain ⟨⟨l2, a1, a2, _, _⟩, a5, a6, a7, _, a9, a10, ⟨z, z1, z2, z3⟩, a12⟩ := unhide HJ
      have y1 : wr.cell? ⟨Yb, 0, none⟩ = some (.int .i64 n) := Blk.cell a9 0
      have y2 : wr.cell? ⟨Yb, 1, none⟩ = some (.int .i64 n) := Blk.cell a9 1
      obtain ⟨i0, hi, hz0, hz1, hz2⟩ := info_parts Tryz.infoMat
      have OW : Hid ((wr.alloc (.cells (GTx n j (gainZ A Q n) (q + 1) By cy).cells 38)).ownsRow (w.heap.size + 1) 38 3 (.slice (some ⟨g, 0, none⟩) (q + 1) cg) (q + 1) (flat l2)) := by
       have := (a2.1.kp (Kp.of ((Grown.refl wr).alloc (GTx n j (gainZ A Q n) (q + 1) By cy).cells 38)))
       unfold MLs at this
       rw [a1] at this
       exact this
      have NW := hide (news_mat (w := (wr.alloc (.cells (GTx n j (gainZ A Q n) (q + 1) By cy).cells 38))) (x := (GTx n j (gainZ A Q n) (q + 1) By cy)) (Blk.new wr _ _))
      have B1 : Hid (q + 1 + 1 ≤ maxLen) := by show q + 1 + 1 ≤ maxLen; unfold maxLen; omega
      have B2 : Hid ((q + 1 + 1) * 40 ≤ 140737488355328) := by show (q + 1 + 1) * 40 ≤ 140737488355328; omega
      have B3 : Hid (w.heap.size + 1 ≤ (wr.alloc (.cells (GTx n j (gainZ A Q n) (q + 1) By cy).cells 38)).heap.size) := by
       have := Blk.lt a10
       show _ ≤ _
       simp
       omega
      have eT : (gainZ A Q n) (q + 1) = dvZ (evZ (mulZ A ((gainZ A Q n) q) n n) n) e := by rw [unhide E2]; rfl
      have eC : (((c0 || (gainC A Q n) q || orC (mulG A ((gainZ A Q n) q) n n) j) || orC (evG (mulZ A ((gainZ A Q n) q) n n) n) j) || orC (dvG (evZ (mulZ A ((gainZ A Q n) q) n n) n) e) j) = (c0 || (gainC A Q n) (q + 1)) := by
       show _ = (c0 || ((gainC A Q n) q || orC (mulG A ((gainZ A Q n) q) n n) (n * n) || orC (evG (mulZ A ((gainZ A Q n) q) n n) n) (n * n) || orC (dvG (evZ (mulZ A ((gainZ A Q n) q) n n) n) (q + 2)) (n * n)))
       rw [unhide HNN, ← unhide E2]
       simp only [Bool.or_assoc]
      have SS := hide (fun v' w4 hown hg => GTo.step (v' := v') (w4 := w4) (by omega) (unhide HH).2.2.1 eT eC ⟨a1, a2⟩ a5 a6 a7 a10 ⟨z1, z2, z3⟩ a12 hown hg)
      have B4 : Hid (e + 1 ≤ kk + 1 ∧ e + 1 = q + 1 + 2) := ⟨by omega, by rw [unhide E2]⟩
      clear a1 a2 a5 a6 a7 a9 a10 z1 z2 z3 a12 HJ eT eC
      go_wp2_with (at_builtin; refine wpList_append_own _ rfl _ _ 73 rfl (w.heap.size + 1) 38 i0 (.agg #[.int .i64 0, .int .i64 0, .slice none 0 0]) 3 40 Tryz.underlying73 hi hz0 hz1 hz2 rfl (by decide) (.slice (some ⟨g, 0, none⟩) (q + 1) cg) (q + 1) (flat l2) rfl (unhide OW) ⟨wr.heap.size, 0, none⟩ 1 1 (GTx n j (gainZ A Q n) (q + 1) By cy).cells.toList rfl rfl (unhide NW) (cells_oneMV _) (unhide B1) (unhide B2) (unhide B3) ?_; intro v' w4 hown hgrow _; have S4 : Hid (GTo w R n j m.cells (gainZ A Q n) (gainC A Q n) c0 n0 (q + 1 + 1) v' w4) := unhide SS v' w4 hown hgrow; clear hown hgrow)
      go_roundw
      case rel => exact ⟨q + 1, e + 1, (unhide B4).1, by go_num, (unhide B4).2, S4⟩
      case measure => have := unhide B4; simp [intOf]; omega
  ·obtain ⟨eq2, l, hl, hD, ⟨cnt, q1, q2, hu⟩, hmk, hab⟩ := unhide HI
   have hq : q = K := by have := unhide kK; omega
   subst hq
   have k10 := (unhide HKK).2
   have y0 := (unhide CM _ hab).1
   have RR : Hid (∀ v', v' = u7 → GCoefP R n nn c0 n0 (gainZ A Q n) (gainC A Q n) q w (.returned v') wr) := fun v' ev => ⟨v', l, rfl, hl, ⟨by rw [ev]; exact hD.1.mono (by omega), fun i x hx => by
    obtain ⟨B, cp, e, a1, a2, a3⟩ := hD.2 i x hx
    exact ⟨B, cp, e, a1, by omega, a3⟩⟩, ⟨cnt, q1, by omega, hu⟩, hmk⟩
   clear hl hD q1 q2 hu hmk hab HI
   go_wp2_with fail
   go_ret
   exact unhide RR _ rfl
  end Go.Proofs.YtjobgjcfkomhpaaGreat
namespace Go.Proofs.YtjobgjcfkomhpaaGreat
open Go.RowKit Go.Shelf Go.Proofs.Wd
set_option maxRecDepth 10000
theorem gtl_at {base n nn : Nat} {T : Nat → Nat → Int} {v : Value} {l : List MV} {W : World} (h : GTl base n nn T v l W) {i : Nat} (hi : i < l.length) : ∃ B cp, ixM l i = GTx n nn T i B cp ∧ nn ≤ cp ∧ base ≤ B ∧ Own B nn (T i) W := by
 obtain ⟨B, cp, e, h1, h2, h3⟩ := h.2 i _ (List.getElem?_eq_getElem hi)
 exact ⟨B, cp, by rw [ixM_at (List.getElem?_eq_getElem hi), e], h1, h2, h3⟩
theorem refAtGain (R n nn k : Nat) (c1 : Bool) (cnt t : Int) (hcnt : 0 ≤ cnt ∧ cnt < 1000000000000000000) (ht : I64 t) (hn : 1 ≤ n ∧ n ≤ 12) (hnn : n * n = nn) (hk : k ≤ 24) (T : Nat → Nat → Int) (IT : ∀ i p, p < nn → I64 (T i p)) (base : Nat) (v : Value) (l : List MV) (hl : l.length = k + 1) (w : World) (h : RC R c1 cnt w) (hD : GTl base n nn T v l w) (hR : R < base) :
  Calls Tryz.prog 45 #[.pointer (some ⟨R, 0, none⟩), v, .int .i64 t] w fun e w' => DocP n n nn (horZ T k t k) 0 (fun w' => RW R (c1 || horC T k t nn k) cnt 100000 w' ∧ Mk R w w') w e w' := by
 obtain ⟨ao, cap, e, hM, hc, hoff⟩ := hD.1.mats
 obtain ⟨g, cg, e2, _, hge, _⟩ := hD.1.openL hl (by omega)
 rw [e] at e2
 injection e2 with e3 e4 e5
 subst e3
 rw [hl] at e hM
 subst e
 have k2 := mul12n n n hn hn
 rw [hnn] at k2
 have at' : ∀ i, i ≤ k → ∃ B cp, ixM l i = GTx n nn T i B cp ∧ nn ≤ cp ∧ base ≤ B ∧ Own B nn (T i) w := fun i hi => gtl_at hD (by omega)
 have hZ : ∀ i, i ≤ k → ∀ p, p < nn → (ixM l i).Z p = T i p := fun i hi p _ => by
  obtain ⟨B, cp, e, _⟩ := at' i hi
  rw [e]
  rfl
 have hX : ∀ i, i ≤ k → (ixM l i).R = n ∧ (ixM l i).C = n ∧ (ixM l i).len = nn := fun i hi => by
  obtain ⟨B, cp, e, _⟩ := at' i hi
  rw [e]
  exact ⟨rfl, rfl, rfl⟩
 have hc' := hor_congr (fun i => (ixM l i).Z) T k t nn hZ k
 have okn : okM n n nn := ⟨by omega, by omega, by rw [← hnn, Int.natCast_mul]⟩
 refine (pRefAt_ok R n n nn k (k + 1) g 0 cap c1 cnt t hcnt ht hn hn hnn (by omega) rfl (ixM l) ⟨by omega, fun i hi => ?_⟩ hX (fun i hi j hj => ?_) w h hM (fun i hi => ?_) (fun i hi => ?_) (by omega)).mono ?_
 ·obtain ⟨a1, a2, a3⟩ := hX i (by omega)
  obtain ⟨b1, b2, b3⟩ := hX 0 (by omega)
  rw [a1, a2, a3, b1, b2]
  exact ⟨okn, rfl, rfl⟩
 ·rw [hZ i hi j hj]
  exact IT i j hj
 ·obtain ⟨B, cp, e, _, _, ho⟩ := at' i hi
  rw [e]
  exact ho.row
 ·obtain ⟨B, cp, e, _, hb, _⟩ := at' i hi
  rw [e]
  intro _ a ha
  cases ha
  show B ≠ R
  omega
 ·rintro e w6 ⟨a6, c6, rfl, h2, h3, h4, ⟨c', r1, r2, hu6⟩, h6⟩
  refine ⟨a6, c6, rfl, h2, ?_, h4, ⟨c', r1, r2, by rw [← hc'.2]; exact hu6⟩, h6⟩
  rcases h3 with h3 | ⟨b, o, rfl, h3⟩
  ·exact Or.inl h3
  ·exact Or.inr ⟨b, o, rfl, fun i hi => by rw [h3 i hi, hc'.1 i hi]⟩
set_option maxRecDepth 20000 in
set_option maxHeartbeats 8000000 in
theorem refNoise_ok (R : Nat) (c0 : Bool) (n0 : Int) (hn0 : 0 ≤ n0 ∧ n0 < 1000000000000000) (m : DV) (n : Nat) (eN : m.N = n) (ticks : Int) (hI : I64 ticks) (w : World) (hm : ∀ W, Mk R w W → m.good W) (oa : Off R m.A.len m.A.ao) (e0 : rfD m ticks = 0) (h0 : 0 ≤ ticks) (h : RC R c0 n0 w) :
  Calls Tryz.prog 18 #[.pointer (some ⟨R, 0, none⟩), .agg m.cells, .int .i64 ticks] w fun e w' => DocP n n (n * n) (noiseZ m.A.Z m.Q.Z n (spanZ ticks m.tick)) 0 (fun w' => RW R (c0 || spanC ticks m.tick || noiseC m.A.Z m.Q.Z n (spanZ ticks m.tick)) n0 200503 w' ∧ Mk R w w') w e w' := by
 obtain ⟨nn, hnn⟩ : ∃ nn, n * n = nn := ⟨_, rfl⟩
 obtain ⟨K, hK⟩ : ∃ K, 2 * n - 2 = K := ⟨_, rfl⟩
 have hok := (rfD_ok e0).1
 have HN : Hid ((1 ≤ n ∧ n ≤ 6) ∧ (1 ≤ nn ∧ nn ≤ 36) ∧ K ≤ 24) := by
  obtain ⟨n', e, h1, _, _, h4, _⟩ := okD_nat hok
  obtain rfl : n' = n := Int.ofNat.inj (e.symm.trans eN)
  rw [hnn] at h4
  exact ⟨h1, h4, by omega⟩
 have IQ : ∀ i, i < n → I64 (m.Q.Z i) := fun i hi => (hm w (Mk.kp (Kp.refl _))).2.1.2.2 i (by
  obtain ⟨n', e, _, _, hq, _⟩ := okD_nat hok
  obtain rfl : n' = n := Int.ofNat.inj (e.symm.trans eN)
  omega)
 have IT : Hid (∀ i p, p < nn → I64 ((gainZ m.A.Z m.Q.Z n) i p)) := fun i p hp => gainZ_I64 _ _ n IQ i p (by rw [hnn]; exact hp)
 have S0 : Hid (Grown w ((w.alloc (.cells #[.int .i64 m.N, .slice m.A.ao m.A.len m.A.cap, .slice m.Q.ao m.Q.len m.Q.cap, .int .i64 m.tick, .int .i64 m.gate, .int .i64 m.rmin, .slice m.ro m.rl m.rc] 25)).alloc (.cells #[.int .i64 0, .int .i64 0, .slice none 0 0] 38)) ∧ Blk w.heap.size m.cells 25 ((w.alloc (.cells #[.int .i64 m.N, .slice m.A.ao m.A.len m.A.cap, .slice m.Q.ao m.Q.len m.Q.cap, .int .i64 m.tick, .int .i64 m.gate, .int .i64 m.rmin, .slice m.ro m.rl m.rc] 25)).alloc (.cells #[.int .i64 0, .int .i64 0, .slice none 0 0] 38)) ∧ Blk (w.heap.size + 1) #[.int .i64 0, .int .i64 0, .slice none 0 0] 38 ((w.alloc (.cells #[.int .i64 m.N, .slice m.A.ao m.A.len m.A.cap, .slice m.Q.ao m.Q.len m.Q.cap, .int .i64 m.tick, .int .i64 m.gate, .int .i64 m.rmin, .slice m.ro m.rl m.rc] 25)).alloc (.cells #[.int .i64 0, .int .i64 0, .slice none 0 0] 38))) := by
  have g1 : Grown w (w.alloc (.cells m.cells 25)) := (Grown.refl _).alloc _ _
  have s1 : (w.alloc (.cells m.cells 25)).heap.size = w.heap.size + 1 := by simp
  have b1 : Blk w.heap.size m.cells 25 (w.alloc (.cells m.cells 25)) := Blk.new w _ _
  have b2 : Blk (w.alloc (.cells m.cells 25)).heap.size #[.int .i64 0, .int .i64 0, .slice none 0 0] 38 ((w.alloc (.cells m.cells 25)).alloc (.cells #[.int .i64 0, .int .i64 0, .slice none 0 0] 38)) := Blk.new _ _ _
  rw [s1] at b2
  exact ⟨g1.alloc _ _, Blk.grown b1 ((Grown.refl _).alloc _ _), b2⟩
 have RF : Hid (∀ W, Grown w W → Calls Tryz.prog 35 #[.agg #[.int .i64 m.N, .slice m.A.ao m.A.len m.A.cap, .slice m.Q.ao m.Q.len m.Q.cap, .int .i64 m.tick, .int .i64 m.gate, .int .i64 m.rmin, .slice m.ro m.rl m.rc], .int .i64 ticks] W fun e w' => e = .returned (.int .i64 0) ∧ Grown W w') := fun W g => by
  have := refRefuses m ticks W (hm W (Mk.kp (Kp.of g)))
  rwa [e0] at this
 have SP : Hid (∀ W, Grown w W → Calls Tryz.prog 14 #[.pointer (some ⟨R, 0, none⟩), .agg #[.int .i64 m.N, .slice m.A.ao m.A.len m.A.cap, .slice m.Q.ao m.Q.len m.Q.cap, .int .i64 m.tick, .int .i64 m.gate, .int .i64 m.rmin, .slice m.ro m.rl m.rc], .int .i64 ticks] W fun e w' => e = .returned (.tuple #[.int .i64 (spanZ ticks m.tick), .int .i64 0]) ∧ RC R (c0 || spanC ticks m.tick) (n0 + 3) w' ∧ Mod R W w') := fun W g => refSpan_ok R c0 n0 ⟨by omega, by omega⟩ m ticks hI W (hm W (Mk.kp (Kp.of g))) e0 (Blk.grown h g)
 have CO : Hid (∀ W, Mk R w W → RC R (c0 || spanC ticks m.tick) (n0 + 3) W → Calls Tryz.prog 46 #[.pointer (some ⟨R, 0, none⟩), .agg #[.int .i64 m.N, .slice m.A.ao m.A.len m.A.cap, .slice m.Q.ao m.Q.len m.Q.cap, .int .i64 m.tick, .int .i64 m.gate, .int .i64 m.rmin, .slice m.ro m.rl m.rc]] W fun e w' => GCoefP R n nn (c0 || spanC ticks m.tick) (n0 + 3) (gainZ m.A.Z m.Q.Z n) (gainC m.A.Z m.Q.Z n) K W e w') := fun W g u => refCoef R _ (n0 + 3) ⟨by omega, by omega⟩ m n nn K eN hnn hK W (hm W g) hok oa u
 have okm : Hid (okM (n : Int) (n : Int) nn) := by rw [← hnn]; exact (sqA_of ⟨(unhide HN).1.1, by have := unhide HN; omega⟩).1
 have lR : Hid (R < w.heap.size ∧ 0 ≤ n0 ∧ n0 < 1000000000000000) := ⟨Blk.lt h, hn0.1, hn0.2⟩
 have HK := hide (And.intro hnn hK)
 have IS : Hid (I64 (spanZ ticks m.tick)) := spanZ_I64 _ _
 have d0 : decide (ticks < 0) = false := decide_eq_false (by omega)
 have EZ : Hid (∀ p, noiseZ m.A.Z m.Q.Z n (spanZ ticks m.tick) p = m2N (horZ (gainZ m.A.Z m.Q.Z n) K (spanZ ticks m.tick) K p) (spanZ ticks m.tick)) := fun p => by rw [← hK]; rfl
 have EC : Hid (noiseC m.A.Z m.Q.Z n (spanZ ticks m.tick) = ((gainC m.A.Z m.Q.Z n) K || horC (gainZ m.A.Z m.Q.Z n) K (spanZ ticks m.tick) nn K || orC (fun p => m2C (horZ (gainZ m.A.Z m.Q.Z n) K (spanZ ticks m.tick) K p) (spanZ ticks m.tick)) nn)) := by rw [← hK, ← hnn]; rfl
 rw [hnn]
 have eF : noiseZ m.A.Z m.Q.Z n (spanZ ticks m.tick) = fun p => m2N (horZ (gainZ m.A.Z m.Q.Z n) K (spanZ ticks m.tick) K p) (spanZ ticks m.tick) := funext (unhide EZ)
 rw [eF, unhide EC]
 clear hm oa e0 h0 h hn0 hI hok IQ hnn hK eF EZ EC eN
 generalize hT : (gainZ m.A.Z m.Q.Z n) = TT at *
 generalize hC : (gainC m.A.Z m.Q.Z n) = CC at *
 generalize spanZ ticks m.tick = sp at *
 generalize (c0 || spanC ticks m.tick) = c1 at *
 clear hT hC
 obtain ⟨y0, y1, y2, y3, y4, y5, y6⟩ := ((unhide S0).2.1).cellsM
 unfold DV.cells
 go_enter Tryz.func18, Tryz.ntmps18
 go_wp2_with fail
 generalize ((w.alloc (.cells #[.int .i64 m.N, .slice m.A.ao m.A.len m.A.cap, .slice m.Q.ao m.Q.len m.Q.cap, .int .i64 m.tick, .int .i64 m.gate, .int .i64 m.rmin, .slice m.ro m.rl m.rc] 25)).alloc (.cells #[.int .i64 0, .int .i64 0, .slice none 0 0] 38)) = w1 at *
 refine (unhide RF w1 (unhide S0).1).mono ?_
 rintro e w2 ⟨rfl, g2⟩
 have S2 : Hid (Grown w w2 ∧ Blk w.heap.size m.cells 25 w2 ∧ Blk (w.heap.size + 1) #[.int .i64 0, .int .i64 0, .slice none 0 0] 38 w2) := ⟨gtrans (unhide S0).1 g2, Blk.grown (unhide S0).2.1 g2, Blk.grown (unhide S0).2.2 g2⟩
 clear g2 S0 RF y0 y1 y2 y3 y4 y5 y6
 obtain ⟨y0, y1, y2, y3, y4, y5, y6⟩ := ((unhide S2).2.1).cellsM
 go_wp2_with fail
 refine (unhide SP w2 (unhide S2).1).mono ?_
 rintro e w3 ⟨rfl, u3, m3⟩
 have S3 : Hid (Mk R w w3 ∧ RC R c1 (n0 + 3) w3 ∧ Blk w.heap.size m.cells 25 w3 ∧ Blk (w.heap.size + 1) #[.int .i64 0, .int .i64 0, .slice none 0 0] 38 w3) := ⟨(Mk.of (Mod.of (unhide S2).1)).trans (Mk.of m3), u3, Blk.keep (unhide S2).2.1 m3 (by have := unhide lR; omega), Blk.keep (unhide S2).2.2 m3 (by have := unhide lR; omega)⟩
 clear u3 m3 S2 SP y0 y1 y2 y3 y4 y5 y6
 obtain ⟨y0, y1, y2, y3, y4, y5, y6⟩ := ((unhide S3).2.2.1).cellsM
 go_wp2_with fail
 refine (unhide CO w3 (unhide S3).1 (unhide S3).2.1).mono ?_
 rintro e w4 ⟨v, l, rfl, hl, hD, ⟨cnt, q1, q2, hu⟩, hmk⟩
 have l3 : R < w3.heap.size := Nat.lt_of_lt_of_le (unhide lR).1 (unhide S3).1.2.2.2
 have AT := hide (refAtGain R n nn K (c1 || CC K) cnt sp ⟨by have := unhide lR; omega, by have := unhide lR; omega⟩ (unhide IS) ⟨(unhide HN).1.1, by have := unhide HN; omega⟩ (unhide HK).1 (unhide HN).2.2 TT (unhide IT) w3.heap.size v l hl w4 hu hD l3)
 have S4 : Hid (Mk R w w4 ∧ Blk (w.heap.size + 1) #[.int .i64 0, .int .i64 0, .slice none 0 0] 38 w4 ∧ n0 + 3 ≤ cnt ∧ cnt ≤ n0 + 100003) := ⟨(unhide S3).1.trans hmk, Blk.mk (unhide S3).2.2.2 hmk (by have := unhide lR; omega), q1, by omega⟩
 clear hl hD q1 q2 hu hmk CO S3 l3 y0 y1 y2 y3 y4 y5 y6
 go_wp2_with fail
 refine (unhide AT).mono ?_
 rintro e w5 ⟨a5, p5, rfl, h2, h3, h4, ⟨z, z1, z2, hu5⟩, h6⟩
 have g6 : Grown w5 (w5.alloc (.cells #[.int .i64 n, .int .i64 n, .slice a5 nn p5] 38)) := (Grown.refl _).alloc _ _
 have pb : Blk w5.heap.size #[.int .i64 n, .int .i64 n, .slice a5 nn p5] 38 (w5.alloc (.cells #[.int .i64 n, .int .i64 n, .slice a5 nn p5] 38)) := Blk.new _ _ _
 have x0 : (w5.alloc (.cells #[.int .i64 n, .int .i64 n, .slice a5 nn p5] 38)).cell? ⟨w5.heap.size, 0, none⟩ = some (.int .i64 n) := Blk.cell pb 0
 have x1 : (w5.alloc (.cells #[.int .i64 n, .int .i64 n, .slice a5 nn p5] 38)).cell? ⟨w5.heap.size, 1, none⟩ = some (.int .i64 n) := Blk.cell pb 1
 have x2 : (w5.alloc (.cells #[.int .i64 n, .int .i64 n, .slice a5 nn p5] 38)).cell? ⟨w5.heap.size, 2, none⟩ = some (.slice a5 nn p5) := Blk.cell pb 2
 have SC := hide (refScale_ok R (c1 || CC K || horC TT K sp nn K) z n n sp (unhide IS) a5 nn p5 (horZ TT K sp K) (unhide okm) ⟨by have := unhide S4; have := unhide lR; omega, by have := unhide S4; have := unhide lR; omega⟩ (fun i hi => horZ_I64 TT K sp nn (fun p hp => unhide IT _ p hp) K i hi) _ (Blk.grown hu5 g6) (h3.grown g6) (h4 R (Nat.lt_of_lt_of_le (unhide lR).1 (unhide S4).1.2.2.2)))
 have S6 : Hid (Mk R w (w5.alloc (.cells #[.int .i64 n, .int .i64 n, .slice a5 nn p5] 38)) ∧ Blk (w.heap.size + 1) #[.int .i64 0, .int .i64 0, .slice none 0 0] 38 (w5.alloc (.cells #[.int .i64 n, .int .i64 n, .slice a5 nn p5] 38)) ∧ n0 ≤ z ∧ z ≤ n0 + 200003) := ⟨((unhide S4).1.trans h6).grown g6, Blk.grown (Blk.mk (unhide S4).2.1 h6 (by have := unhide lR; omega)) g6, by have := unhide S4; omega, by have := unhide S4; omega⟩
 clear g6 pb h2 h3 h4 z1 z2 hu5 h6 S4 AT
 go_wp2_with fail
 generalize (w5.alloc (.cells #[.int .i64 n, .int .i64 n, .slice a5 nn p5] 38)) = w6 at *
 refine (unhide SC).mono ?_
 rintro e w7 ⟨a7, c7, rfl, h2, h3, h4, hu7, h7⟩
 have r6 := Blk.mk (unhide S6).2.1 h7 (by have := unhide lR; omega)
 have M7 : Mk R w w7 := (unhide S6).1.trans h7
 have e0 : w7.cell? ⟨w.heap.size + 1, 0, none⟩ = some (.int .i64 0) := Blk.cell r6 0
 have e1 : w7.cell? ⟨w.heap.size + 1, 1, none⟩ = some (.int .i64 0) := Blk.cell r6 1
 have e2 : w7.cell? ⟨w.heap.size + 1, 2, none⟩ = some (.slice none 0 0) := Blk.cell r6 2
 have f := Blk.free r6
 have l5 := Blk.lt (unhide S6).2.1
 have RR := hide (And.intro h2 (And.intro h3 (And.intro (fun U (hU : U < w6.heap.size) => h4 U hU) (And.intro hu7 (And.intro M7 (And.intro r6 (And.intro (unhide lR).1 (And.intro l5 (And.intro (unhide S6).2.2 (unhide HN))))))))))
 clear h2 h3 h4 hu7 h7 r6 M7 SC S6 l5 lR x0 x1 x2
 go_wp2
 obtain ⟨h2, h3, h4, hu7, M7, r6, lU, l5, z12, hN⟩ := unhide RR
 have P := putM r6 (.int .i64 n) (.int .i64 n) (.slice a7 nn c7)
 generalize (((w7.setCell ⟨w.heap.size + 1, 0, none⟩ (.int .i64 n)).setCell ⟨w.heap.size + 1, 1, none⟩ (.int .i64 n)).setCell ⟨w.heap.size + 1, 2, none⟩ (.slice a7 nn c7)) = wE at *
 have c0' : wE.cell? ⟨w.heap.size + 1, 0, none⟩ = some (.int .i64 n) := Blk.cell P.1 0
 have c1' : wE.cell? ⟨w.heap.size + 1, 1, none⟩ = some (.int .i64 n) := Blk.cell P.1 1
 have c2' : wE.cell? ⟨w.heap.size + 1, 2, none⟩ = some (.slice a7 nn c7) := Blk.cell P.1 2
 refine bodyPost_ret (v := .tuple #[.agg #[.int .i64 n, .int .i64 n, .slice a7 nn c7], .int .i64 0]) (by simp [results, Tryz.results18, go_sem, c0', c1', c2']) rfl ?_
 refine ⟨a7, c7, rfl, h2, h3.mk (Mk.of P.2) (h4 _ l5), fun U hU => h4 U (by omega), ⟨z + 2 * nn, by omega, by omega, ?_⟩, M7.new P.2 (by omega)⟩
 rw [← Bool.or_assoc, ← Bool.or_assoc]
 exact Blk.keep hu7 P.2 (by omega)
set_option maxRecDepth 20000 in
set_option maxHeartbeats 4000000 in
theorem refNoise_bad (R : Nat) (c0 : Bool) (n0 : Int) (m : DV) (ticks : Int) (Z : Nat → Int) (er : Int) (w : World) (hm : m.good w) (hb : (rfD m ticks = er ∧ er ≠ 0) ∨ (rfD m ticks = 0 ∧ ticks < 0 ∧ er = 4)) (h : RC R c0 n0 w) :
  Calls Tryz.prog 18 #[.pointer (some ⟨R, 0, none⟩), .agg m.cells, .int .i64 ticks] w fun e w' => DocP 0 0 0 Z er (fun w' => RC R c0 n0 w' ∧ Mk R w w') w e w' := by
 have S0 : Hid (Grown w ((w.alloc (.cells #[.int .i64 m.N, .slice m.A.ao m.A.len m.A.cap, .slice m.Q.ao m.Q.len m.Q.cap, .int .i64 m.tick, .int .i64 m.gate, .int .i64 m.rmin, .slice m.ro m.rl m.rc] 25)).alloc (.cells #[.int .i64 0, .int .i64 0, .slice none 0 0] 38)) ∧ Blk w.heap.size m.cells 25 ((w.alloc (.cells #[.int .i64 m.N, .slice m.A.ao m.A.len m.A.cap, .slice m.Q.ao m.Q.len m.Q.cap, .int .i64 m.tick, .int .i64 m.gate, .int .i64 m.rmin, .slice m.ro m.rl m.rc] 25)).alloc (.cells #[.int .i64 0, .int .i64 0, .slice none 0 0] 38)) ∧ Blk (w.heap.size + 1) #[.int .i64 0, .int .i64 0, .slice none 0 0] 38 ((w.alloc (.cells #[.int .i64 m.N, .slice m.A.ao m.A.len m.A.cap, .slice m.Q.ao m.Q.len m.Q.cap, .int .i64 m.tick, .int .i64 m.gate, .int .i64 m.rmin, .slice m.ro m.rl m.rc] 25)).alloc (.cells #[.int .i64 0, .int .i64 0, .slice none 0 0] 38))) := by
  have g1 : Grown w (w.alloc (.cells m.cells 25)) := (Grown.refl _).alloc _ _
  have s1 : (w.alloc (.cells m.cells 25)).heap.size = w.heap.size + 1 := by simp
  have b1 : Blk w.heap.size m.cells 25 (w.alloc (.cells m.cells 25)) := Blk.new w _ _
  have b2 : Blk (w.alloc (.cells m.cells 25)).heap.size #[.int .i64 0, .int .i64 0, .slice none 0 0] 38 ((w.alloc (.cells m.cells 25)).alloc (.cells #[.int .i64 0, .int .i64 0, .slice none 0 0] 38)) := Blk.new _ _ _
  rw [s1] at b2
  exact ⟨g1.alloc _ _, Blk.grown b1 ((Grown.refl _).alloc _ _), b2⟩
 have RF : Hid (∀ W, Grown w W → Calls Tryz.prog 35 #[.agg #[.int .i64 m.N, .slice m.A.ao m.A.len m.A.cap, .slice m.Q.ao m.Q.len m.Q.cap, .int .i64 m.tick, .int .i64 m.gate, .int .i64 m.rmin, .slice m.ro m.rl m.rc], .int .i64 ticks] W fun e w' => e = .returned (.int .i64 (rfD m ticks)) ∧ Grown W w') := fun W g => refRefuses m ticks W (hm.kp (Kp.of g))
 have lR : Hid (R < w.heap.size) := Blk.lt h
 have HH := hide h
 clear hm h
 obtain ⟨y0, y1, y2, y3, y4, y5, y6⟩ := ((unhide S0).2.1).cellsM
 unfold DV.cells
 rcases hb with ⟨e1, e2⟩ | ⟨e1, e2, rfl⟩
 ·rw [e1] at RF
  have de : (er != 0) = true := by simpa using e2
  clear e1 e2
  go_enter Tryz.func18, Tryz.ntmps18
  go_wp2_with fail
  generalize ((w.alloc (.cells #[.int .i64 m.N, .slice m.A.ao m.A.len m.A.cap, .slice m.Q.ao m.Q.len m.Q.cap, .int .i64 m.tick, .int .i64 m.gate, .int .i64 m.rmin, .slice m.ro m.rl m.rc] 25)).alloc (.cells #[.int .i64 0, .int .i64 0, .slice none 0 0] 38)) = w1 at *
  refine (unhide RF w1 (unhide S0).1).mono ?_
  rintro e w2 ⟨rfl, g2⟩
  have S2 : Hid (Grown w w2 ∧ Blk w.heap.size m.cells 25 w2 ∧ Blk (w.heap.size + 1) #[.int .i64 0, .int .i64 0, .slice none 0 0] 38 w2) := ⟨gtrans (unhide S0).1 g2, Blk.grown (unhide S0).2.1 g2, Blk.grown (unhide S0).2.2 g2⟩
  clear g2 S0 RF y0 y1 y2 y3 y4 y5 y6
  have e0 : w2.cell? ⟨w.heap.size + 1, 0, none⟩ = some (.int .i64 0) := Blk.cell (unhide S2).2.2 0
  have e1 : w2.cell? ⟨w.heap.size + 1, 1, none⟩ = some (.int .i64 0) := Blk.cell (unhide S2).2.2 1
  have e2 : w2.cell? ⟨w.heap.size + 1, 2, none⟩ = some (.slice none 0 0) := Blk.cell (unhide S2).2.2 2
  have f := Blk.free (unhide S2).2.2
  go_wp2
  have P := putM (unhide S2).2.2 (.int .i64 0) (.int .i64 0) (.slice none 0 0)
  generalize (((w2.setCell ⟨w.heap.size + 1, 0, none⟩ (.int .i64 0)).setCell ⟨w.heap.size + 1, 1, none⟩ (.int .i64 0)).setCell ⟨w.heap.size + 1, 2, none⟩ (.slice none 0 0)) = wE at *
  have c0' : wE.cell? ⟨w.heap.size + 1, 0, none⟩ = some (.int .i64 0) := Blk.cell P.1 0
  have c1' : wE.cell? ⟨w.heap.size + 1, 1, none⟩ = some (.int .i64 0) := Blk.cell P.1 1
  have c2' : wE.cell? ⟨w.heap.size + 1, 2, none⟩ = some (.slice none 0 0) := Blk.cell P.1 2
  refine bodyPost_ret (v := .tuple #[.agg #[.int .i64 0, .int .i64 0, .slice none 0 0], .int .i64 er]) (by simp [results, Tryz.results18, go_sem, c0', c1', c2']) rfl ?_
  exact ⟨none, 0, rfl, Nat.le_refl _, Or.inl rfl, fun U _ h0 => absurd h0 (by omega), Blk.keep (Blk.grown (unhide HH) (unhide S2).1) P.2 (by have := unhide lR; omega), (Mk.of (Mod.of (unhide S2).1)).new P.2 (by omega)⟩
 ·rw [e1] at RF
  have d0 : decide (ticks < 0) = true := decide_eq_true e2
  clear e1 e2
  go_enter Tryz.func18, Tryz.ntmps18
  go_wp2_with fail
  generalize ((w.alloc (.cells #[.int .i64 m.N, .slice m.A.ao m.A.len m.A.cap, .slice m.Q.ao m.Q.len m.Q.cap, .int .i64 m.tick, .int .i64 m.gate, .int .i64 m.rmin, .slice m.ro m.rl m.rc] 25)).alloc (.cells #[.int .i64 0, .int .i64 0, .slice none 0 0] 38)) = w1 at *
  refine (unhide RF w1 (unhide S0).1).mono ?_
  rintro e w2 ⟨rfl, g2⟩
  have S2 : Hid (Grown w w2 ∧ Blk w.heap.size m.cells 25 w2 ∧ Blk (w.heap.size + 1) #[.int .i64 0, .int .i64 0, .slice none 0 0] 38 w2) := ⟨gtrans (unhide S0).1 g2, Blk.grown (unhide S0).2.1 g2, Blk.grown (unhide S0).2.2 g2⟩
  clear g2 S0 RF y0 y1 y2 y3 y4 y5 y6
  have e0 : w2.cell? ⟨w.heap.size + 1, 0, none⟩ = some (.int .i64 0) := Blk.cell (unhide S2).2.2 0
  have e1 : w2.cell? ⟨w.heap.size + 1, 1, none⟩ = some (.int .i64 0) := Blk.cell (unhide S2).2.2 1
  have e2 : w2.cell? ⟨w.heap.size + 1, 2, none⟩ = some (.slice none 0 0) := Blk.cell (unhide S2).2.2 2
  have f := Blk.free (unhide S2).2.2
  go_wp2
  have P := putM (unhide S2).2.2 (.int .i64 0) (.int .i64 0) (.slice none 0 0)
  generalize (((w2.setCell ⟨w.heap.size + 1, 0, none⟩ (.int .i64 0)).setCell ⟨w.heap.size + 1, 1, none⟩ (.int .i64 0)).setCell ⟨w.heap.size + 1, 2, none⟩ (.slice none 0 0)) = wE at *
  have c0' : wE.cell? ⟨w.heap.size + 1, 0, none⟩ = some (.int .i64 0) := Blk.cell P.1 0
  have c1' : wE.cell? ⟨w.heap.size + 1, 1, none⟩ = some (.int .i64 0) := Blk.cell P.1 1
  have c2' : wE.cell? ⟨w.heap.size + 1, 2, none⟩ = some (.slice none 0 0) := Blk.cell P.1 2
  refine bodyPost_ret (v := .tuple #[.agg #[.int .i64 0, .int .i64 0, .slice none 0 0], .int .i64 4]) (by simp [results, Tryz.results18, go_sem, c0', c1', c2']) rfl ?_
  exact ⟨none, 0, rfl, Nat.le_refl _, Or.inl rfl, fun U _ h0 => absurd h0 (by omega), Blk.keep (Blk.grown (unhide HH) (unhide S2).1) P.2 (by have := unhide lR; omega), (Mk.of (Mod.of (unhide S2).1)).new P.2 (by omega)⟩
set_option maxRecDepth 20000 in
set_option maxHeartbeats 4000000 in
theorem moFlow_bad (U : Nat) (c0 : Bool) (n0 : Int) (hn0 : 0 ≤ n0 ∧ n0 < 1000000000000000000) (m : DV) (ticks : Int) (Z : Nat → Int) (w : World) (hm : ∀ W, Mk U w W → m.good W) (e0 : rfL m ticks (-1099511627776) ≠ 0) (h : UC U c0 n0 w) :
  Calls Tryz.prog 15 #[.pointer (some ⟨U, 0, none⟩), .agg m.cells, .int .i64 ticks] w fun e w' => ValP 0 0 0 Z (rfL m ticks (-1099511627776)) (fun w' => UC U c0 n0 w' ∧ Mk U w w') w e w' := by
 have S0 : Hid (Grown w ((w.alloc (.cells #[.int .i64 m.N, .slice m.A.ao m.A.len m.A.cap, .slice m.Q.ao m.Q.len m.Q.cap, .int .i64 m.tick, .int .i64 m.gate, .int .i64 m.rmin, .slice m.ro m.rl m.rc] 25)).alloc (.cells #[.int .i64 0, .int .i64 0, .slice none 0 0] 38)) ∧ Blk w.heap.size m.cells 25 ((w.alloc (.cells #[.int .i64 m.N, .slice m.A.ao m.A.len m.A.cap, .slice m.Q.ao m.Q.len m.Q.cap, .int .i64 m.tick, .int .i64 m.gate, .int .i64 m.rmin, .slice m.ro m.rl m.rc] 25)).alloc (.cells #[.int .i64 0, .int .i64 0, .slice none 0 0] 38)) ∧ Blk (w.heap.size + 1) #[.int .i64 0, .int .i64 0, .slice none 0 0] 38 ((w.alloc (.cells #[.int .i64 m.N, .slice m.A.ao m.A.len m.A.cap, .slice m.Q.ao m.Q.len m.Q.cap, .int .i64 m.tick, .int .i64 m.gate, .int .i64 m.rmin, .slice m.ro m.rl m.rc] 25)).alloc (.cells #[.int .i64 0, .int .i64 0, .slice none 0 0] 38))) := ⟨((Grown.refl _).alloc _ _).alloc _ _, Blk.grown (Blk.new w _ _) ((Grown.refl _).alloc _ _), blk_new2 w _ _ _⟩
 have lU : Hid (U < w.heap.size) := Blk.lt h
 have RF : Hid (∀ W, Grown w W → Calls Tryz.prog 33 #[.pointer (some ⟨U, 0, none⟩), .agg #[.int .i64 m.N, .slice m.A.ao m.A.len m.A.cap, .slice m.Q.ao m.Q.len m.Q.cap, .int .i64 m.tick, .int .i64 m.gate, .int .i64 m.rmin, .slice m.ro m.rl m.rc], .int .i64 ticks, .int .i64 (-1099511627776)] W fun e w' => e = .returned (.int .i64 (rfL m ticks (-1099511627776))) ∧ UC U c0 n0 w' ∧ Mk U W w') := fun W g => moRefuse U c0 n0 hn0 m ticks (-1099511627776) W (fun W' k => hm W' ((Mk.kp (Kp.of g)).trans k)) (Blk.grown h g)
 have de : (rfL m ticks (-1099511627776) != 0) = true := by simpa using e0
 clear hm h hn0 e0
 generalize rfL m ticks (-1099511627776) = er at *
 obtain ⟨y0, y1, y2, y3, y4, y5, y6⟩ := (unhide S0).2.1.cellsM
 unfold DV.cells
 go_enter Tryz.func15, Tryz.ntmps15
 go_wp2_with fail
 generalize ((w.alloc (.cells #[.int .i64 m.N, .slice m.A.ao m.A.len m.A.cap, .slice m.Q.ao m.Q.len m.Q.cap, .int .i64 m.tick, .int .i64 m.gate, .int .i64 m.rmin, .slice m.ro m.rl m.rc] 25)).alloc (.cells #[.int .i64 0, .int .i64 0, .slice none 0 0] 38)) = w1 at *
 refine (unhide RF w1 (unhide S0).1).mono ?_
 rintro e w2 ⟨rfl, u2, m2⟩
 have K2 : Hid (UC U c0 n0 w2 ∧ Mk U w w2 ∧ Blk (w.heap.size + 1) #[.int .i64 0, .int .i64 0, .slice none 0 0] 38 w2) := ⟨u2, (Mk.kp (Kp.of (unhide S0).1)).trans m2, Blk.mk (unhide S0).2.2 m2 (by have := unhide lU; omega)⟩
 clear u2 m2 S0 RF y0 y1 y2 y3 y4 y5 y6
 have e0 : w2.cell? ⟨w.heap.size + 1, 0, none⟩ = some (.int .i64 0) := Blk.cell (unhide K2).2.2 0
 have e1 : w2.cell? ⟨w.heap.size + 1, 1, none⟩ = some (.int .i64 0) := Blk.cell (unhide K2).2.2 1
 have e2 : w2.cell? ⟨w.heap.size + 1, 2, none⟩ = some (.slice none 0 0) := Blk.cell (unhide K2).2.2 2
 have f := Blk.free (unhide K2).2.2
 go_wp2
 have P := putM (unhide K2).2.2 (.int .i64 0) (.int .i64 0) (.slice none 0 0)
 generalize (((w2.setCell ⟨w.heap.size + 1, 0, none⟩ (.int .i64 0)).setCell ⟨w.heap.size + 1, 1, none⟩ (.int .i64 0)).setCell ⟨w.heap.size + 1, 2, none⟩ (.slice none 0 0)) = wE at *
 have c0' : wE.cell? ⟨w.heap.size + 1, 0, none⟩ = some (.int .i64 0) := Blk.cell P.1 0
 have c1' : wE.cell? ⟨w.heap.size + 1, 1, none⟩ = some (.int .i64 0) := Blk.cell P.1 1
 have c2' : wE.cell? ⟨w.heap.size + 1, 2, none⟩ = some (.slice none 0 0) := Blk.cell P.1 2
 refine bodyPost_ret (v := .tuple #[.agg #[.int .i64 0, .int .i64 0, .slice none 0 0], .int .i64 er]) (by simp [results, Tryz.results15, go_sem, c0', c1', c2']) rfl ?_
 exact ⟨none, 0, w.heap.size, rfl, Nat.le_refl _, Nat.le_refl _, Or.inl rfl, Blk.keep (unhide K2).1 P.2 (by have := unhide lU; omega), (unhide K2).2.1.new P.2 (by omega)⟩
set_option maxRecDepth 20000 in
set_option maxHeartbeats 4000000 in
theorem moNoise_bad (U : Nat) (c0 : Bool) (n0 : Int) (hn0 : 0 ≤ n0 ∧ n0 < 1000000000000000000) (m : DV) (ticks : Int) (Z : Nat → Int) (w : World) (hm : ∀ W, Mk U w W → m.good W) (e0 : rfL m ticks 0 ≠ 0) (h : UC U c0 n0 w) :
  Calls Tryz.prog 17 #[.pointer (some ⟨U, 0, none⟩), .agg m.cells, .int .i64 ticks] w fun e w' => ValP 0 0 0 Z (rfL m ticks 0) (fun w' => UC U c0 n0 w' ∧ Mk U w w') w e w' := by
 have S0 : Hid (Grown w ((w.alloc (.cells #[.int .i64 m.N, .slice m.A.ao m.A.len m.A.cap, .slice m.Q.ao m.Q.len m.Q.cap, .int .i64 m.tick, .int .i64 m.gate, .int .i64 m.rmin, .slice m.ro m.rl m.rc] 25)).alloc (.cells #[.int .i64 0, .int .i64 0, .slice none 0 0] 38)) ∧ Blk w.heap.size m.cells 25 ((w.alloc (.cells #[.int .i64 m.N, .slice m.A.ao m.A.len m.A.cap, .slice m.Q.ao m.Q.len m.Q.cap, .int .i64 m.tick, .int .i64 m.gate, .int .i64 m.rmin, .slice m.ro m.rl m.rc] 25)).alloc (.cells #[.int .i64 0, .int .i64 0, .slice none 0 0] 38)) ∧ Blk (w.heap.size + 1) #[.int .i64 0, .int .i64 0, .slice none 0 0] 38 ((w.alloc (.cells #[.int .i64 m.N, .slice m.A.ao m.A.len m.A.cap, .slice m.Q.ao m.Q.len m.Q.cap, .int .i64 m.tick, .int .i64 m.gate, .int .i64 m.rmin, .slice m.ro m.rl m.rc] 25)).alloc (.cells #[.int .i64 0, .int .i64 0, .slice none 0 0] 38))) := ⟨((Grown.refl _).alloc _ _).alloc _ _, Blk.grown (Blk.new w _ _) ((Grown.refl _).alloc _ _), blk_new2 w _ _ _⟩
 have lU : Hid (U < w.heap.size) := Blk.lt h
 have RF : Hid (∀ W, Grown w W → Calls Tryz.prog 33 #[.pointer (some ⟨U, 0, none⟩), .agg #[.int .i64 m.N, .slice m.A.ao m.A.len m.A.cap, .slice m.Q.ao m.Q.len m.Q.cap, .int .i64 m.tick, .int .i64 m.gate, .int .i64 m.rmin, .slice m.ro m.rl m.rc], .int .i64 ticks, .int .i64 0] W fun e w' => e = .returned (.int .i64 (rfL m ticks 0)) ∧ UC U c0 n0 w' ∧ Mk U W w') := fun W g => moRefuse U c0 n0 hn0 m ticks 0 W (fun W' k => hm W' ((Mk.kp (Kp.of g)).trans k)) (Blk.grown h g)
 have de : (rfL m ticks 0 != 0) = true := by simpa using e0
 clear hm h hn0 e0
 generalize rfL m ticks 0 = er at *
 obtain ⟨y0, y1, y2, y3, y4, y5, y6⟩ := (unhide S0).2.1.cellsM
 unfold DV.cells
 go_enter Tryz.func17, Tryz.ntmps17
 go_wp2_with fail
 generalize ((w.alloc (.cells #[.int .i64 m.N, .slice m.A.ao m.A.len m.A.cap, .slice m.Q.ao m.Q.len m.Q.cap, .int .i64 m.tick, .int .i64 m.gate, .int .i64 m.rmin, .slice m.ro m.rl m.rc] 25)).alloc (.cells #[.int .i64 0, .int .i64 0, .slice none 0 0] 38)) = w1 at *
 refine (unhide RF w1 (unhide S0).1).mono ?_
 rintro e w2 ⟨rfl, u2, m2⟩
 have K2 : Hid (UC U c0 n0 w2 ∧ Mk U w w2 ∧ Blk (w.heap.size + 1) #[.int .i64 0, .int .i64 0, .slice none 0 0] 38 w2) := ⟨u2, (Mk.kp (Kp.of (unhide S0).1)).trans m2, Blk.mk (unhide S0).2.2 m2 (by have := unhide lU; omega)⟩
 clear u2 m2 S0 RF y0 y1 y2 y3 y4 y5 y6
 have e0 : w2.cell? ⟨w.heap.size + 1, 0, none⟩ = some (.int .i64 0) := Blk.cell (unhide K2).2.2 0
 have e1 : w2.cell? ⟨w.heap.size + 1, 1, none⟩ = some (.int .i64 0) := Blk.cell (unhide K2).2.2 1
 have e2 : w2.cell? ⟨w.heap.size + 1, 2, none⟩ = some (.slice none 0 0) := Blk.cell (unhide K2).2.2 2
 have f := Blk.free (unhide K2).2.2
 go_wp2
 have P := putM (unhide K2).2.2 (.int .i64 0) (.int .i64 0) (.slice none 0 0)
 generalize (((w2.setCell ⟨w.heap.size + 1, 0, none⟩ (.int .i64 0)).setCell ⟨w.heap.size + 1, 1, none⟩ (.int .i64 0)).setCell ⟨w.heap.size + 1, 2, none⟩ (.slice none 0 0)) = wE at *
 have c0' : wE.cell? ⟨w.heap.size + 1, 0, none⟩ = some (.int .i64 0) := Blk.cell P.1 0
 have c1' : wE.cell? ⟨w.heap.size + 1, 1, none⟩ = some (.int .i64 0) := Blk.cell P.1 1
 have c2' : wE.cell? ⟨w.heap.size + 1, 2, none⟩ = some (.slice none 0 0) := Blk.cell P.1 2
 refine bodyPost_ret (v := .tuple #[.agg #[.int .i64 0, .int .i64 0, .slice none 0 0], .int .i64 er]) (by simp [results, Tryz.results17, go_sem, c0', c1', c2']) rfl ?_
 exact ⟨none, 0, w.heap.size, rfl, Nat.le_refl _, Nat.le_refl _, Or.inl rfl, Blk.keep (unhide K2).1 P.2 (by have := unhide lU; omega), (unhide K2).2.1.new P.2 (by omega)⟩
set_option maxRecDepth 20000 in
set_option maxHeartbeats 8000000 in
theorem moFlow_ok (U : Nat) (c0 : Bool) (n0 : Int) (hn0 : 0 ≤ n0 ∧ n0 < 10000000000000000) (m : DV) (n : Nat) (eN : m.N = n) (ticks : Int) (hI : I64 ticks) (w : World) (hm : ∀ W, Mk U w W → m.good W) (oa : Off U m.A.len m.A.ao) (e0 : rfL m ticks (-1099511627776) = 0) (h : UC U c0 n0 w) :
  Calls Tryz.prog 15 #[.pointer (some ⟨U, 0, none⟩), .agg m.cells, .int .i64 ticks] w fun e w' => ValP n n (n * n) (flowZ m.A.Z n (spanZ ticks m.tick)) 0 (fun w' => UW U (c0 || spanC ticks m.tick || flowC m.A.Z n (spanZ ticks m.tick)) n0 300000 w' ∧ Mk U w w') w e w' := by
 obtain ⟨nn, hnn⟩ : ∃ nn, n * n = nn := ⟨_, rfl⟩
 have hok := (rfL_ok e0).1
 have hg := hm w (Mk.refl _ _)
 obtain ⟨n', e', hn, hal, hql, hnn2, hup⟩ := okD_nat hok
 obtain rfl : n' = n := Int.ofNat.inj (e'.symm.trans eN)
 rw [hnn] at hal hnn2
 obtain ⟨ab, ao, ea, za⟩ := hg.1.1.some (by omega)
 have hcap : nn ≤ m.A.cap := by have := hg.1.2.1.1; omega
 have IA : ∀ j, j < nn → I64 (m.A.Z j) := fun j hj => hg.1.2.2 j (by omega)
 have hT : I64 m.tick := hg.2.2.2.2.2.1.2.1
 have abU : ab ≠ U := oa (by omega) _ ea
 have HN : Hid ((1 ≤ n' ∧ n' ≤ 6) ∧ n' * n' = nn ∧ (1 ≤ nn ∧ nn ≤ 36)) := ⟨hn, hnn, hnn2⟩
 have S0 : Hid (Grown w ((w.alloc (.cells #[.int .i64 m.N, .slice m.A.ao m.A.len m.A.cap, .slice m.Q.ao m.Q.len m.Q.cap, .int .i64 m.tick, .int .i64 m.gate, .int .i64 m.rmin, .slice m.ro m.rl m.rc] 25)).alloc (.cells #[.int .i64 0, .int .i64 0, .slice none 0 0] 38)) ∧ Blk w.heap.size m.cells 25 ((w.alloc (.cells #[.int .i64 m.N, .slice m.A.ao m.A.len m.A.cap, .slice m.Q.ao m.Q.len m.Q.cap, .int .i64 m.tick, .int .i64 m.gate, .int .i64 m.rmin, .slice m.ro m.rl m.rc] 25)).alloc (.cells #[.int .i64 0, .int .i64 0, .slice none 0 0] 38)) ∧ Blk (w.heap.size + 1) #[.int .i64 0, .int .i64 0, .slice none 0 0] 38 ((w.alloc (.cells #[.int .i64 m.N, .slice m.A.ao m.A.len m.A.cap, .slice m.Q.ao m.Q.len m.Q.cap, .int .i64 m.tick, .int .i64 m.gate, .int .i64 m.rmin, .slice m.ro m.rl m.rc] 25)).alloc (.cells #[.int .i64 0, .int .i64 0, .slice none 0 0] 38))) := ⟨((Grown.refl _).alloc _ _).alloc _ _, Blk.grown (Blk.new w _ _) ((Grown.refl _).alloc _ _), blk_new2 w _ _ _⟩
 have lU : Hid (U < w.heap.size ∧ 0 ≤ n0 ∧ n0 < 10000000000000000) := ⟨Blk.lt h, hn0⟩
 have RF : Hid (∀ W, Grown w W → Calls Tryz.prog 33 #[.pointer (some ⟨U, 0, none⟩), .agg #[.int .i64 m.N, .slice m.A.ao m.A.len m.A.cap, .slice m.Q.ao m.Q.len m.Q.cap, .int .i64 m.tick, .int .i64 m.gate, .int .i64 m.rmin, .slice m.ro m.rl m.rc], .int .i64 ticks, .int .i64 (-1099511627776)] W fun e w' => e = .returned (.int .i64 0) ∧ UC U c0 n0 w' ∧ Mk U W w') := fun W g => by
  have := moRefuse U c0 n0 ⟨by omega, by omega⟩ m ticks (-1099511627776) W (fun W' k => hm W' ((Mk.kp (Kp.of g)).trans k)) (Blk.grown h g)
  rwa [e0] at this
 have eM : (#[.int .i64 m.N, .slice m.A.ao m.A.len m.A.cap, .slice m.Q.ao m.Q.len m.Q.cap, .int .i64 m.tick, .int .i64 m.gate, .int .i64 m.rmin, .slice m.ro m.rl m.rc] : Array Value) = #[.int .i64 n', .slice (some ⟨ab, ao, none⟩) nn m.A.cap, .slice m.Q.ao m.Q.len m.Q.cap, .int .i64 m.tick, .int .i64 m.gate, .int .i64 m.rmin, .slice m.ro m.rl m.rc] := by rw [eN, ea, hal]
 have MV : Hid (∀ W, Mk U w W → Calls Tryz.prog 39 #[.agg #[.int .i64 m.N, .slice m.A.ao m.A.len m.A.cap, .slice m.Q.ao m.Q.len m.Q.cap, .int .i64 m.tick, .int .i64 m.gate, .int .i64 m.rmin, .slice m.ro m.rl m.rc]] W fun e w' => MovesP n' nn m.A.Z W e w') := fun W k => by
  rw [eM]
  exact moMoves_raw n' nn ab ao m.A.cap m.Q.len m.Q.cap m.rl m.rc m.Q.ao m.ro m.tick m.gate m.rmin m.A.Z hn hnn hcap W (fun i hi => k.cell (za i (by omega)) abU)
 have SP : Hid (∀ W, UC U c0 n0 W → Calls Tryz.prog 34 #[.pointer (some ⟨U, 0, none⟩), .agg #[.int .i64 m.N, .slice m.A.ao m.A.len m.A.cap, .slice m.Q.ao m.Q.len m.Q.cap, .int .i64 m.tick, .int .i64 m.gate, .int .i64 m.rmin, .slice m.ro m.rl m.rc], .int .i64 ticks] W fun e w' => e = .returned (.int .i64 (spanZ ticks m.tick)) ∧ UC U (c0 || spanC ticks m.tick) (n0 + 3) w' ∧ Mod U W w') := fun W u => moSpan U c0 n0 ⟨by omega, by omega⟩ m ticks hI hT W u
 have FL : Hid (∀ W B cp, UC U (c0 || spanC ticks m.tick) (n0 + 3) W → nn ≤ cp → Own B nn m.A.Z W → B ≠ U → Calls Tryz.prog 38 #[.pointer (some ⟨U, 0, none⟩), .agg #[.int .i64 n', .int .i64 n', .slice (some ⟨B, 0, none⟩) nn cp], .int .i64 (spanZ ticks m.tick)] W fun e w' => ValP n' n' nn (flowZ m.A.Z n' (spanZ ticks m.tick)) 0 (fun w' => UW U (c0 || spanC ticks m.tick || flowC m.A.Z n' (spanZ ticks m.tick)) (n0 + 3) 200000 w' ∧ Mk U W w') W e w') := fun W B cp u hcp own hB => by
  have := polyFlow_ok U n' B 0 cp (c0 || spanC ticks m.tick) (n0 + 3) (spanZ ticks m.tick) (spanZ_I64 _ _) ⟨by omega, by omega⟩ m.A.Z ⟨hn.1, by omega⟩ (by rw [hnn]; exact hcp) (by rw [hnn]; exact IA) hup W u (by rw [hnn]; exact fun j hj => by rw [Nat.zero_add]; exact own.cellAt j hj) hB
  rwa [hnn] at this
 rw [hnn]
 clear hm oa e0 h hn0 hI hok hg e' hn hal hql hnn2 hup za ea hcap IA hT abU eM eN hnn
 generalize n' = n at *
 generalize spanZ ticks m.tick = sp at *
 generalize (c0 || spanC ticks m.tick) = c1 at *
 generalize flowZ m.A.Z n sp = FZ at *
 generalize flowC m.A.Z n sp = FC at *
 generalize hAZ : m.A.Z = AZ at *
 clear hAZ
 obtain ⟨y0, y1, y2, y3, y4, y5, y6⟩ := (unhide S0).2.1.cellsM
 unfold DV.cells
 go_enter Tryz.func15, Tryz.ntmps15
 go_wp2_with fail
 generalize ((w.alloc (.cells #[.int .i64 m.N, .slice m.A.ao m.A.len m.A.cap, .slice m.Q.ao m.Q.len m.Q.cap, .int .i64 m.tick, .int .i64 m.gate, .int .i64 m.rmin, .slice m.ro m.rl m.rc] 25)).alloc (.cells #[.int .i64 0, .int .i64 0, .slice none 0 0] 38)) = w1 at *
 refine (unhide RF w1 (unhide S0).1).mono ?_
 rintro e w2 ⟨rfl, u2, m2⟩
 have lw := (unhide lU).1
 have S2 : Hid (UC U c0 n0 w2.drew ∧ Mk U w w2.drew ∧ Blk w.heap.size m.cells 25 w2.drew ∧ Blk (w.heap.size + 1) #[.int .i64 0, .int .i64 0, .slice none 0 0] 38 w2.drew) := ⟨u2, ((Mk.kp (Kp.of (unhide S0).1)).trans m2).trans (Mk.kp (Kp.of ((Grown.refl _).drew))), Blk.mk (unhide S0).2.1 m2 (by omega), Blk.mk (unhide S0).2.2 m2 (by omega)⟩
 clear u2 m2 S0 RF y0 y1 y2 y3 y4 y5 y6 lw
 have hHeld0 : w2.drew.cell? ⟨w.heap.size, 0, none⟩ = some (.int .i64 m.N) ∧ w2.drew.cell? ⟨w.heap.size, 1, none⟩ = some (.slice m.A.ao m.A.len m.A.cap) ∧ w2.drew.cell? ⟨w.heap.size, 2, none⟩ = some (.slice m.Q.ao m.Q.len m.Q.cap) ∧ w2.drew.cell? ⟨w.heap.size, 3, none⟩ = some (.int .i64 m.tick) ∧ w2.drew.cell? ⟨w.heap.size, 4, none⟩ = some (.int .i64 m.gate) ∧ w2.drew.cell? ⟨w.heap.size, 5, none⟩ = some (.int .i64 m.rmin) ∧ w2.drew.cell? ⟨w.heap.size, 6, none⟩ = some (.slice m.ro m.rl m.rc) := (unhide S2).2.2.1.cellsM
 go_wp2_with fail
 refine region_G (fun w' => w'.cell? ⟨w.heap.size, 0, none⟩ = some (.int .i64 m.N) ∧ w'.cell? ⟨w.heap.size, 1, none⟩ = some (.slice m.A.ao m.A.len m.A.cap) ∧ w'.cell? ⟨w.heap.size, 2, none⟩ = some (.slice m.Q.ao m.Q.len m.Q.cap) ∧ w'.cell? ⟨w.heap.size, 3, none⟩ = some (.int .i64 m.tick) ∧ w'.cell? ⟨w.heap.size, 4, none⟩ = some (.int .i64 m.gate) ∧ w'.cell? ⟨w.heap.size, 5, none⟩ = some (.int .i64 m.rmin) ∧ w'.cell? ⟨w.heap.size, 6, none⟩ = some (.slice m.ro m.rl m.rc)) 11 (by kernel_rfl) hHeld0 (fun hHeld => ?_)
 clear hHeld0
 refine take_G (i := 0) (d := 17) (v := .pointer (some ⟨U, 0, none⟩)) rfl rfl (by kernel_rfl) (by kernel_rfl) (by kernel_rfl) (by kernel_rfl) (by kernel_rfl) (Or.inl ⟨by rfl, ?_⟩) hHeld ?_
 ·intro wS hSw
  obtain ⟨z0, z1, z2, z3, z4, z5, z6⟩ := hSw
  clear hHeld
  go_simp
 (try simp only [Act.put, List.setIfInBounds_toArray, List.set_cons_zero, List.set_cons_succ])
 refine take_G (i := 1) (d := 18) (v := .agg #[.int .i64 m.N, .slice m.A.ao m.A.len m.A.cap, .slice m.Q.ao m.Q.len m.Q.cap, .int .i64 m.tick, .int .i64 m.gate, .int .i64 m.rmin, .slice m.ro m.rl m.rc]) rfl rfl (by kernel_rfl) (by kernel_rfl) (by kernel_rfl) (by kernel_rfl) (by kernel_rfl) (Or.inl ⟨by rfl, ?_⟩) hHeld ?_
 ·intro wS hSw
  obtain ⟨z0, z1, z2, z3, z4, z5, z6⟩ := hSw
  clear hHeld
  go_simp
 (try simp only [Act.put, List.setIfInBounds_toArray, List.set_cons_zero, List.set_cons_succ])
 refine take_G (i := 3) (d := 20) (v := .pointer (some ⟨U, 0, none⟩)) rfl rfl (by kernel_rfl) (by kernel_rfl) (by kernel_rfl) (by kernel_rfl) (by kernel_rfl) (Or.inl ⟨by rfl, ?_⟩) hHeld ?_
 ·intro wS hSw
  obtain ⟨z0, z1, z2, z3, z4, z5, z6⟩ := hSw
  clear hHeld
  go_simp
 (try simp only [Act.put, List.setIfInBounds_toArray, List.set_cons_zero, List.set_cons_succ])
 refine take_G (i := 4) (d := 21) (v := .agg #[.int .i64 m.N, .slice m.A.ao m.A.len m.A.cap, .slice m.Q.ao m.Q.len m.Q.cap, .int .i64 m.tick, .int .i64 m.gate, .int .i64 m.rmin, .slice m.ro m.rl m.rc]) rfl rfl (by kernel_rfl) (by kernel_rfl) (by kernel_rfl) (by kernel_rfl) (by kernel_rfl) (Or.inl ⟨by rfl, ?_⟩) hHeld ?_
 ·intro wS hSw
  obtain ⟨z0, z1, z2, z3, z4, z5, z6⟩ := hSw
  clear hHeld
  go_simp
 (try simp only [Act.put, List.setIfInBounds_toArray, List.set_cons_zero, List.set_cons_succ])
 refine take_G (i := 5) (d := 22) (v := .int .i64 ticks) rfl rfl (by kernel_rfl) (by kernel_rfl) (by kernel_rfl) (by kernel_rfl) (by kernel_rfl) (Or.inl ⟨by rfl, ?_⟩) hHeld ?_
 ·intro wS hSw
  obtain ⟨z0, z1, z2, z3, z4, z5, z6⟩ := hSw
  clear hHeld
  go_simp
 (try simp only [Act.put, List.setIfInBounds_toArray, List.set_cons_zero, List.set_cons_succ])
 refine step_G (i := 2) (by kernel_rfl) (fun K hK => ?_)
 refine wpOp_of rfl rfl ?_
 unfold Oper.wp
 go_simp
 refine (unhide MV w2.drew (unhide S2).2.1).mono ?_
 rintro e w3 ⟨B, cp, rfl, hcp, hB, own, k3⟩
 have S3 : Hid (UC U c0 n0 w3 ∧ Mk U w w3 ∧ Blk w.heap.size m.cells 25 w3 ∧ Blk (w.heap.size + 1) #[.int .i64 0, .int .i64 0, .slice none 0 0] 38 w3 ∧ nn ≤ cp ∧ Own B nn AZ w3 ∧ w.heap.size ≤ B) := ⟨Blk.kp (unhide S2).1 k3, (unhide S2).2.1.trans (Mk.kp k3), Blk.kp (unhide S2).2.2.1 k3, Blk.kp (unhide S2).2.2.2 k3, hcp, own, Nat.le_trans (unhide S2).2.1.2.2.2 hB⟩
 have hHeld3 : w3.cell? ⟨w.heap.size, 0, none⟩ = some (.int .i64 m.N) ∧ w3.cell? ⟨w.heap.size, 1, none⟩ = some (.slice m.A.ao m.A.len m.A.cap) ∧ w3.cell? ⟨w.heap.size, 2, none⟩ = some (.slice m.Q.ao m.Q.len m.Q.cap) ∧ w3.cell? ⟨w.heap.size, 3, none⟩ = some (.int .i64 m.tick) ∧ w3.cell? ⟨w.heap.size, 4, none⟩ = some (.int .i64 m.gate) ∧ w3.cell? ⟨w.heap.size, 5, none⟩ = some (.int .i64 m.rmin) ∧ w3.cell? ⟨w.heap.size, 6, none⟩ = some (.slice m.ro m.rl m.rc) := (unhide S3).2.2.1.cellsM
 refine hK _ _ (fun _ => hHeld3) ?_
 clear hK K hcp hB own k3 S2 MV hHeld
 (try simp only [Act.put, List.setIfInBounds_toArray, List.set_cons_zero, List.set_cons_succ])
 refine step_G (i := 6) (by kernel_rfl) (fun K hK => ?_)
 refine wpOp_of rfl rfl ?_
 unfold Oper.wp
 go_simp
 refine (unhide SP w3 (unhide S3).1).mono ?_
 rintro e w4 ⟨rfl, u4, m4⟩
 have lw := (unhide lU).1
 have S4 : Hid (UC U c1 (n0 + 3) w4 ∧ Mk U w w4 ∧ Blk w.heap.size m.cells 25 w4 ∧ Blk (w.heap.size + 1) #[.int .i64 0, .int .i64 0, .slice none 0 0] 38 w4 ∧ nn ≤ cp ∧ Own B nn AZ w4 ∧ w.heap.size ≤ B) := by
  obtain ⟨s1, s2, s3, s4, s5, s6, s7⟩ := unhide S3
  exact ⟨u4, s2.trans (Mk.of m4), Blk.keep s3 m4 (by omega), Blk.keep s4 m4 (by omega), s5, s6.mk (Mk.of m4) (by omega), s7⟩
 have hHeld4 : w4.cell? ⟨w.heap.size, 0, none⟩ = some (.int .i64 m.N) ∧ w4.cell? ⟨w.heap.size, 1, none⟩ = some (.slice m.A.ao m.A.len m.A.cap) ∧ w4.cell? ⟨w.heap.size, 2, none⟩ = some (.slice m.Q.ao m.Q.len m.Q.cap) ∧ w4.cell? ⟨w.heap.size, 3, none⟩ = some (.int .i64 m.tick) ∧ w4.cell? ⟨w.heap.size, 4, none⟩ = some (.int .i64 m.gate) ∧ w4.cell? ⟨w.heap.size, 5, none⟩ = some (.int .i64 m.rmin) ∧ w4.cell? ⟨w.heap.size, 6, none⟩ = some (.slice m.ro m.rl m.rc) := (unhide S4).2.2.1.cellsM
 refine hK _ _ (fun _ => hHeld4) ?_
 clear hK K u4 m4 S3 SP hHeld3
 (try simp only [Act.put, List.setIfInBounds_toArray, List.set_cons_zero, List.set_cons_succ])
 refine step_G (i := 7) (by kernel_rfl) (fun K hK => ?_)
 refine wpOp_of rfl rfl ?_
 unfold Oper.wp
 go_simp
 refine (unhide FL w4 B cp (unhide S4).1 (unhide S4).2.2.2.2.1 (unhide S4).2.2.2.2.2.1 (by have := (unhide S4).2.2.2.2.2.2; omega)).mono ?_
 rintro e w6 ⟨a6, c6, B6, rfl, h2, h3, h4, hu6, m6⟩
 have S6 : Hid (UW U (c1 || FC) (n0 + 3) 200000 w6 ∧ Mk U w w6 ∧ Blk w.heap.size m.cells 25 w6 ∧ Blk (w.heap.size + 1) #[.int .i64 0, .int .i64 0, .slice none 0 0] 38 w6 ∧ nn ≤ c6 ∧ w.heap.size + 1 < B6 ∧ (nn = 0 ∨ (a6 = some ⟨B6, 0, none⟩ ∧ Own B6 nn FZ w6))) := by
  obtain ⟨s1, s2, s3, s4, s5, s6, s7⟩ := unhide S4
  have l4 := Blk.lt s4
  exact ⟨hu6, s2.trans m6, Blk.mk s3 m6 (by omega), Blk.mk s4 m6 (by omega), h2, by omega, h4⟩
 have hHeld : w6.cell? ⟨w.heap.size, 0, none⟩ = some (.int .i64 m.N) ∧ w6.cell? ⟨w.heap.size, 1, none⟩ = some (.slice m.A.ao m.A.len m.A.cap) ∧ w6.cell? ⟨w.heap.size, 2, none⟩ = some (.slice m.Q.ao m.Q.len m.Q.cap) ∧ w6.cell? ⟨w.heap.size, 3, none⟩ = some (.int .i64 m.tick) ∧ w6.cell? ⟨w.heap.size, 4, none⟩ = some (.int .i64 m.gate) ∧ w6.cell? ⟨w.heap.size, 5, none⟩ = some (.int .i64 m.rmin) ∧ w6.cell? ⟨w.heap.size, 6, none⟩ = some (.slice m.ro m.rl m.rc) := (unhide S6).2.2.1.cellsM
 refine hK _ _ (fun _ => hHeld) ?_
 clear hK K h2 h3 h4 hu6 m6 S4 FL hHeld4 lw
 (try simp only [Act.put, List.setIfInBounds_toArray, List.set_cons_zero, List.set_cons_succ])
 refine take_G (i := 8) (d := 25) (v := .agg #[.int .i64 n, .int .i64 n, .slice a6 nn c6]) rfl rfl (by kernel_rfl) (by kernel_rfl) (by kernel_rfl) (by kernel_rfl) (by kernel_rfl) (Or.inl ⟨by rfl, ?_⟩) hHeld ?_
 ·intro wS hSw
  obtain ⟨z0, z1, z2, z3, z4, z5, z6⟩ := hSw
  clear hHeld
  go_simp
 (try simp only [Act.put, List.setIfInBounds_toArray, List.set_cons_zero, List.set_cons_succ])
 refine take_G (i := 9) (d := 26) (v := .int .i64 0) rfl rfl (by kernel_rfl) (by kernel_rfl) (by kernel_rfl) (by kernel_rfl) (by kernel_rfl) (Or.inl ⟨by rfl, ?_⟩) hHeld ?_
 ·intro wS hSw
  obtain ⟨z0, z1, z2, z3, z4, z5, z6⟩ := hSw
  clear hHeld
  go_simp
 (try simp only [Act.put, List.setIfInBounds_toArray, List.set_cons_zero, List.set_cons_succ])
 have r0 : w6.cell? ⟨w.heap.size + 1, 0, none⟩ = some (.int .i64 0) := Blk.cell (unhide S6).2.2.2.1 0
 have r1 : w6.cell? ⟨w.heap.size + 1, 1, none⟩ = some (.int .i64 0) := Blk.cell (unhide S6).2.2.2.1 1
 have r2 : w6.cell? ⟨w.heap.size + 1, 2, none⟩ = some (.slice none 0 0) := Blk.cell (unhide S6).2.2.2.1 2
 have f := Blk.free (unhide S6).2.2.2.1
 have lr := Blk.lt (unhide S6).2.2.2.1
 refine step_G (i := 10) (by kernel_rfl) (fun K hK => ?_)
 refine wpOp_of rfl rfl ?_
 unfold Oper.wp
 go_simp
 have PM := hide (putM (unhide S6).2.2.2.1 (.int .i64 n) (.int .i64 n) (.slice a6 nn c6))
 have hHeldE : (((w6.setCell ⟨w.heap.size + 1, 0, none⟩ (.int .i64 n)).setCell ⟨w.heap.size + 1, 1, none⟩ (.int .i64 n)).setCell ⟨w.heap.size + 1, 2, none⟩ (.slice a6 nn c6)).cell? ⟨w.heap.size, 0, none⟩ = some (.int .i64 m.N) ∧ (((w6.setCell ⟨w.heap.size + 1, 0, none⟩ (.int .i64 n)).setCell ⟨w.heap.size + 1, 1, none⟩ (.int .i64 n)).setCell ⟨w.heap.size + 1, 2, none⟩ (.slice a6 nn c6)).cell? ⟨w.heap.size, 1, none⟩ = some (.slice m.A.ao m.A.len m.A.cap) ∧ (((w6.setCell ⟨w.heap.size + 1, 0, none⟩ (.int .i64 n)).setCell ⟨w.heap.size + 1, 1, none⟩ (.int .i64 n)).setCell ⟨w.heap.size + 1, 2, none⟩ (.slice a6 nn c6)).cell? ⟨w.heap.size, 2, none⟩ = some (.slice m.Q.ao m.Q.len m.Q.cap) ∧ (((w6.setCell ⟨w.heap.size + 1, 0, none⟩ (.int .i64 n)).setCell ⟨w.heap.size + 1, 1, none⟩ (.int .i64 n)).setCell ⟨w.heap.size + 1, 2, none⟩ (.slice a6 nn c6)).cell? ⟨w.heap.size, 3, none⟩ = some (.int .i64 m.tick) ∧ (((w6.setCell ⟨w.heap.size + 1, 0, none⟩ (.int .i64 n)).setCell ⟨w.heap.size + 1, 1, none⟩ (.int .i64 n)).setCell ⟨w.heap.size + 1, 2, none⟩ (.slice a6 nn c6)).cell? ⟨w.heap.size, 4, none⟩ = some (.int .i64 m.gate) ∧ (((w6.setCell ⟨w.heap.size + 1, 0, none⟩ (.int .i64 n)).setCell ⟨w.heap.size + 1, 1, none⟩ (.int .i64 n)).setCell ⟨w.heap.size + 1, 2, none⟩ (.slice a6 nn c6)).cell? ⟨w.heap.size, 5, none⟩ = some (.int .i64 m.rmin) ∧ (((w6.setCell ⟨w.heap.size + 1, 0, none⟩ (.int .i64 n)).setCell ⟨w.heap.size + 1, 1, none⟩ (.int .i64 n)).setCell ⟨w.heap.size + 1, 2, none⟩ (.slice a6 nn c6)).cell? ⟨w.heap.size, 6, none⟩ = some (.slice m.ro m.rl m.rc) := (Blk.keep (unhide S6).2.2.1 (unhide PM).2 (by omega)).cellsM
 generalize (((w6.setCell ⟨w.heap.size + 1, 0, none⟩ (.int .i64 n)).setCell ⟨w.heap.size + 1, 1, none⟩ (.int .i64 n)).setCell ⟨w.heap.size + 1, 2, none⟩ (.slice a6 nn c6)) = wE at *
 refine hK _ _ (fun _ => hHeldE) ?_
 clear hK K hHeld hHeldE r0 r1 r2 f
 (try simp only [Act.put, List.setIfInBounds_toArray, List.set_cons_zero, List.set_cons_succ])
 refine step_G (i := 11) (by kernel_rfl) (fun K hK => ?_)
 refine wpOp_of rfl rfl ?_
 unfold Oper.wp
 go_simp
 refine hK _ _ (fun h => absurd rfl h) ?_
 clear hK K
 (try simp only [Act.put, List.setIfInBounds_toArray, List.set_cons_zero, List.set_cons_succ])
 refine done_G (by kernel_rfl) ?_
 refine noPanic_normalE ?_
 go_wp2
 have P := unhide PM
 have c0' : wE.cell? ⟨w.heap.size + 1, 0, none⟩ = some (.int .i64 n) := Blk.cell P.1 0
 have c1' : wE.cell? ⟨w.heap.size + 1, 1, none⟩ = some (.int .i64 n) := Blk.cell P.1 1
 have c2' : wE.cell? ⟨w.heap.size + 1, 2, none⟩ = some (.slice a6 nn c6) := Blk.cell P.1 2
 refine bodyPost_ret (v := .tuple #[.agg #[.int .i64 n, .int .i64 n, .slice a6 nn c6], .int .i64 0]) (by simp [results, Tryz.results15, go_sem, c0', c1', c2']) rfl ?_
 obtain ⟨⟨cnt, q1, q2, hu⟩, s2, s3, s4, s5, s6, s7⟩ := unhide S6
 have lw := (unhide lU).1
 exact ⟨a6, c6, B6, rfl, s5, by omega, s7.imp id (fun ⟨e, ow⟩ => ⟨e, ow.mk (Mk.of P.2) (by omega)⟩), ⟨cnt, by omega, by omega, Blk.keep hu P.2 (by omega)⟩, s2.new P.2 (by omega)⟩
theorem moAtGain (U n nn k : Nat) (c1 : Bool) (cnt t : Int) (hcnt : 0 ≤ cnt ∧ cnt < 1000000000000000000) (ht : I64 t) (hn : 1 ≤ n ∧ n ≤ 12) (hnn : n * n = nn) (hk : k ≤ 24) (T : Nat → Nat → Int) (IT : ∀ i p, p < nn → I64 (T i p)) (base : Nat) (v : Value) (l : List MV) (hl : l.length = k + 1) (w : World) (h : UC U c1 cnt w) (hD : GTl base n nn T v l w) (hR : U < base) :
  Calls Tryz.prog 42 #[.pointer (some ⟨U, 0, none⟩), v, .int .i64 t] w fun e w' => ValP n n nn (horZ T k t k) 0 (fun w' => UW U (c1 || horC T k t nn k) cnt 100000 w' ∧ Mk U w w') w e w' := by
 obtain ⟨ao, cap, e, hM, hc, hoff⟩ := hD.1.mats
 rw [hl] at e hM hc
 subst e
 have at' : ∀ i, i ≤ k → ∃ B cp, ixM l i = GTx n nn T i B cp ∧ nn ≤ cp ∧ base ≤ B ∧ Own B nn (T i) w := fun i hi => gtl_at hD (by omega)
 have hZ : ∀ i, i ≤ k → ∀ p, p < nn → (ixM l i).Z p = T i p := fun i hi p _ => by
  obtain ⟨B, cp, e, _⟩ := at' i hi
  rw [e]
  rfl
 have hX : ∀ i, i ≤ k → (ixM l i).R = n ∧ (ixM l i).C = n ∧ (ixM l i).len = nn := fun i hi => by
  obtain ⟨B, cp, e, _⟩ := at' i hi
  rw [e]
  exact ⟨rfl, rfl, rfl⟩
 have hc' := hor_congr (fun i => (ixM l i).Z) T k t nn hZ k
 have ho := hoff U hR
 rw [hl] at ho
 refine (polyAt_ok U n n nn k cap ao c1 cnt t hcnt ht hn hn hnn hk hc (ixM l) hX (fun i hi j hj => ?_) w h hM (fun i hi => ?_) (fun i hi => ?_) ho).mono ?_
 ·rw [hZ i hi j hj]
  exact IT i j hj
 ·obtain ⟨B, cp, e, _, _, ho⟩ := at' i hi
  rw [e]
  exact ho.row
 ·obtain ⟨B, cp, e, _, hb, _⟩ := at' i hi
  rw [e]
  intro _ a ha
  cases ha
  show B ≠ U
  omega
 ·rintro e w6 ⟨a6, c6, B6, rfl, h2, h3, h4, ⟨c', r1, r2, hu6⟩, h6⟩
  exact ⟨a6, c6, B6, rfl, h2, h3, h4.imp id (fun ⟨e, ow⟩ => ⟨e, ow.congr (fun p hp => hc'.1 p hp)⟩), ⟨c', r1, r2, by rw [← hc'.2]; exact hu6⟩, h6⟩
set_option maxRecDepth 20000 in
set_option maxHeartbeats 8000000 in
theorem moNoise_ok (U : Nat) (c0 : Bool) (n0 : Int) (hn0 : 0 ≤ n0 ∧ n0 < 10000000000000000) (m : DV) (n : Nat) (eN : m.N = n) (ticks : Int) (hI : I64 ticks) (w : World) (hm : ∀ W, Mk U w W → m.good W) (oa : Off U m.A.len m.A.ao) (oq : Off U m.Q.len m.Q.ao) (e0 : rfL m ticks 0 = 0) (h : UC U c0 n0 w) :
  Calls Tryz.prog 17 #[.pointer (some ⟨U, 0, none⟩), .agg m.cells, .int .i64 ticks] w fun e w' => ValP n n (n * n) (noiseZ m.A.Z m.Q.Z n (spanZ ticks m.tick)) 0 (fun w' => UW U (c0 || spanC ticks m.tick || noiseC m.A.Z m.Q.Z n (spanZ ticks m.tick)) n0 300000 w' ∧ Mk U w w') w e w' := by
 obtain ⟨nn, hnn⟩ : ∃ nn, n * n = nn := ⟨_, rfl⟩
 have hok := (rfL_ok e0).1
 have hg := hm w (Mk.refl _ _)
 obtain ⟨n', e', hn, hal, hql, hnn2, hup⟩ := okD_nat hok
 obtain rfl : n' = n := Int.ofNat.inj (e'.symm.trans eN)
 rw [hnn] at hal hnn2
 obtain ⟨ab, ao, ea, za⟩ := hg.1.1.some (by omega)
 have hcap : nn ≤ m.A.cap := by have := hg.1.2.1.1; omega
 have IA : ∀ j, j < nn → I64 (m.A.Z j) := fun j hj => hg.1.2.2 j (by omega)
 have hT : I64 m.tick := hg.2.2.2.2.2.1.2.1
 have abU : ab ≠ U := oa (by omega) _ ea
 have HN : Hid ((1 ≤ n' ∧ n' ≤ 6) ∧ n' * n' = nn ∧ (1 ≤ nn ∧ nn ≤ 36)) := ⟨hn, hnn, hnn2⟩
 have S0 : Hid (Grown w ((w.alloc (.cells #[.int .i64 m.N, .slice m.A.ao m.A.len m.A.cap, .slice m.Q.ao m.Q.len m.Q.cap, .int .i64 m.tick, .int .i64 m.gate, .int .i64 m.rmin, .slice m.ro m.rl m.rc] 25)).alloc (.cells #[.int .i64 0, .int .i64 0, .slice none 0 0] 38)) ∧ Blk w.heap.size m.cells 25 ((w.alloc (.cells #[.int .i64 m.N, .slice m.A.ao m.A.len m.A.cap, .slice m.Q.ao m.Q.len m.Q.cap, .int .i64 m.tick, .int .i64 m.gate, .int .i64 m.rmin, .slice m.ro m.rl m.rc] 25)).alloc (.cells #[.int .i64 0, .int .i64 0, .slice none 0 0] 38)) ∧ Blk (w.heap.size + 1) #[.int .i64 0, .int .i64 0, .slice none 0 0] 38 ((w.alloc (.cells #[.int .i64 m.N, .slice m.A.ao m.A.len m.A.cap, .slice m.Q.ao m.Q.len m.Q.cap, .int .i64 m.tick, .int .i64 m.gate, .int .i64 m.rmin, .slice m.ro m.rl m.rc] 25)).alloc (.cells #[.int .i64 0, .int .i64 0, .slice none 0 0] 38))) := ⟨((Grown.refl _).alloc _ _).alloc _ _, Blk.grown (Blk.new w _ _) ((Grown.refl _).alloc _ _), blk_new2 w _ _ _⟩
 have lU : Hid (U < w.heap.size ∧ 0 ≤ n0 ∧ n0 < 10000000000000000) := ⟨Blk.lt h, hn0⟩
 have RF : Hid (∀ W, Grown w W → Calls Tryz.prog 33 #[.pointer (some ⟨U, 0, none⟩), .agg #[.int .i64 m.N, .slice m.A.ao m.A.len m.A.cap, .slice m.Q.ao m.Q.len m.Q.cap, .int .i64 m.tick, .int .i64 m.gate, .int .i64 m.rmin, .slice m.ro m.rl m.rc], .int .i64 ticks, .int .i64 0] W fun e w' => e = .returned (.int .i64 0) ∧ UC U c0 n0 w' ∧ Mk U W w') := fun W g => by
  have := moRefuse U c0 n0 ⟨by omega, by omega⟩ m ticks 0 W (fun W' k => hm W' ((Mk.kp (Kp.of g)).trans k)) (Blk.grown h g)
  rwa [e0] at this
 have eM : (#[.int .i64 m.N, .slice m.A.ao m.A.len m.A.cap, .slice m.Q.ao m.Q.len m.Q.cap, .int .i64 m.tick, .int .i64 m.gate, .int .i64 m.rmin, .slice m.ro m.rl m.rc] : Array Value) = #[.int .i64 n', .slice (some ⟨ab, ao, none⟩) nn m.A.cap, .slice m.Q.ao n' m.Q.cap, .int .i64 m.tick, .int .i64 m.gate, .int .i64 m.rmin, .slice m.ro m.rl m.rc] := by rw [eN, ea, hal, hql]
 obtain ⟨k, hk⟩ : ∃ k, 2 * n' - 2 = k := ⟨_, rfl⟩
 have IQ : ∀ i, i < n' → I64 (m.Q.Z i) := fun i hi => hg.2.1.2.2 i (by omega)
 have SP : Hid (∀ W, UC U c0 n0 W → Calls Tryz.prog 34 #[.pointer (some ⟨U, 0, none⟩), .agg #[.int .i64 m.N, .slice m.A.ao m.A.len m.A.cap, .slice m.Q.ao m.Q.len m.Q.cap, .int .i64 m.tick, .int .i64 m.gate, .int .i64 m.rmin, .slice m.ro m.rl m.rc], .int .i64 ticks] W fun e w' => e = .returned (.int .i64 (spanZ ticks m.tick)) ∧ UC U (c0 || spanC ticks m.tick) (n0 + 3) w' ∧ Mod U W w') := fun W u => moSpan U c0 n0 ⟨by omega, by omega⟩ m ticks hI hT W u
 have CO : Hid (∀ W, Mk U w W → UC U (c0 || spanC ticks m.tick) (n0 + 3) W → Calls Tryz.prog 43 #[.pointer (some ⟨U, 0, none⟩), .agg #[.int .i64 m.N, .slice m.A.ao m.A.len m.A.cap, .slice m.Q.ao m.Q.len m.Q.cap, .int .i64 m.tick, .int .i64 m.gate, .int .i64 m.rmin, .slice m.ro m.rl m.rc]] W fun e w' => UpP U n' nn (c0 || spanC ticks m.tick) (n0 + 3) (gainZ m.A.Z m.Q.Z n') (gainC m.A.Z m.Q.Z n') k W e w') := fun W km u => by
  rw [eM]
  refine moCoef U n' nn k ab ao m.Q.ao m.ro m.A.cap m.Q.cap m.rl m.rc m.tick m.gate m.rmin m.A.Z m.Q.Z _ (n0 + 3) ⟨by omega, by omega⟩ hn hnn hk hcap IA IQ W u (fun i hi => km.cell (za i (by omega)) abU) ?_ ?_
  ·have : Row W m.Q.ao m.Q.len m.Q.Z := (hm W km).2.1.1
   rwa [hql] at this
  ·rwa [hql] at oq
 have IT : Hid (∀ i p, p < nn → I64 (gainZ m.A.Z m.Q.Z n' i p)) := fun i p hp => gainZ_I64 _ _ n' IQ i p (by rw [hnn]; exact hp)
 have HK : Hid (k ≤ 24) := by unfold Hid; omega
 have IS : Hid (I64 (spanZ ticks m.tick)) := spanZ_I64 _ _
 have EF : noiseZ m.A.Z m.Q.Z n' (spanZ ticks m.tick) = fun p => m2N (horZ (gainZ m.A.Z m.Q.Z n') k (spanZ ticks m.tick) k p) (spanZ ticks m.tick) := by rw [← hk]; rfl
 have EC : noiseC m.A.Z m.Q.Z n' (spanZ ticks m.tick) = (gainC m.A.Z m.Q.Z n' k || horC (gainZ m.A.Z m.Q.Z n') k (spanZ ticks m.tick) nn k || orC (fun p => m2C (horZ (gainZ m.A.Z m.Q.Z n') k (spanZ ticks m.tick) k p) (spanZ ticks m.tick)) nn) := by rw [← hk, ← hnn]; rfl
 rw [hnn, EF, EC]
 clear hm oa oq e0 h hn0 hI hok hg e' hn hal hql hnn2 hup za ea hcap IA IQ hT abU eM eN hnn hk EF EC
 generalize n' = n at *
 generalize gainZ m.A.Z m.Q.Z n = TT at *
 generalize gainC m.A.Z m.Q.Z n = CC at *
 generalize spanZ ticks m.tick = sp at *
 generalize (c0 || spanC ticks m.tick) = c1 at *
 obtain ⟨y0, y1, y2, y3, y4, y5, y6⟩ := (unhide S0).2.1.cellsM
 unfold DV.cells
 go_enter Tryz.func17, Tryz.ntmps17
 go_wp2_with fail
 generalize ((w.alloc (.cells #[.int .i64 m.N, .slice m.A.ao m.A.len m.A.cap, .slice m.Q.ao m.Q.len m.Q.cap, .int .i64 m.tick, .int .i64 m.gate, .int .i64 m.rmin, .slice m.ro m.rl m.rc] 25)).alloc (.cells #[.int .i64 0, .int .i64 0, .slice none 0 0] 38)) = w1 at *
 refine (unhide RF w1 (unhide S0).1).mono ?_
 rintro e w2 ⟨rfl, u2, m2⟩
 have lw := (unhide lU).1
 have S2 : Hid (UC U c0 n0 w2 ∧ Mk U w w2 ∧ Blk w.heap.size m.cells 25 w2 ∧ Blk (w.heap.size + 1) #[.int .i64 0, .int .i64 0, .slice none 0 0] 38 w2) := ⟨u2, (Mk.kp (Kp.of (unhide S0).1)).trans m2, Blk.mk (unhide S0).2.1 m2 (by omega), Blk.mk (unhide S0).2.2 m2 (by omega)⟩
 clear u2 m2 S0 RF y0 y1 y2 y3 y4 y5 y6 lw
 obtain ⟨y0, y1, y2, y3, y4, y5, y6⟩ := (unhide S2).2.2.1.cellsM
 go_wp2_with fail
 refine (unhide SP w2 (unhide S2).1).mono ?_
 rintro e w3 ⟨rfl, u3, m3⟩
 have lw := (unhide lU).1
 have S3 : Hid (UC U c1 (n0 + 3) w3 ∧ Mk U w w3 ∧ Blk w.heap.size m.cells 25 w3 ∧ Blk (w.heap.size + 1) #[.int .i64 0, .int .i64 0, .slice none 0 0] 38 w3) := ⟨u3, (unhide S2).2.1.trans (Mk.of m3), Blk.keep (unhide S2).2.2.1 m3 (by omega), Blk.keep (unhide S2).2.2.2 m3 (by omega)⟩
 clear u3 m3 S2 SP y0 y1 y2 y3 y4 y5 y6 lw
 obtain ⟨y0, y1, y2, y3, y4, y5, y6⟩ := (unhide S3).2.2.1.cellsM
 go_wp2_with fail
 refine (unhide CO w3 (unhide S3).2.1 (unhide S3).1).mono ?_
 rintro e w4 ⟨v, l, rfl, hl, hD, ⟨cnt, q1, q2, hu⟩, hmk⟩
 have l3 : U < w3.heap.size := Nat.lt_of_lt_of_le (unhide lU).1 (unhide S3).2.1.2.2.2
 have lu2 := (unhide lU).2
 have hk24 := unhide HK
 have AT := hide (moAtGain U n nn k (c1 || CC k) cnt sp ⟨by omega, by omega⟩ (unhide IS) ⟨(unhide HN).1.1, by have := unhide HN; omega⟩ (unhide HN).2.1 hk24 TT (unhide IT) w3.heap.size v l hl w4 hu hD l3)
 have S4 : Hid (Mk U w w4 ∧ Blk (w.heap.size + 1) #[.int .i64 0, .int .i64 0, .slice none 0 0] 38 w4 ∧ n0 + 3 ≤ cnt ∧ cnt ≤ n0 + 30003) := ⟨(unhide S3).2.1.trans hmk, Blk.mk (unhide S3).2.2.2 hmk (by have := (unhide lU).1; omega), q1, by omega⟩
 clear hl hD q1 q2 hu hmk CO S3 l3 y0 y1 y2 y3 y4 y5 y6 lu2 hk24
 go_wp2_with fail
 refine (unhide AT).mono ?_
 rintro e w5 ⟨a5, p5, B5, rfl, h2, h3, h4, ⟨z, z1, z2, hu5⟩, h6⟩
 have g6 : Grown w5 (w5.alloc (.cells #[.int .i64 n, .int .i64 n, .slice a5 nn p5] 38)) := (Grown.refl _).alloc _ _
 have pb : Blk w5.heap.size #[.int .i64 n, .int .i64 n, .slice a5 nn p5] 38 (w5.alloc (.cells #[.int .i64 n, .int .i64 n, .slice a5 nn p5] 38)) := Blk.new _ _ _
 have x0 : (w5.alloc (.cells #[.int .i64 n, .int .i64 n, .slice a5 nn p5] 38)).cell? ⟨w5.heap.size, 0, none⟩ = some (.int .i64 n) := Blk.cell pb 0
 have x1 : (w5.alloc (.cells #[.int .i64 n, .int .i64 n, .slice a5 nn p5] 38)).cell? ⟨w5.heap.size, 1, none⟩ = some (.int .i64 n) := Blk.cell pb 1
 have x2 : (w5.alloc (.cells #[.int .i64 n, .int .i64 n, .slice a5 nn p5] 38)).cell? ⟨w5.heap.size, 2, none⟩ = some (.slice a5 nn p5) := Blk.cell pb 2
 obtain ⟨rfl, ow5⟩ := h4.resolve_left (by have := unhide HN; omega)
 have lB := (unhide S4).1.2.2.2
 have SC := scaleR U sp (unhide IS) n n ⟨(unhide HN).1.1, by have := unhide HN; omega⟩ ⟨(unhide HN).1.1, by have := unhide HN; omega⟩ (some ⟨B5, 0, none⟩) p5 (horZ TT k sp k) (by rw [(unhide HN).2.1]; exact fun j hj => horZ_I64 TT k sp nn (fun p hp => unhide IT _ p hp) k j hj) (w5.alloc (.cells #[.int .i64 n, .int .i64 n, .slice (some ⟨B5, 0, none⟩) nn p5] 38)) (by rw [(unhide HN).2.1]; exact ⟨(ow5.kp (Kp.of g6)).row, off_blk (by have := unhide lU; omega)⟩) (c1 || CC k || horC TT k sp nn k) z ⟨by have := unhide S4; have := unhide lU; omega, by have := unhide S4; have := unhide lU; omega⟩ (Blk.grown hu5 g6)
 rw [(unhide HN).2.1] at SC
 have HSC := hide SC
 have S6 : Hid (Mk U w (w5.alloc (.cells #[.int .i64 n, .int .i64 n, .slice (some ⟨B5, 0, none⟩) nn p5] 38)) ∧ Blk (w.heap.size + 1) #[.int .i64 0, .int .i64 0, .slice none 0 0] 38 (w5.alloc (.cells #[.int .i64 n, .int .i64 n, .slice (some ⟨B5, 0, none⟩) nn p5] 38)) ∧ n0 ≤ z ∧ z ≤ n0 + 130003) := ⟨((unhide S4).1.trans h6).grown g6, Blk.grown (Blk.mk (unhide S4).2.1 h6 (by have := unhide lU; omega)) g6, by have := unhide S4; omega, by have := unhide S4; omega⟩
 clear g6 pb h2 h3 h4 z1 z2 hu5 h6 S4 AT SC ow5 lB
 go_wp2_with fail
 generalize (w5.alloc (.cells #[.int .i64 n, .int .i64 n, .slice (some ⟨B5, 0, none⟩) nn p5] 38)) = w6 at *
 refine (unhide HSC).mono ?_
 rintro e w7 ⟨a7, c7, B7, rfl, h2, h3, h4, hu7, h7⟩
 have lw := (unhide lU).1
 have r6 := Blk.mk (unhide S6).2.1 h7 (by omega)
 have M7 : Mk U w w7 := (unhide S6).1.trans h7
 have e0 : w7.cell? ⟨w.heap.size + 1, 0, none⟩ = some (.int .i64 0) := Blk.cell r6 0
 have e1 : w7.cell? ⟨w.heap.size + 1, 1, none⟩ = some (.int .i64 0) := Blk.cell r6 1
 have e2 : w7.cell? ⟨w.heap.size + 1, 2, none⟩ = some (.slice none 0 0) := Blk.cell r6 2
 have f := Blk.free r6
 have l5 := Blk.lt (unhide S6).2.1
 have RR := hide (And.intro h2 (And.intro h3 (And.intro h4 (And.intro hu7 (And.intro M7 (And.intro r6 (And.intro l5 (unhide S6).2.2)))))))
 clear h2 h3 h4 hu7 h7 r6 M7 HSC S6 l5 x0 x1 x2 lw
 go_wp2
 obtain ⟨h2, h3, h4, hu7, M7, r6, l5, z12⟩ := unhide RR
 have P := putM r6 (.int .i64 n) (.int .i64 n) (.slice a7 nn c7)
 generalize (((w7.setCell ⟨w.heap.size + 1, 0, none⟩ (.int .i64 n)).setCell ⟨w.heap.size + 1, 1, none⟩ (.int .i64 n)).setCell ⟨w.heap.size + 1, 2, none⟩ (.slice a7 nn c7)) = wE at *
 have c0' : wE.cell? ⟨w.heap.size + 1, 0, none⟩ = some (.int .i64 n) := Blk.cell P.1 0
 have c1' : wE.cell? ⟨w.heap.size + 1, 1, none⟩ = some (.int .i64 n) := Blk.cell P.1 1
 have c2' : wE.cell? ⟨w.heap.size + 1, 2, none⟩ = some (.slice a7 nn c7) := Blk.cell P.1 2
 refine bodyPost_ret (v := .tuple #[.agg #[.int .i64 n, .int .i64 n, .slice a7 nn c7], .int .i64 0]) (by simp [results, Tryz.results17, go_sem, c0', c1', c2']) rfl ?_
 have lw := (unhide lU).1
 have hN := unhide HN
 refine ⟨a7, c7, B7, rfl, h4, by omega, h3.imp id (fun ⟨e, bk⟩ => ⟨e, Own.of (Blk.keep bk P.2 (by omega))⟩), ⟨z + 2 * nn, by omega, by omega, ?_⟩, M7.new P.2 (by omega)⟩
 rw [← Bool.or_assoc, ← Bool.or_assoc]
 exact Blk.keep hu7 P.2 (by omega)
end Go.Proofs.YtjobgjcfkomhpaaGreat
namespace Go.Proofs.YtjobgjcfkomhpaaGreat
open Go.RowKit Go.Shelf Go.Proofs.Wd
set_option maxRecDepth 10000
theorem Own.set {B len : Nat} {Z : Nat → Int} {w : World} (h : Own B len Z w) (k : Nat) (v : Int) : Own B len (fun i => if i = k then v else Z i) (w.setCell ⟨B, k, none⟩ (.int .i64 v)) := by
 obtain ⟨cur, h1, h2⟩ := h
 refine ⟨_, Blk.set h1 k _, fun i hi => ?_⟩
 have e := h2 i hi
 have hs := (Array.getElem?_eq_some_iff.1 e).1
 rw [Array.getElem?_setIfInBounds]
 by_cases hk : k = i
 ·rw [if_pos hk, if_pos (by omega)]
  show _ = some (Value.int .i64 (if i = k then v else Z i))
  rw [if_pos hk.symm]
 ·rw [if_neg hk, e]
  show _ = some (Value.int .i64 (if i = k then v else Z i))
  rw [if_neg (fun e => hk e.symm)]
def OvJ (B : Nat) (ao : Option Addr) (len : Nat) (w wr : World) : Prop := Mod B w wr ∧ (len = 0 ∨ (ao = some ⟨B, 0, none⟩ ∧ ∃ Y, Own B len Y wr))
set_option maxHeartbeats 1000000 in
theorem kitOverI (B : Nat) (ao : Option Addr) (len cap : Nat) (X : Nat → Int) (hl : len ≤ 1000000) (w : World) (hA : len = 0 ∨ (ao = some ⟨B, 0, none⟩ ∧ Own B len X w)) :
  Calls Tryz.prog 22 #[.slice ao len cap] w fun e w' => e = .returned (.tuple #[]) ∧ Mod B w w' := by
 have HA := hide hA
 clear hA
 go_enter Tryz.func22, Tryz.ntmps22
 go_wp2
 go_loopw [2] (fun i wr => ∃ k : Nat, k ≤ len ∧ i = .int .i64 k ∧ Hid (OvJ B ao len w wr)) (fun i _ => len - (intOf i).toNat)
 case atStart => exact ⟨0, Nat.zero_le _, rfl, Mod.refl _ _, (unhide HA).imp id fun h => ⟨h.1, X, h.2⟩⟩
 case round =>
  obtain ⟨k, hk, rfl, HI⟩ := hrel
  by_cases hlt : k < len
  ·obtain ⟨i1, i2⟩ := unhide HI
   rcases i2 with i2 | ⟨e1, Y, i2⟩
   ·omega
   ·subst e1
    have hc : wr.cell? ⟨B, k, none⟩ = some (.int .i64 (Y k)) := by obtain ⟨cur, b1, b2⟩ := i2; rw [Blk.cell b1, b2 k hlt]
    have hfz : wr.frozen? ⟨B, k, none⟩ = false := by obtain ⟨cur, b1, b2⟩ := i2; exact Blk.free b1 k
    have R : Hid (OvJ B (some ⟨B, 0, none⟩) len w (wr.setCell ⟨B, k, none⟩ (.int .i64 (-77)))) :=
     ⟨i1.setCell _ _, Or.inr ⟨rfl, _, Own.set i2 k _⟩⟩
    clear i1 i2 HI HA
    go_wp2
    go_roundw
    case rel => exact ⟨k + 1, by omega, by go_num, R⟩
    case measure => simp [intOf]; omega
  ·obtain rfl : len = k := by omega
   go_wp2
   exact bodyPost_end (v := .tuple #[]) (by simp [results, Tryz.results22, go_sem]) rfl ⟨rfl, (unhide HI).1⟩
section
variable {w : World} {E : List Nat} {bx : List (Nat × Array Value)} {rows : List (Option Addr × Nat × (Nat → Int))} {wx w' : World} {b : Nat}
theorem Mk.fresh (m : Mk wx.heap.size wx w') : Kp wx w' := ⟨m.1, m.2.1, fun k hk => m.2.2.1 k hk (by omega), m.2.2.2⟩
end
end Go.Proofs.YtjobgjcfkomhpaaGreat
namespace Go.Proofs.YtjobgjcfkomhpaaGreat
open Go.RowKit Go.Shelf Go.Proofs.Wd
set_option maxRecDepth 10000
section
variable {w : World} {U V : Nat} {cu cv cu' cv' : Array Value} {tu tv : TypeId} {bx : List (Nat × Array Value)} {rows : List (Option Addr × Nat × (Nat → Int))} {wx w' : World} {r c err : Int} {len : Nat} {Z : Nat → Int} {e : Ending}
end
theorem refUCutD (R : Nat) (c : Bool) (n : Int) (w : World) (h : RC R c n w) : Calls Tryz.prog 21 #[.pointer (some ⟨R, 0, none⟩)] w fun e w' => e = .returned (.bool c) ∧ w' = w := by
 have c0 := RC.c0 h
 clear h
 go_enter Tryz.func21, Tryz.ntmps21
 go_wp2
 go_ret
 exact ⟨rfl, rfl⟩
end Go.Proofs.YtjobgjcfkomhpaaGreat
namespace Go.Proofs.YtjobgjcfkomhpaaGreat
open Go.RowKit Go.Shelf Go.Proofs.Wd
set_option maxRecDepth 10000
def UE (U : Nat) (c : Bool) (d : Int) (wx : World) : Prop := ∃ n, 0 ≤ n ∧ n ≤ d ∧ UC U c n wx
def RE (R : Nat) (c : Bool) (d : Int) (wx : World) : Prop := ∃ n, 0 ≤ n ∧ n ≤ d ∧ RC R c n wx
theorem ue_dep (U : Nat) (c : Bool) (d : Int) : DepL [U] (UE U c d) := fun w w' h ⟨n, h2, h3, h4⟩ => ⟨n, h2, h3, (h U (by simp)).trans h4⟩
theorem re_dep (U : Nat) (c : Bool) (d : Int) : DepL [U] (RE U c d) := fun w w' h ⟨n, h2, h3, h4⟩ => ⟨n, h2, h3, (h U (by simp)).trans h4⟩
def ovD (B len : Nat) : List Nat := if len = 0 then [] else [B]
def OvP (ao : Option Addr) (B len : Nat) (Z : Nat → Int) (W : World) : Prop := len = 0 ∨ (ao = some ⟨B, 0, none⟩ ∧ Own B len Z W)
theorem ov_dep (ao : Option Addr) (B len : Nat) (Z : Nat → Int) : DepL (ovD B len) (OvP ao B len Z) := fun w w' h k => by
 rcases k with k | ⟨e, cur, h1, h2⟩
 ·exact Or.inl k
 ·by_cases h0 : len = 0
  ·exact Or.inl h0
  ·refine Or.inr ⟨e, cur, (h B ?_).trans h1, h2⟩
   unfold ovD
   rw [if_neg h0]
   simp
theorem OvP.row {ao : Option Addr} {B len : Nat} {Z : Nat → Int} {W : World} (h : OvP ao B len Z W) : Row W ao len Z := h.elim Or.inl fun ⟨e, k⟩ => by subst e; exact k.row
theorem true_dep (D : List Nat) : DepL D (fun _ => True) := fun _ _ _ _ => trivial
section
variable {w wx w' : World} {es pre post fs : List Ob} {U R : Nat} {c : Bool} {d : Int}
theorem ST.unitE (pre : List Ob) (h : ST w (pre ++ ([U], UE U c d) :: post) fs wx) : ∃ n, 0 ≤ n ∧ n ≤ d ∧ UC U c n wx := h.ob (c := ([U], UE U c d)) (by simp)
theorem ST.unitR (pre : List Ob) (h : ST w (pre ++ ([R], RE R c d) :: post) fs wx) : ∃ n, 0 ≤ n ∧ n ≤ d ∧ RC R c n wx := h.ob (c := ([R], RE R c d)) (by simp)
theorem ST.overV {ao : Option Addr} {B len cap : Nat} {Z : Nat → Int} (pre : List Ob) (hl : len ≤ 1000000) (h : ST w (pre ++ (ovD B len, OvP ao B len Z) :: post) fs wx) :
  Calls Tryz.prog 22 #[.slice ao len cap] wx fun e w' => e = .returned (.tuple #[]) ∧ ST w (pre ++ (ovD B len, fun _ => True) :: post) fs w' := by
 have ho : OvP ao B len Z wx := h.ob (c := (ovD B len, OvP ao B len Z)) (by simp)
 have nd : (ovD B len).Nodup := by unfold ovD; split <;> simp
 by_cases h0 : len = 0
 ·refine (kitOverI wx.heap.size ao len cap Z hl wx (Or.inl h0)).mono ?_
  rintro e w' ⟨rfl, m⟩
  exact ⟨rfl, h.upd pre (MkL.kp (Mk.fresh (Mk.of m)) _) trivial (true_dep _) nd⟩
 ·refine (kitOverI B ao len cap Z hl wx (Or.inr (ho.resolve_left h0))).mono ?_
  rintro e w' ⟨rfl, m⟩
  refine ⟨rfl, h.upd pre ?_ trivial (true_dep _) nd⟩
  have := MkL.one (Mk.of m)
  unfold ovD
  rw [if_neg h0]
  exact this
end
end Go.Proofs.YtjobgjcfkomhpaaGreat
namespace Go.Proofs.YtjobgjcfkomhpaaGreat
open Go.RowKit Go.Shelf Go.Proofs.Wd
set_option maxRecDepth 10000
def OwnR (g n : Nat) (X : Nat → RV) (W : World) : Prop := ∃ cur, Blk g cur 62 W ∧ ∀ i, i < n → ∀ j, j < 3 → cur[i * 3 + j]? = (X i).cells[j]?
theorem OwnR.rvs {g n : Nat} {X : Nat → RV} {W : World} (h : OwnR g n X W) : RVs W (some ⟨g, 0, none⟩) n X := by
 obtain ⟨cur, h1, h2⟩ := h
 exact Or.inr ⟨g, 0, rfl, fun i hi j hj => by rw [Nat.zero_add, Blk.cell h1, h2 i hi j hj]⟩
theorem OwnR.kp {g n : Nat} {X : Nat → RV} {W W' : World} (h : OwnR g n X W) (k : Kp W W') : OwnR g n X W' := let ⟨cur, h1, h2⟩ := h; ⟨cur, Blk.kp h1 k, h2⟩
theorem OwnR.mod {g b n : Nat} {X : Nat → RV} {W W' : World} (h : OwnR g n X W) (k : Mod b W W') (hb : g ≠ b) : OwnR g n X W' := let ⟨cur, h1, h2⟩ := h; ⟨cur, Blk.keep h1 k hb, h2⟩
theorem OwnR.setH {g n k p : Nat} {X : Nat → RV} {W : World} {a : Option Addr} (h : OwnR g n X W) (hk : k < n) : OwnR g n (fun i => if i = k then cpRV (X k) a p else X i) (W.setCell ⟨g, k * 3 + 1, none⟩ (.slice a (X k).h.len p)) := by
 obtain ⟨cur, h1, h2⟩ := h
 refine ⟨_, Blk.set h1 (k * 3 + 1) _, fun i hi j hj => ?_⟩
 rw [Array.getElem?_setIfInBounds]
 by_cases e : k * 3 + 1 = i * 3 + j
 ·have e1 : i = k := by omega
  have e2 : j = 1 := by omega
  subst e1 e2
  have : i * 3 + 1 < cur.size := by
   have := h2 i hi 1 (by omega)
   rcases Nat.lt_or_ge (i * 3 + 1) cur.size with h | h
   ·exact h
   ·rw [Array.getElem?_eq_none (by omega)] at this; cases this
  rw [if_pos e, if_pos this]
  dsimp only
  rw [if_pos rfl]
  rfl
 ·rw [if_neg e, h2 i hi j hj]
  by_cases e1 : i = k
  ·subst e1
   dsimp only
   rw [if_pos rfl]
   have : j = 0 ∨ j = 2 := by omega
   rcases this with rfl | rfl
   ·rfl
   ·rfl
  ·dsimp only
   rw [if_neg e1]
theorem OwnR.free {g n o : Nat} {X : Nat → RV} {W : World} (h : OwnR g n X W) : W.frozen? ⟨g, o, none⟩ = false := let ⟨_, h1, _⟩ := h; Blk.free h1 o
theorem OwnR.lt {g n : Nat} {X : Nat → RV} {W : World} (h : OwnR g n X W) : g < W.heap.size := let ⟨_, h1, _⟩ := h; Blk.lt h1
theorem rls_own {w : World} {base n : Nat} {v : Value} {X : Nat → RV} (h : w.ownsRow base 62 3 v n (flatR ((List.range n).map X))) : ∃ lo lc, v = .slice lo n lc ∧ FitL lo n lc ∧ (n = 0 ∨ ∃ g, lo = some ⟨g, 0, none⟩ ∧ base ≤ g ∧ OwnR g n X w) := by
 have hl : ((List.range n).map X).length = n := by simp
 have h' : RLs w base v ((List.range n).map X) := by unfold RLs; rw [hl]; exact h
 obtain ⟨lo, lc, e, _, hc, _⟩ := h'.rvs
 rw [hl] at e hc
 refine ⟨lo, lc, e, owns_fit (by rw [e] at h; exact h) hc, ?_⟩
 rcases h.2 with ⟨_, e2⟩ | ⟨g, cap, cur, e2, hb, hg, _⟩
 ·exact Or.inl e2
 ·rw [e] at e2
  injection e2 with e3 e4 e5
  subst e3
  refine Or.inr ⟨g, rfl, hb, cur, hg, fun i hi j hj => ?_⟩
  have hx : ((List.range n).map X)[i]? = some (X i) := by rw [List.getElem?_map, List.getElem?_range hi]; rfl
  have hf := flatR_at _ i j _ hx hj
  obtain ⟨u, hu⟩ : ∃ u, (X i).cells[j]? = some u := ⟨_, Array.getElem?_eq_getElem (by show j < 3; exact hj)⟩
  have := World.ownsRow.cells h (g := g) (by rw [e]; rfl) (i * 3 + j) u (by rw [hf, hu])
  rw [Go.WideShapes.add_plain, Nat.zero_add, Blk.cell (show Blk g cur 62 w from hg)] at this
  rw [this, hu]
def CpI (w : World) (X : Nat → RV) (rl al ql : Nat) (a q : Option Addr) (k : Nat) (lo : Option Addr) (W : World) : Prop :=
 rl = 0 ∨ ∃ g Xk, lo = some ⟨g, 0, none⟩ ∧ w.heap.size + 2 ≤ g ∧ OwnR g rl Xk W ∧ (Off g al a ∧ Off g ql q) ∧ ∀ i, i < rl → (i < k → ∃ b p, Xk i = cpRV (X i) b p ∧ FitL b (X i).h.len p ∧ Row W b (X i).h.len (X i).h.Z ∧ (∀ U, U < w.heap.size + 2 → Off U (X i).h.len b) ∧ Off g (X i).h.len b) ∧ (k ≤ i → Xk i = X i)
def CmS (w : World) (N tick gate rmin : Int) (ro : Option Addr) (al ql rl rc : Nat) (A Q : Nat → Int) (X : Nat → RV) (a q : Option Addr) (ap qp k : Nat) (lo : Option Addr) (W : World) : Prop :=
 Kp w W ∧ Blk w.heap.size #[.int .i64 N, .slice a al ap, .slice q ql qp, .int .i64 tick, .int .i64 gate, .int .i64 rmin, .slice ro rl rc] 25 W ∧ Blk (w.heap.size + 1) #[.int .i64 0, .slice none 0 0, .slice none 0 0, .int .i64 0, .int .i64 0, .int .i64 0, .slice none 0 0] 25 W ∧ Row W a al A ∧ Row W q ql Q ∧ (∀ U, U < w.heap.size + 2 → Off U al a ∧ Off U ql q) ∧ (FitL a al ap ∧ FitL q ql qp) ∧ CpI w X rl al ql a q k lo W
theorem CmS.step {w W W' : World} {N tick gate rmin : Int} {ro : Option Addr} {al ql rl rc : Nat} {A Q : Nat → Int} {X : Nat → RV} {a q : Option Addr} {ap qp k g p : Nat} {b : Option Addr} (h : CmS w N tick gate rmin ro al ql rl rc A Q X a q ap qp k (some ⟨g, 0, none⟩) W) (hk : k < rl) (kk : Kp W W') (hp : FitL b (X k).h.len p) (hr : Row W' b (X k).h.len (X k).h.Z) (ho : ∀ U, U < W.heap.size → Off U (X k).h.len b) :
  CmS w N tick gate rmin ro al ql rl rc A Q X a q ap qp (k + 1) (some ⟨g, 0, none⟩) (W'.setCell ⟨g, k * 3 + 1, none⟩ (.slice b (X k).h.len p)) ∧ W'.frozen? ⟨g, k * 3 + 1, none⟩ = false ∧ W'.cell? ⟨g, k * 3 + 1, none⟩ = some (.slice (X k).h.ao (X k).h.len (X k).h.cap) := by
 obtain ⟨h1, h2, h3, h4, h5, h6, h7, h8⟩ := h
 obtain ⟨g', Xk, e, hg, hO, hoff, hX⟩ := h8.resolve_left (by omega)
 injection e with e
 injection e with e _ _
 subst e
 have eXk : Xk k = X k := (hX k hk).2 (Nat.le_refl _)
 have sm : Mod g W' (W'.setCell ⟨g, k * 3 + 1, none⟩ (.slice b (X k).h.len p)) := (Mod.refl _ _).setCell _ _
 have lg := hO.lt
 have hO' := hO.kp kk
 refine ⟨⟨(h1.trans kk).mod sm (by omega), Blk.keep (Blk.kp h2 kk) sm (by omega), Blk.keep (Blk.kp h3 kk) sm (by omega), (h4.kp kk).mk (Mk.of sm) hoff.1, (h5.kp kk).mk (Mk.of sm) hoff.2, h6, h7, Or.inr ⟨g, _, rfl, hg, (by have := hO'.setH (a := b) (p := p) hk; rw [eXk] at this; exact this), hoff, fun i hi => ⟨fun hik => ?_, fun hik => ?_⟩⟩⟩, hO'.free, ?_⟩
 ·by_cases e : i = k
  ·subst e
   rw [if_pos rfl]
   exact ⟨b, p, rfl, hp, hr.mk (Mk.of sm) (ho g lg), fun U hU => ho U (by omega), ho g lg⟩
  ·rw [if_neg e]
   obtain ⟨b', p', e1, e2, e3, e4, e5⟩ := (hX i hi).1 (by omega)
   exact ⟨b', p', e1, e2, (e3.kp kk).mk (Mk.of sm) e5, e4, e5⟩
 ·rw [if_neg (by omega)]
  exact (hX i hi).2 (by omega)
 ·obtain ⟨_, _, e0, _, c1, _⟩ := hO'.rvs.at hk
  injection e0 with e0
  injection e0 with e0 e00 _
  subst e0 e00
  rw [eXk, Nat.zero_add] at c1
  exact c1
def CopyMC (N tick gate rmin : Int) (ro : Option Addr) (al ql rl rc : Nat) (A Q : Nat → Int) (X : Nat → RV) (w : World) (e : Ending) (w' : World) : Prop :=
 ∃ a q lo ap qp lc Y, e = .returned (.agg #[.int .i64 N, .slice a al ap, .slice q ql qp, .int .i64 tick, .int .i64 gate, .int .i64 rmin, .slice lo rl lc]) ∧ FitL a al ap ∧ FitL q ql qp ∧ FitL lo rl lc ∧ Row w' a al A ∧ Row w' q ql Q ∧ RVs w' lo rl Y ∧ (∀ i, i < rl → ∃ b p, Y i = cpRV (X i) b p ∧ FitL b (X i).h.len p ∧ Row w' b (X i).h.len (X i).h.Z ∧ ∀ U, U < w.heap.size → Off U (X i).h.len b) ∧ (∀ U, U < w.heap.size → Off U al a ∧ Off U ql q ∧ Off U rl lo) ∧ Kp w w'
theorem cmStart {w w5 wm w6 : World} {N tick gate rmin : Int} {ro : Option Addr} {al ql rl rc : Nat} {A Q : Nat → Int} {X : Nat → RV} {a q : Option Addr} {ap qp : Nat} {v6 md : Value} (h : Kp w w5 ∧ Blk w.heap.size #[.int .i64 N, .slice a al ap, .slice q ql qp, .int .i64 tick, .int .i64 gate, .int .i64 rmin, .slice ro rl rc] 25 w5 ∧ Blk (w.heap.size + 1) #[.int .i64 0, .slice none 0 0, .slice none 0 0, .int .i64 0, .int .i64 0, .int .i64 0, .slice none 0 0] 25 w5 ∧ (FitL a al ap ∧ FitL q ql qp) ∧ Row w5 a al A ∧ Row w5 q ql Q ∧ ∀ U, U < w.heap.size + 2 → Off U al a ∧ Off U ql q) (ka : Kp w5 wm) (om : wm.ownsRow w5.heap.size 62 3 md 0 []) (hown : w6.ownsRow w5.heap.size 62 3 v6 (0 + rl) ([] ++ flatR ((List.range rl).map X))) (hg : wm.grownBy w6 md.ownBlock) (l5 : w.heap.size + 1 < w5.heap.size) :
  ∃ lo lc, v6 = .slice lo rl lc ∧ FitL lo rl lc ∧ CmS w N tick gate rmin ro al ql rl rc A Q X a q ap qp 0 lo w6 := by
 rw [Nat.zero_add, List.nil_append] at hown
 obtain ⟨lo, lc, rfl, hc, hO⟩ := rls_own hown
 obtain ⟨h1, h2, h3, h4, h5, h6, h7⟩ := h
 have kk : Kp w5 w6 := Kp.by ka hg (fun g e => (om.lt g e).1)
 refine ⟨lo, lc, rfl, hc, h1.trans kk, Blk.kp h2 kk, Blk.kp h3 kk, h5.kp kk, h6.kp kk, h7, h4, hO.imp id fun ⟨g, e, hge, hO⟩ => ⟨g, X, e, by omega, hO, ⟨h5.off hge, h6.off hge⟩, fun i hi => ⟨fun h => absurd h (Nat.not_lt_zero _), fun _ => rfl⟩⟩⟩
theorem cmEnd {w wr wS wE : World} {N tick gate rmin : Int} {ro lo : Option Addr} {al ql k rc : Nat} {A Q : Nat → Int} {X : Nat → RV} {a q : Option Addr} {ap qp lc : Nat} (h : CmS w N tick gate rmin ro al ql k rc A Q X a q ap qp k lo wr) (hc : FitL lo k lc) (s1 : Mod w.heap.size wr wS) (s2 : Mod (w.heap.size + 1) wS wE) :
  CopyMC N tick gate rmin ro al ql k rc A Q X w (.returned (.agg #[.int .i64 N, .slice a al ap, .slice q ql qp, .int .i64 tick, .int .i64 gate, .int .i64 rmin, .slice lo k lc])) wE := by
 obtain ⟨h1, h2, h3, h4, h5, h6, h7, h8⟩ := h
 have row : ∀ {b : Option Addr} {len : Nat} {Z : Nat → Int}, Row wr b len Z → (∀ U, U < w.heap.size + 2 → Off U len b) → Row wE b len Z := fun r o => (r.mk (Mk.of s1) (o _ (by omega))).mk (Mk.of s2) (o _ (by omega))
 rcases h8 with rfl | ⟨g, Xk, rfl, hg, hO, hoff, hX⟩
 ·exact ⟨a, q, lo, ap, qp, lc, X, rfl, h7.1, h7.2, hc, row h4 (fun U hU => (h6 U hU).1), row h5 (fun U hU => (h6 U hU).2), Or.inl rfl, fun i hi => absurd hi (Nat.not_lt_zero _), fun U hU => ⟨(h6 U (by omega)).1, (h6 U (by omega)).2, fun h => absurd h (Nat.lt_irrefl _)⟩, (h1.mod s1 (Nat.le_refl _)).mod s2 (by omega)⟩
 ·refine ⟨a, q, _, ap, qp, lc, Xk, rfl, h7.1, h7.2, hc, row h4 (fun U hU => (h6 U hU).1), row h5 (fun U hU => (h6 U hU).2), ((hO.mod s1 (by omega)).mod s2 (by omega)).rvs, fun i hi => ?_, fun U hU => ⟨(h6 U (by omega)).1, (h6 U (by omega)).2, fun _ a ha => by cases ha; show g ≠ U; omega⟩, (h1.mod s1 (Nat.le_refl _)).mod s2 (by omega)⟩
  obtain ⟨b, p, e, e2, e3, e4, _⟩ := (hX i hi).1 hi
  exact ⟨b, p, e, e2, row e3 e4, fun U hU => e4 U (by omega)⟩
set_option maxRecDepth 20000 in
set_option maxHeartbeats 8000000 in
theorem kitCopyMc (N tick gate rmin : Int) (aa qa ro : Option Addr) (al ac ql qc rl rc : Nat) (A Q : Nat → Int) (X : Nat → RV) (ha : al ≤ 1000000) (hq : ql ≤ 1000000) (hl : rl ≤ 1000) (na : aa = none → al = 0 ∧ ac = 0) (nq : qa = none → ql = 0 ∧ qc = 0) (nr : ro = none → rl = 0 ∧ rc = 0) (w : World) (r1 : Row w aa al A) (r2 : Row w qa ql Q) (r3 : RVs w ro rl X) (r4 : ∀ i, i < rl → Row w (X i).h.ao (X i).h.len (X i).h.Z ∧ (X i).h.len ≤ 1000000 ∧ ((X i).h.ao = none → (X i).h.len = 0 ∧ (X i).h.cap = 0)) :
  Calls Tryz.prog 12 #[.agg #[.int .i64 N, .slice aa al ac, .slice qa ql qc, .int .i64 tick, .int .i64 gate, .int .i64 rmin, .slice ro rl rc]] w fun e w' => CopyMC N tick gate rmin ro al ql rl rc A Q X w e w' := by
 have G1 : Hid (Kp w ((w.alloc (.cells #[.int .i64 N, .slice aa al ac, .slice qa ql qc, .int .i64 tick, .int .i64 gate, .int .i64 rmin, .slice ro rl rc] 25)).alloc (.cells #[.int .i64 0, .slice none 0 0, .slice none 0 0, .int .i64 0, .int .i64 0, .int .i64 0, .slice none 0 0] 25)) ∧ Blk w.heap.size #[.int .i64 N, .slice aa al ac, .slice qa ql qc, .int .i64 tick, .int .i64 gate, .int .i64 rmin, .slice ro rl rc] 25 ((w.alloc (.cells #[.int .i64 N, .slice aa al ac, .slice qa ql qc, .int .i64 tick, .int .i64 gate, .int .i64 rmin, .slice ro rl rc] 25)).alloc (.cells #[.int .i64 0, .slice none 0 0, .slice none 0 0, .int .i64 0, .int .i64 0, .int .i64 0, .slice none 0 0] 25)) ∧ Blk (w.heap.size + 1) #[.int .i64 0, .slice none 0 0, .slice none 0 0, .int .i64 0, .int .i64 0, .int .i64 0, .slice none 0 0] 25 ((w.alloc (.cells #[.int .i64 N, .slice aa al ac, .slice qa ql qc, .int .i64 tick, .int .i64 gate, .int .i64 rmin, .slice ro rl rc] 25)).alloc (.cells #[.int .i64 0, .slice none 0 0, .slice none 0 0, .int .i64 0, .int .i64 0, .int .i64 0, .slice none 0 0] 25))) := ⟨((Kp.refl _).alloc _ _).alloc _ _, Blk.grown (Blk.new w _ _) ((Grown.refl _).alloc _ _), blk_new2 w _ _ _⟩
 have CX := hide (fun W (g : Kp w W) => kitCopyN aa al ac A ha na W (r1.kp g))
 have CP := hide (fun W (g : Kp w W) => kitCopyN qa ql qc Q hq nq W (r2.kp g))
 have HR := hide (And.intro r3 (And.intro r4 nr))
 have y0 : ((w.alloc (.cells #[.int .i64 N, .slice aa al ac, .slice qa ql qc, .int .i64 tick, .int .i64 gate, .int .i64 rmin, .slice ro rl rc] 25)).alloc (.cells #[.int .i64 0, .slice none 0 0, .slice none 0 0, .int .i64 0, .int .i64 0, .int .i64 0, .slice none 0 0] 25)).cell? ⟨w.heap.size, 0, none⟩ = some (.int .i64 N) := Blk.cell (unhide G1).2.1 0
 have y1 : ((w.alloc (.cells #[.int .i64 N, .slice aa al ac, .slice qa ql qc, .int .i64 tick, .int .i64 gate, .int .i64 rmin, .slice ro rl rc] 25)).alloc (.cells #[.int .i64 0, .slice none 0 0, .slice none 0 0, .int .i64 0, .int .i64 0, .int .i64 0, .slice none 0 0] 25)).cell? ⟨w.heap.size, 1, none⟩ = some (.slice aa al ac) := Blk.cell (unhide G1).2.1 1
 have y2 : ((w.alloc (.cells #[.int .i64 N, .slice aa al ac, .slice qa ql qc, .int .i64 tick, .int .i64 gate, .int .i64 rmin, .slice ro rl rc] 25)).alloc (.cells #[.int .i64 0, .slice none 0 0, .slice none 0 0, .int .i64 0, .int .i64 0, .int .i64 0, .slice none 0 0] 25)).cell? ⟨w.heap.size, 2, none⟩ = some (.slice qa ql qc) := Blk.cell (unhide G1).2.1 2
 have y3 : ((w.alloc (.cells #[.int .i64 N, .slice aa al ac, .slice qa ql qc, .int .i64 tick, .int .i64 gate, .int .i64 rmin, .slice ro rl rc] 25)).alloc (.cells #[.int .i64 0, .slice none 0 0, .slice none 0 0, .int .i64 0, .int .i64 0, .int .i64 0, .slice none 0 0] 25)).cell? ⟨w.heap.size, 3, none⟩ = some (.int .i64 tick) := Blk.cell (unhide G1).2.1 3
 have y4 : ((w.alloc (.cells #[.int .i64 N, .slice aa al ac, .slice qa ql qc, .int .i64 tick, .int .i64 gate, .int .i64 rmin, .slice ro rl rc] 25)).alloc (.cells #[.int .i64 0, .slice none 0 0, .slice none 0 0, .int .i64 0, .int .i64 0, .int .i64 0, .slice none 0 0] 25)).cell? ⟨w.heap.size, 4, none⟩ = some (.int .i64 gate) := Blk.cell (unhide G1).2.1 4
 have y5 : ((w.alloc (.cells #[.int .i64 N, .slice aa al ac, .slice qa ql qc, .int .i64 tick, .int .i64 gate, .int .i64 rmin, .slice ro rl rc] 25)).alloc (.cells #[.int .i64 0, .slice none 0 0, .slice none 0 0, .int .i64 0, .int .i64 0, .int .i64 0, .slice none 0 0] 25)).cell? ⟨w.heap.size, 5, none⟩ = some (.int .i64 rmin) := Blk.cell (unhide G1).2.1 5
 have y6 : ((w.alloc (.cells #[.int .i64 N, .slice aa al ac, .slice qa ql qc, .int .i64 tick, .int .i64 gate, .int .i64 rmin, .slice ro rl rc] 25)).alloc (.cells #[.int .i64 0, .slice none 0 0, .slice none 0 0, .int .i64 0, .int .i64 0, .int .i64 0, .slice none 0 0] 25)).cell? ⟨w.heap.size, 6, none⟩ = some (.slice ro rl rc) := Blk.cell (unhide G1).2.1 6
 clear ha hq na nq nr r1 r2 r3 r4
 go_enter Tryz.func12, Tryz.ntmps12
 go_wp2_with fail
 generalize ((w.alloc (.cells #[.int .i64 N, .slice aa al ac, .slice qa ql qc, .int .i64 tick, .int .i64 gate, .int .i64 rmin, .slice ro rl rc] 25)).alloc (.cells #[.int .i64 0, .slice none 0 0, .slice none 0 0, .int .i64 0, .int .i64 0, .int .i64 0, .slice none 0 0] 25)) = w1 at *
 refine (unhide CX _ (unhide G1).1).mono ?_
 rintro e w2 ⟨a, ap, rfl, hp, hr, ho, k2⟩
 have l1 := Blk.lt (unhide G1).2.2
 have b2 := Blk.kp (unhide G1).2.1 k2
 have f2 := Blk.free b2
 have sm : Mod w.heap.size w2 (w2.setCell ⟨w.heap.size, 1, none⟩ (.slice a al ap)) := (Mod.refl _ _).setCell _ _
 have G2 : Hid (Kp w (w2.setCell ⟨w.heap.size, 1, none⟩ (.slice a al ap)) ∧ Blk w.heap.size #[.int .i64 N, .slice a al ap, .slice qa ql qc, .int .i64 tick, .int .i64 gate, .int .i64 rmin, .slice ro rl rc] 25 (w2.setCell ⟨w.heap.size, 1, none⟩ (.slice a al ap)) ∧ Blk (w.heap.size + 1) #[.int .i64 0, .slice none 0 0, .slice none 0 0, .int .i64 0, .int .i64 0, .int .i64 0, .slice none 0 0] 25 (w2.setCell ⟨w.heap.size, 1, none⟩ (.slice a al ap)) ∧ FitL a al ap ∧ Row (w2.setCell ⟨w.heap.size, 1, none⟩ (.slice a al ap)) a al A ∧ ∀ U, U < w.heap.size + 2 → Off U al a) := ⟨((unhide G1).1.trans k2).mod sm (Nat.le_refl _), Blk.set b2 1 _, Blk.keep (Blk.kp (unhide G1).2.2 k2) sm (by omega), hp, hr.mk (Mk.of sm) (ho _ (by omega)), fun U hU => ho U (by omega)⟩
 have z0 : w2.cell? ⟨w.heap.size, 0, none⟩ = some (.int .i64 N) := Blk.cell b2 0
 have z1 : w2.cell? ⟨w.heap.size, 1, none⟩ = some (.slice aa al ac) := Blk.cell b2 1
 have z2 : w2.cell? ⟨w.heap.size, 2, none⟩ = some (.slice qa ql qc) := Blk.cell b2 2
 have z3 : w2.cell? ⟨w.heap.size, 3, none⟩ = some (.int .i64 tick) := Blk.cell b2 3
 have z4 : w2.cell? ⟨w.heap.size, 4, none⟩ = some (.int .i64 gate) := Blk.cell b2 4
 have z5 : w2.cell? ⟨w.heap.size, 5, none⟩ = some (.int .i64 rmin) := Blk.cell b2 5
 have z6 : w2.cell? ⟨w.heap.size, 6, none⟩ = some (.slice ro rl rc) := Blk.cell b2 6
 clear hp hr ho k2 b2 sm CX G1 l1 y0 y1 y2 y3 y4 y5 y6
 go_upto_region 2 with fail
 clear f2 z0 z1 z2 z3 z4 z5 z6
 generalize (w2.setCell ⟨w.heap.size, 1, none⟩ (.slice a al ap)) = w3 at *
 have y0 : w3.cell? ⟨w.heap.size, 0, none⟩ = some (.int .i64 N) := Blk.cell (unhide G2).2.1 0
 have y1 : w3.cell? ⟨w.heap.size, 1, none⟩ = some (.slice a al ap) := Blk.cell (unhide G2).2.1 1
 have y2 : w3.cell? ⟨w.heap.size, 2, none⟩ = some (.slice qa ql qc) := Blk.cell (unhide G2).2.1 2
 have y3 : w3.cell? ⟨w.heap.size, 3, none⟩ = some (.int .i64 tick) := Blk.cell (unhide G2).2.1 3
 have y4 : w3.cell? ⟨w.heap.size, 4, none⟩ = some (.int .i64 gate) := Blk.cell (unhide G2).2.1 4
 have y5 : w3.cell? ⟨w.heap.size, 5, none⟩ = some (.int .i64 rmin) := Blk.cell (unhide G2).2.1 5
 have y6 : w3.cell? ⟨w.heap.size, 6, none⟩ = some (.slice ro rl rc) := Blk.cell (unhide G2).2.1 6
 go_wp2_with fail
 refine (unhide CP _ (unhide G2).1).mono ?_
 rintro e w4 ⟨q, qp, rfl, hp2, hr2, ho2, k4⟩
 have l3 := Blk.lt (unhide G2).2.2.1
 have b4 := Blk.kp (unhide G2).2.1 k4
 have f4 := Blk.free b4
 have sm : Mod w.heap.size w4 (w4.setCell ⟨w.heap.size, 2, none⟩ (.slice q ql qp)) := (Mod.refl _ _).setCell _ _
 have G4 : Hid (Kp w (w4.setCell ⟨w.heap.size, 2, none⟩ (.slice q ql qp)) ∧ Blk w.heap.size #[.int .i64 N, .slice a al ap, .slice q ql qp, .int .i64 tick, .int .i64 gate, .int .i64 rmin, .slice ro rl rc] 25 (w4.setCell ⟨w.heap.size, 2, none⟩ (.slice q ql qp)) ∧ Blk (w.heap.size + 1) #[.int .i64 0, .slice none 0 0, .slice none 0 0, .int .i64 0, .int .i64 0, .int .i64 0, .slice none 0 0] 25 (w4.setCell ⟨w.heap.size, 2, none⟩ (.slice q ql qp)) ∧ (FitL a al ap ∧ FitL q ql qp) ∧ Row (w4.setCell ⟨w.heap.size, 2, none⟩ (.slice q ql qp)) a al A ∧ Row (w4.setCell ⟨w.heap.size, 2, none⟩ (.slice q ql qp)) q ql Q ∧ ∀ U, U < w.heap.size + 2 → Off U al a ∧ Off U ql q) := ⟨((unhide G2).1.trans k4).mod sm (Nat.le_refl _), Blk.set b4 2 _, Blk.keep (Blk.kp (unhide G2).2.2.1 k4) sm (by omega), ⟨(unhide G2).2.2.2.1, hp2⟩, ((unhide G2).2.2.2.2.1.kp k4).mk (Mk.of sm) ((unhide G2).2.2.2.2.2 _ (by omega)), hr2.mk (Mk.of sm) (ho2 _ (by omega)), fun U hU => ⟨(unhide G2).2.2.2.2.2 U hU, ho2 U (by omega)⟩⟩
 have z0 : w4.cell? ⟨w.heap.size, 0, none⟩ = some (.int .i64 N) := Blk.cell b4 0
 have z1 : w4.cell? ⟨w.heap.size, 1, none⟩ = some (.slice a al ap) := Blk.cell b4 1
 have z2 : w4.cell? ⟨w.heap.size, 2, none⟩ = some (.slice qa ql qc) := Blk.cell b4 2
 have z3 : w4.cell? ⟨w.heap.size, 3, none⟩ = some (.int .i64 tick) := Blk.cell b4 3
 have z4 : w4.cell? ⟨w.heap.size, 4, none⟩ = some (.int .i64 gate) := Blk.cell b4 4
 have z5 : w4.cell? ⟨w.heap.size, 5, none⟩ = some (.int .i64 rmin) := Blk.cell b4 5
 have z6 : w4.cell? ⟨w.heap.size, 6, none⟩ = some (.slice ro rl rc) := Blk.cell b4 6
 clear hp2 hr2 ho2 k4 b4 sm CP G2 l3 y0 y1 y2 y3 y4 y5 y6
 go_upto_region 3 with fail
 clear f4 z0 z1 z2 z3 z4 z5 z6
 generalize (w4.setCell ⟨w.heap.size, 2, none⟩ (.slice q ql qp)) = w5 at *
 have y6 : w5.cell? ⟨w.heap.size, 6, none⟩ = some (.slice ro rl rc) := Blk.cell (unhide G4).2.1 6
 go_cut [3] (fun s3 wx => ∃ lo lc, s3 = .slice lo rl lc ∧ Hid (FitL lo rl lc ∧ CmS w N tick gate rmin ro al ql rl rc A Q X a q ap qp 0 lo wx))
 case first =>
  obtain ⟨i0, hi, hz0, hz1, hz2⟩ := info_parts Tryz.infoRow
  have gy := heap_gt y6
  have OM := hide (World.ownsRow_made (base := w5.heap.size) (e := 62) (size := 3) w5 #[] 0 (Nat.le_refl _) (by unfold maxLen; omega) (by simp))
  have KA : Hid (Kp w5 (w5.alloc (.cells #[] 62))) := (Kp.refl _).alloc _ _
  cases ro with
  | none =>
   obtain ⟨rfl, rfl⟩ := (unhide HR).2.2 rfl
   have DN : Hid (FitL (some ⟨w5.heap.size, 0, none⟩) 0 0 ∧ CmS w N tick gate rmin none al ql 0 0 A Q X a q ap qp 0 (some ⟨w5.heap.size, 0, none⟩) (w5.alloc (.cells #[] 62))) := ⟨⟨Nat.le_refl _, fun e => by cases e⟩, (unhide G4).1.trans (unhide KA), Blk.kp (unhide G4).2.1 (unhide KA), Blk.kp (unhide G4).2.2.1 (unhide KA), (unhide G4).2.2.2.2.1.kp (unhide KA), (unhide G4).2.2.2.2.2.1.kp (unhide KA), (unhide G4).2.2.2.2.2.2, (unhide G4).2.2.2.1, Or.inl rfl⟩
   clear G4
   go_wp2_with (at_builtin; refine wpList_append_own_none rfl _ _ 23 rfl w5.heap.size 62 i0 3 Tryz.underlying23 hi _ _ _ rfl (unhide OM) rfl ?_)
   go_meet
   exact ⟨_, _, rfl, DN⟩
  | some ad =>
   have NEW : Hid (∀ j u, (flatR ((List.range rl).map X))[j]? = some u → (w5.alloc (.cells #[] 62)).cell? (ad.add j) = some u) := fun j u hu => by
    have hlen : (flatR ((List.range rl).map X)).length = rl * 3 := by rw [flatR_len]; simp
    have hj : j < rl * 3 := by
     rcases Nat.lt_or_ge j (rl * 3) with h | h
     ·exact h
     ·rw [List.getElem?_eq_none (by omega)] at hu; cases hu
    obtain ⟨i, r, hj2, hr3⟩ : ∃ i r, j = i * 3 + r ∧ r < 3 := ⟨j / 3, j % 3, by omega, by omega⟩
    have hil : i < rl := by omega
    have hx : ((List.range rl).map X)[i]? = some (X i) := by rw [List.getElem?_map, List.getElem?_range hil]; rfl
    have hf := flatR_at _ i r _ hx hr3
    rw [hj2, hf] at hu
    have kk := ((unhide G4).1.trans (unhide KA))
    have hc := (unhide HR).1.kp kk
    rcases hc with hc | ⟨b, o, e, hc⟩
    ·omega
    ·cases e
     have := hc i hil r hr3
     rw [Go.WideShapes.add_plain, hj2, ← Nat.add_assoc, this, hu]
   have LN : Hid ((flatR ((List.range rl).map X)).length = rl * 3) := by show _ = _; rw [flatR_len]; simp
   have ONE : Hid (∀ u ∈ flatR ((List.range rl).map X), u.oneCell' = true) := fun u hu => by
    obtain ⟨x, hx, hu⟩ := List.mem_flatMap.1 hu
    exact cells_oneRV x u hu
   have rl1 := hl
   go_wp2_with (at_builtin; refine wpList_append_own _ rfl _ _ 23 rfl w5.heap.size 62 i0 (.agg #[.int .i64 0, .slice none 0 0, .int .i64 0]) 3 40 Tryz.underlying23 hi hz0 hz1 hz2 rfl (by decide) _ _ _ rfl (unhide OM) ad rl rc (flatR ((List.range rl).map X)) rfl (unhide LN) (unhide NEW) (unhide ONE) (by unfold maxLen; omega) (by omega) (by simp) ?_; intro v6 w6 hown6 hgrow6 _; obtain ⟨lo, lc, rfl, DN⟩ := cmStart (unhide G4) (unhide KA) (unhide OM) hown6 hgrow6 (Blk.lt (unhide G4).2.2.1); have HDN := hide DN; clear hown6 hgrow6 DN)
   go_meet
   exact ⟨lo, lc, rfl, HDN⟩
 case rest =>
  obtain ⟨lo, lc, rfl, HD⟩ := hcut
  clear G4 y6
  have LC := hide (unhide HD).1
  have HS := hide (unhide HD).2
  clear HD
  go_wp2_with fail
  go_loopw [4] (fun i wr => ∃ k : Nat, k ≤ rl ∧ i = .int .i64 k ∧ Hid (CmS w N tick gate rmin ro al ql rl rc A Q X a q ap qp k lo wr)) (fun i _ => rl - (intOf i).toNat)
  case atStart => exact ⟨0, Nat.zero_le _, rfl, HS⟩
  case round =>
   obtain ⟨k, hk, rfl, HI⟩ := hrel
   clear HS
   by_cases hlt : k < rl
   ·obtain ⟨g, Xk, rfl, hg, hO, _, hX⟩ := (unhide HI).2.2.2.2.2.2.2.resolve_left (by omega)
    obtain ⟨_, _, e0, c0, c1, c2⟩ := hO.rvs.at hlt
    cases e0
    rw [(hX k hlt).2 (Nat.le_refl _), Nat.zero_add] at c1
    have i0 : (0 : Int) ≤ (k : Int) := Int.natCast_nonneg _
    have i1 : (k : Int) < (rl : Int) := Int.ofNat_lt.2 hlt
    have B1 : Hid (k + 1 ≤ rl) := hlt
    obtain ⟨q1, q2, q3⟩ := (unhide HR).2.1 k hlt
    have CK := hide (kitCopyN (X k).h.ao (X k).h.len (X k).h.cap (X k).h.Z q2 q3 wr (q1.kp (unhide HI).1))
    clear hg hO hX c0 c2 q1 q2 q3
    go_wp2_with fail
    refine (unhide CK).mono ?_
    rintro e w6 ⟨b, p, rfl, hp, hr, ho, k6⟩
    have P := CmS.step (unhide HI) hlt k6 hp hr ho
    have f6 : w6.frozen? ⟨g, k * 3 + 1, none⟩ = false := P.2.1
    have c6 := P.2.2
    have S7 := hide P.1
    clear P hp hr ho k6 CK c1 HI
    go_wp2
    go_roundw
    case rel => exact ⟨k + 1, unhide B1, by go_num, S7⟩
    case measure => have := unhide B1; simp [intOf]; omega
   ·obtain rfl : k = rl := by omega
    have b1 := (unhide HI).2.1
    have b2 := (unhide HI).2.2.1
    have y0 : wr.cell? ⟨w.heap.size, 0, none⟩ = some (.int .i64 N) := Blk.cell b1 0
    have y1 : wr.cell? ⟨w.heap.size, 1, none⟩ = some (.slice a al ap) := Blk.cell b1 1
    have y2 : wr.cell? ⟨w.heap.size, 2, none⟩ = some (.slice q ql qp) := Blk.cell b1 2
    have y3 : wr.cell? ⟨w.heap.size, 3, none⟩ = some (.int .i64 tick) := Blk.cell b1 3
    have y4 : wr.cell? ⟨w.heap.size, 4, none⟩ = some (.int .i64 gate) := Blk.cell b1 4
    have y5 : wr.cell? ⟨w.heap.size, 5, none⟩ = some (.int .i64 rmin) := Blk.cell b1 5
    have y6 : wr.cell? ⟨w.heap.size, 6, none⟩ = some (.slice ro k rc) := Blk.cell b1 6
    have x0 : wr.cell? ⟨w.heap.size + 1, 0, none⟩ = some (.int .i64 0) := Blk.cell b2 0
    have x1 : wr.cell? ⟨w.heap.size + 1, 1, none⟩ = some (.slice none 0 0) := Blk.cell b2 1
    have x2 : wr.cell? ⟨w.heap.size + 1, 2, none⟩ = some (.slice none 0 0) := Blk.cell b2 2
    have x3 : wr.cell? ⟨w.heap.size + 1, 3, none⟩ = some (.int .i64 0) := Blk.cell b2 3
    have x4 : wr.cell? ⟨w.heap.size + 1, 4, none⟩ = some (.int .i64 0) := Blk.cell b2 4
    have x5 : wr.cell? ⟨w.heap.size + 1, 5, none⟩ = some (.int .i64 0) := Blk.cell b2 5
    have x6 : wr.cell? ⟨w.heap.size + 1, 6, none⟩ = some (.slice none 0 0) := Blk.cell b2 6
    have f1 := Blk.free b1
    have f3 := Blk.free b2
    clear b1 b2
    go_upto_region 9 with fail
    have s1 : Mod w.heap.size wr (wr.setCell ⟨w.heap.size, 6, none⟩ (.slice lo k lc)) := (Mod.refl _ _).setCell _ _
    have b1 := Blk.set (unhide HI).2.1 6 (.slice lo k lc)
    have b2 := Blk.keep (unhide HI).2.2.1 s1 (by omega)
    have S1 := hide (And.intro s1 b2)
    clear y0 y1 y2 y3 y4 y5 y6 x0 x1 x2 x3 x4 x5 x6 f1 f3 s1
    generalize wr.setCell ⟨w.heap.size, 6, none⟩ (.slice lo k lc) = wS at *
    have y0 : wS.cell? ⟨w.heap.size, 0, none⟩ = some (.int .i64 N) := Blk.cell b1 0
    have y1 : wS.cell? ⟨w.heap.size, 1, none⟩ = some (.slice a al ap) := Blk.cell b1 1
    have y2 : wS.cell? ⟨w.heap.size, 2, none⟩ = some (.slice q ql qp) := Blk.cell b1 2
    have y3 : wS.cell? ⟨w.heap.size, 3, none⟩ = some (.int .i64 tick) := Blk.cell b1 3
    have y4 : wS.cell? ⟨w.heap.size, 4, none⟩ = some (.int .i64 gate) := Blk.cell b1 4
    have y5 : wS.cell? ⟨w.heap.size, 5, none⟩ = some (.int .i64 rmin) := Blk.cell b1 5
    have y6 : wS.cell? ⟨w.heap.size, 6, none⟩ = some (.slice lo k lc) := Blk.cell b1 6
    have x0 : wS.cell? ⟨w.heap.size + 1, 0, none⟩ = some (.int .i64 0) := Blk.cell b2 0
    have x1 : wS.cell? ⟨w.heap.size + 1, 1, none⟩ = some (.slice none 0 0) := Blk.cell b2 1
    have x2 : wS.cell? ⟨w.heap.size + 1, 2, none⟩ = some (.slice none 0 0) := Blk.cell b2 2
    have x3 : wS.cell? ⟨w.heap.size + 1, 3, none⟩ = some (.int .i64 0) := Blk.cell b2 3
    have x4 : wS.cell? ⟨w.heap.size + 1, 4, none⟩ = some (.int .i64 0) := Blk.cell b2 4
    have x5 : wS.cell? ⟨w.heap.size + 1, 5, none⟩ = some (.int .i64 0) := Blk.cell b2 5
    have x6 : wS.cell? ⟨w.heap.size + 1, 6, none⟩ = some (.slice none 0 0) := Blk.cell b2 6
    have f3 := Blk.free b2
    clear b1 b2
    go_wp2
    have P : Blk (w.heap.size + 1) #[.int .i64 N, .slice a al ap, .slice q ql qp, .int .i64 tick, .int .i64 gate, .int .i64 rmin, .slice lo k lc] 25 (((((((wS.setCell ⟨w.heap.size + 1, 0, none⟩ (.int .i64 N)).setCell ⟨w.heap.size + 1, 1, none⟩ (.slice a al ap)).setCell ⟨w.heap.size + 1, 2, none⟩ (.slice q ql qp)).setCell ⟨w.heap.size + 1, 3, none⟩ (.int .i64 tick)).setCell ⟨w.heap.size + 1, 4, none⟩ (.int .i64 gate)).setCell ⟨w.heap.size + 1, 5, none⟩ (.int .i64 rmin)).setCell ⟨w.heap.size + 1, 6, none⟩ (.slice lo k lc)) := Blk.set (Blk.set (Blk.set (Blk.set (Blk.set (Blk.set (Blk.set (unhide S1).2 0 _) 1 _) 2 _) 3 _) 4 _) 5 _) 6 _
    have sm : Mod (w.heap.size + 1) wS (((((((wS.setCell ⟨w.heap.size + 1, 0, none⟩ (.int .i64 N)).setCell ⟨w.heap.size + 1, 1, none⟩ (.slice a al ap)).setCell ⟨w.heap.size + 1, 2, none⟩ (.slice q ql qp)).setCell ⟨w.heap.size + 1, 3, none⟩ (.int .i64 tick)).setCell ⟨w.heap.size + 1, 4, none⟩ (.int .i64 gate)).setCell ⟨w.heap.size + 1, 5, none⟩ (.int .i64 rmin)).setCell ⟨w.heap.size + 1, 6, none⟩ (.slice lo k lc)) := (((((((Mod.refl _ _).setCell _ _).setCell _ _).setCell _ _).setCell _ _).setCell _ _).setCell _ _).setCell _ _
    generalize (((((((wS.setCell ⟨w.heap.size + 1, 0, none⟩ (.int .i64 N)).setCell ⟨w.heap.size + 1, 1, none⟩ (.slice a al ap)).setCell ⟨w.heap.size + 1, 2, none⟩ (.slice q ql qp)).setCell ⟨w.heap.size + 1, 3, none⟩ (.int .i64 tick)).setCell ⟨w.heap.size + 1, 4, none⟩ (.int .i64 gate)).setCell ⟨w.heap.size + 1, 5, none⟩ (.int .i64 rmin)).setCell ⟨w.heap.size + 1, 6, none⟩ (.slice lo k lc)) = wE at *
    have c0' : wE.cell? ⟨w.heap.size + 1, 0, none⟩ = some (.int .i64 N) := Blk.cell P 0
    have c1' : wE.cell? ⟨w.heap.size + 1, 1, none⟩ = some (.slice a al ap) := Blk.cell P 1
    have c2' : wE.cell? ⟨w.heap.size + 1, 2, none⟩ = some (.slice q ql qp) := Blk.cell P 2
    have c3' : wE.cell? ⟨w.heap.size + 1, 3, none⟩ = some (.int .i64 tick) := Blk.cell P 3
    have c4' : wE.cell? ⟨w.heap.size + 1, 4, none⟩ = some (.int .i64 gate) := Blk.cell P 4
    have c5' : wE.cell? ⟨w.heap.size + 1, 5, none⟩ = some (.int .i64 rmin) := Blk.cell P 5
    have c6' : wE.cell? ⟨w.heap.size + 1, 6, none⟩ = some (.slice lo k lc) := Blk.cell P 6
    refine bodyPost_ret (v := .agg #[.int .i64 N, .slice a al ap, .slice q ql qp, .int .i64 tick, .int .i64 gate, .int .i64 rmin, .slice lo k lc]) (by simp [results, Tryz.results12, go_sem, c0', c1', c2', c3', c4', c5', c6']) rfl ?_
    exact cmEnd (unhide HI) (unhide LC) (unhide S1).1 sm
def simRV (x y : RV) : Prop := x.s = y.s ∧ x.r = y.r ∧ x.h.len = y.h.len ∧ x.h.Z = y.h.Z
def simD (m m' : DV) : Prop := m'.N = m.N ∧ m'.tick = m.tick ∧ m'.gate = m.gate ∧ m'.rmin = m.rmin ∧ (m'.A.len = m.A.len ∧ m'.A.Z = m.A.Z) ∧ (m'.Q.len = m.Q.len ∧ m'.Q.Z = m.Q.Z) ∧ m'.rl = m.rl ∧ ∀ i, i < m.rl → simRV (m'.X i) (m.X i)
theorem simD.symm {m m' : DV} (h : simD m m') : simD m' m := by
 obtain ⟨h1, h2, h3, h4, ⟨h5, h6⟩, ⟨h7, h8⟩, h9, h10⟩ := h
 exact ⟨h1.symm, h2.symm, h3.symm, h4.symm, ⟨h5.symm, h6.symm⟩, ⟨h7.symm, h8.symm⟩, h9.symm, fun i hi => by
  obtain ⟨a, b, c, d⟩ := h10 i (by omega)
  exact ⟨a.symm, b.symm, c.symm, d.symm⟩⟩
theorem simD.last {m m' : DV} (h : simD m m') : ∀ i, i ≤ m.rl → lastS m'.X i = lastS m.X i
 | 0, _ => rfl
 | i + 1, hi => (h.2.2.2.2.2.2.2 i hi).1
theorem simD.ok {m m' : DV} (h : simD m m') (k : okD m) : okD m' := by
 obtain ⟨h1, h2, h3, h4, ⟨h5, h6⟩, ⟨h7, h8⟩, h9, h10⟩ := h
 obtain ⟨k1, k2, k3, k4, k5, k6, k7⟩ := k
 have hl := simD.last (m := m) (m' := m') ⟨h1, h2, h3, h4, ⟨h5, h6⟩, ⟨h7, h8⟩, h9, h10⟩
 refine ⟨by rw [h1]; exact k1, by rw [h1, h5, h6, h7, h8]; exact k2, by rw [h2]; exact k3, by rw [h3]; exact k4, by rw [h4]; exact k5, by rw [h9]; exact k6, fun i hi => ?_⟩
 rw [h9] at hi
 obtain ⟨e1, e2, e3, e4⟩ := h10 i hi
 have := k7 i hi
 unfold okRow at *
 rw [h1, h4, hl i (by omega), e1, e2, e3, e4]
 exact this
def CopyDP (m : DV) (w : World) (e : Ending) (w' : World) : Prop := ∃ m' : DV, e = .returned (.agg m'.cells) ∧ m'.good w' ∧ simD m m' ∧ (∀ U, U < w.heap.size → Off U m'.A.len m'.A.ao ∧ Off U m'.Q.len m'.Q.ao ∧ Off U m'.rl m'.ro ∧ ∀ i, i < m'.rl → Off U (m'.X i).h.len (m'.X i).h.ao) ∧ Kp w w'
theorem kitCopyD (m : DV) (w : World) (h : m.good w) : Calls Tryz.prog 12 #[.agg m.cells] w fun e w' => CopyDP m w e w' := by
 obtain ⟨hA, hQ, hr, hX, hf, hi, l1, l2, l3, l4⟩ := h
 refine (kitCopyMc m.N m.tick m.gate m.rmin m.A.ao m.Q.ao m.ro m.A.len m.A.cap m.Q.len m.Q.cap m.rl m.rc m.A.Z m.Q.Z m.X (by omega) (by omega) (by omega) hA.2.1.2 hQ.2.1.2 hf.2 w hA.1 hQ.1 hr (fun i hi => ⟨(hX i hi).1.1, by have := l4 i hi; omega, (hX i hi).1.2.1.2⟩)).mono ?_
 rintro e w' ⟨a, q, lo, ap, qp, lc, Y, rfl, f1, f2, f3, r1, r2, r3, hY, ho, kk⟩
 have hy : ∀ i, i < m.rl → simRV (Y i) (m.X i) := fun i hi => by
  obtain ⟨b, p, e, _⟩ := hY i hi
  rw [e]
  exact ⟨rfl, rfl, rfl, rfl⟩
 refine ⟨⟨m.N, ⟨a, m.A.len, ap, m.A.Z⟩, ⟨q, m.Q.len, qp, m.Q.Z⟩, m.tick, m.gate, m.rmin, lo, m.rl, lc, Y⟩, rfl, ⟨⟨r1, f1, hA.2.2⟩, ⟨r2, f2, hQ.2.2⟩, r3, fun i hi => ?_, f3, hi, l1, l2, l3, fun i hi => ?_⟩, ⟨rfl, rfl, rfl, rfl, ⟨rfl, rfl⟩, ⟨rfl, rfl⟩, rfl, hy⟩, fun U hU => ⟨(ho U hU).1, (ho U hU).2.1, (ho U hU).2.2, fun i hi => ?_⟩, kk⟩
 ·have hi : i < m.rl := hi
  obtain ⟨b, p, e, e2, e3, _⟩ := hY i hi
  show (Y i).h.good w' ∧ I64 (Y i).s ∧ I64 (Y i).r
  rw [e]
  exact ⟨⟨e3, e2, (hX i hi).1.2.2⟩, (hX i hi).2⟩
 ·have hi : i < m.rl := hi
  obtain ⟨b, p, e, _⟩ := hY i hi
  show (Y i).h.len ≤ 12
  rw [e]
  exact l4 i hi
 ·have hi : i < m.rl := hi
  obtain ⟨b, p, e, _, _, e4⟩ := hY i hi
  show Off U (Y i).h.len (Y i).h.ao
  rw [e]
  exact e4 U hU
theorem kitSameD (m m' : DV) (w : World) (h : m.good w) (h' : m'.good w) (s : simD m m') : Calls Tryz.prog 23 #[.agg m'.cells, .agg m.cells] w fun e w' => e = .returned (.bool true) ∧ Kp w w' := by
 obtain ⟨s1, s2, s3, s4, ⟨s5, s6⟩, ⟨s7, s8⟩, s9, s10⟩ := s
 have e : m'.cells = #[.int .i64 m.N, .slice m'.A.ao m.A.len m'.A.cap, .slice m'.Q.ao m.Q.len m'.Q.cap, .int .i64 m.tick, .int .i64 m.gate, .int .i64 m.rmin, .slice m'.ro m.rl m'.rc] := by
  unfold DV.cells
  rw [s1, s2, s3, s4, s5, s7, s9]
 obtain ⟨hA, hQ, hr, hX, hf, _, l1, l2, l3, l4⟩ := h
 obtain ⟨hA', hQ', hr', hX', hf', _⟩ := h'
 rw [e]
 have rA : Row w m'.A.ao m.A.len m.A.Z := by have := hA'.1; unfold LV.ok at this; rwa [s5, s6] at this
 have rQ : Row w m'.Q.ao m.Q.len m.Q.Z := by have := hQ'.1; unfold LV.ok at this; rwa [s7, s8] at this
 rw [s9] at hr' hX'
 exact kitSameMc m.N m.tick m.gate m.rmin m'.A.ao m.A.ao m'.Q.ao m.Q.ao m'.ro m.ro m.A.len m'.A.cap m.A.cap m.Q.len m'.Q.cap m.Q.cap m.rl m'.rc m.rc m.A.Z m.Q.Z m'.X m.X (by omega) (by omega) (by omega) w rA hA.1 rQ hQ.1 ⟨hr', hr, fun i hi => by
  obtain ⟨a, b, c, d⟩ := s10 i hi
  exact ⟨⟨a, b, c, fun p _ => by rw [d]⟩, by rw [c]; have := l4 i hi; omega, (hX' i hi).1.1, (hX i hi).1.1⟩⟩
end Go.Proofs.YtjobgjcfkomhpaaGreat
namespace Go.Proofs.Wd
theorem four {p : Nat} (h : p < 4) : p = 0 ∨ p = 1 ∨ p = 2 ∨ p = 3 := by omega
def moA (a : Int) : Nat → Int := fun p => if p = 1 then a else 0
end Go.Proofs.Wd
