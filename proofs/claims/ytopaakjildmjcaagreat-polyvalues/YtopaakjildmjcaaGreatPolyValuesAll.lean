/- MatRL AppM PolyRL PolyX2 PolyValuesLaw, one after another. -/
import Derived.Test.YtopaakjildmjcaaGreatRowL
import Derived.Test.YtopaakjildmjcaaGreatPolyDoc
import Derived.Test.YtopaakjildmjcaaGreatPolyBase
import Derived.ProofKit
import Derived.OpenShut
import Derived.Lib.SmallJoins
import Derived.Deep.Slices
import Derived.Carry
import Derived.Test.YtopaakjildmjcaaGreatPolySide
import Derived.Test.YtopaakjildmjcaaGreatPolyBas2
import Derived.Test.YtopaakjildmjcaaGreatRows
/- How matrices that are handed in lie in memory. -/
namespace Go.Proofs.YtopaakjildmjcaaGreat
open Go.ChangeShapes Go.WideShapes Go.ChangeAt Go.RowKit Go.Joins Go.Proofs.Wd Go.Deep
set_option linter.unusedVariables false
set_option linter.unusedSimpArgs false
set_option maxRecDepth 10000

set_option maxRecDepth 20000 in
theorem open_mat {H : Type} {enc : TypeId × Value → H} {W : World} {n : Nat} {cs : List Value} {y : DataW H × List MemPlace} (h : DataW.trod enc Tryz.prog W 0 (fun _ => true) true n 24 cs = some y) :
    ∃ (R C : Int) (ao : Option Addr) (ln lc : Nat) (Z : Nat → Int), cs = [.int .i64 R, .int .i64 C, .slice ao ln lc] ∧ I64 R ∧ I64 C ∧ ln ≤ lc ∧ lc ≤ 9223372036854775807 ∧ Row W ao ln Z ∧ (∀ i, i < ln → I64 (Z i)) ∧ (ao = none → ln = 0 ∧ lc = 0) := by
  obtain ⟨xs, m, _, _, hlen, hxl, hf⟩ := DataW.trod_struct Tryz.underlying24 h
  rw [show Tryz.prog.cellsOf 24 = 3 by kernel_rfl] at hlen
  match cs, hlen with
  | [v0, v1, v2], _ =>
  match xs, hxl with
  | [x0, x1, x2], _ =>
  have f0 : DataW.trod enc Tryz.prog W 0 (fun _ => true) true m 3 (([v0, v1, v2].drop 0).take (Tryz.prog.cellsOf 3)) = some x0 := hf 0 _ rfl
  rw [cellsInt] at f0
  have f1 : DataW.trod enc Tryz.prog W 0 (fun _ => true) true m 3 (([v0, v1, v2].drop 1).take (Tryz.prog.cellsOf 3)) = some x1 := hf 1 _ rfl
  rw [cellsInt] at f1
  have f2 : DataW.trod enc Tryz.prog W 0 (fun _ => true) true m 22 (([v0, v1, v2].drop 2).take (Tryz.prog.cellsOf 22)) = some x2 := hf 2 _ rfl
  rw [cellsInts] at f2
  obtain ⟨R, e0, _, w0⟩ := DataW.trod_int Tryz.underlying3 f0
  obtain ⟨C, e1, _, w1⟩ := DataW.trod_int Tryz.underlying3 f1
  obtain ⟨lo, ln, lc, lz, rfl, l1, l2, l3, l4, l5⟩ := open_row0 f2
  simp at e0 e1
  subst e0 e1
  exact ⟨R, C, lo, ln, lc, lz, rfl, i64_wf w0, i64_wf w1, l1, l2, l3, l4, l5⟩

end Go.Proofs.YtopaakjildmjcaaGreat

/- append of a matrix to a list of matrices: where the list lies behind it: where it lay, or in a new block. -/
namespace Go.Proofs.YtopaakjildmjcaaGreat
open Go.RowKit Go.Proofs.Wd
set_option linter.unusedVariables false
set_option linter.unusedSimpArgs false
set_option maxRecDepth 10000

theorem run_append_atM (w : World) (ty : TypeId) (base n : Nat) (v : Value) (xs : List Value) (hown : w.ownsRow base 24 3 v n xs) (a : Addr) (m c : Nat) (news : List Value) (hl : news.length = m * 3) (hnews : ∀ j u, news[j]? = some u → w.cell? (a.add j) = some u) (h1 : ∀ u ∈ news, u.oneCell' = true)
    (hm : 1 ≤ m ∧ m ≤ 1000000) (hn : n ≤ 1000000) (hb : base ≤ w.heap.size) :
    ∃ v' w', (Builtin.append_ #[31, 31] ty #[v, .slice (some a) m c]).run Tryz.prog w = .ok v' w' ∧ w'.ownsRow base 24 3 v' (n + m) (xs ++ news) ∧ w.grownBy w' v.ownBlock ∧ (v'.ownBlock = v.ownBlock ∨ ∃ g, v'.ownBlock = some g ∧ w.heap.size ≤ g) := by
  obtain ⟨i0, hi, hz0, hz1, hz2⟩ := info_parts Tryz.infoMat
  have h63 : n + m ≤ maxLen := by unfold maxLen; omega
  have hby : (n + m) * 40 ≤ 140737488355328 := by omega
  obtain ⟨v', w', hr, r1, r2, _⟩ := run_append_own (P := Tryz.prog) w base 31 ty 24 i0 (.agg #[.int .i64 0, .int .i64 0, .slice none 0 0]) 3 40 Tryz.underlying31 hi hz0 hz1 hz2 rfl (by decide) v n xs hown a m c news hl hnews h1 h63 hby hb
  refine ⟨v', w', hr, r1, r2, ?_⟩
  rcases hown.2 with ⟨rfl, rfl⟩ | ⟨g, cap, cur, rfl, hbg, hg, hnc, hcm, hcs, htake⟩
  · have hx : xs = [] := List.eq_nil_of_length_eq_zero (by simpa using hown.1)
    subst hx
    obtain ⟨v2, w2, hr2, q1, _, _⟩ := run_append_own (P := Tryz.prog) w w.heap.size 31 ty 24 i0 (.agg #[.int .i64 0, .int .i64 0, .slice none 0 0]) 3 40 Tryz.underlying31 hi hz0 hz1 hz2 rfl (by decide) (.slice none 0 0) 0 [] (World.ownsRow_nil _ _ _ _) a m c news hl hnews h1 h63 hby (Nat.le_refl _)
    rw [hr] at hr2
    cases hr2
    rcases q1.2 with ⟨_, e⟩ | ⟨g, cap, cur, rfl, hbg, _⟩
    · omega
    · exact Or.inr ⟨g, rfl, hbg⟩
  · by_cases hroom : n + m ≤ cap
    · have hfit : n * i0.size + news.length ≤ cur.size := by rw [hl, hcs, hz1, ← Nat.add_mul]; exact Nat.mul_le_mul_right _ hroom
      have hr2 := run_append_room (P := Tryz.prog) w 31 ty 24 i0 Tryz.underlying31 hi g n cap cur hg a m c news (by rw [hz1]; exact hl) hnews h1 hroom hfit
      rw [hr] at hr2
      cases hr2
      exact Or.inl rfl
    · have holds : ∀ j u, xs[j]? = some u → w.cell? ((⟨g, 0, none⟩ : Addr).add j) = some u := hown.cells (g := g) rfl
      have hr2 := run_append_grow (P := Tryz.prog) w 31 ty 24 i0 (.agg #[.int .i64 0, .int .i64 0, .slice none 0 0]) Tryz.underlying31 hi hz0 ⟨g, 0, none⟩ n cap xs (by rw [hz1]; exact hown.1) holds a m c news (by rw [hz1]; exact hl) hnews (by omega) (by omega) (growslice_fits (by omega) (by rw [hz2]; exact hby))
      rw [hr] at hr2
      cases hr2
      exact Or.inr ⟨_, rfl, Nat.le_refl _⟩
theorem wpList_append_atM {ops : Array Oper} {rest : List Oper} {o : Oper} {a : Act} {w : World} {Q : Exit → Act → World → Prop} (hgd : o.guard = none) (s x : Operand) (ho : o.op = .call { callee := .builtin .append, args := #[s, x], argTypes := #[31, 31] })
    (base : Nat) (v : Value) (n : Nat) (xs : List Value) (hs : a.eval s = v) (hown : w.ownsRow base 24 3 v n xs)
    (ad : Addr) (m c : Nat) (news : List Value) (hx : a.eval x = .slice (some ad) m c) (hl : news.length = m * 3) (hnews : ∀ j u, news[j]? = some u → w.cell? (ad.add j) = some u) (h1 : ∀ u ∈ news, u.oneCell' = true)
    (hm : 1 ≤ m ∧ m ≤ 1000000) (hn : n ≤ 1000000) (hb : base ≤ w.heap.size)
    (h : ∀ v' w', w'.ownsRow base 24 3 v' (n + m) (xs ++ news) → w.grownBy w' v.ownBlock → (v'.ownBlock = v.ownBlock ∨ ∃ g, v'.ownBlock = some g ∧ w.heap.size ≤ g) → wpList Tryz.prog ops Q rest (a.put o.dst v') w') : wpList Tryz.prog ops Q (o :: rest) a w := by
  refine wpList_plain hgd fun _ hK => ?_
  obtain ⟨v', w', hr, h2, h3, h4⟩ := run_append_atM w o.type base n v xs hown ad m c news hl hnews h1 hm hn hb
  unfold Oper.wp execOp
  simp only [ho, resolve, invoke, builtin, Sem.run_bind, Sem.run_pure, Result.andThen_ok, List.map_toArray, List.map_cons, List.map_nil, hs, hx, hr]
  exact hK _ _ (h v' w' h2 h3 h4)

end Go.Proofs.YtopaakjildmjcaaGreat

/- How lists of matrices that are handed in lie in memory. -/
namespace Go.Proofs.YtopaakjildmjcaaGreat
open Go.ChangeShapes Go.WideShapes Go.ChangeAt Go.RowKit Go.Joins Go.Proofs.Wd Go.Deep
set_option linter.unusedVariables false
set_option linter.unusedSimpArgs false
set_option maxRecDepth 10000

/-- What is known of a matrix that is handed in. -/
structure MV.okIn (x : MV) (W : World) : Prop where
  row : Row W x.ao x.len x.Z
  nums : ∀ i, i < x.len → I64 (x.Z i)
  le : x.len ≤ x.cap
  lm : x.cap ≤ 9223372036854775807
  nil : x.ao = none → x.len = 0 ∧ x.cap = 0

set_option maxRecDepth 20000 in
theorem open_mats {H : Type} {enc : TypeId × Value → H} {W : World} {n : Nat} {v : Value} {y : DataW H × List MemPlace} (h : DataW.trod enc Tryz.prog W 0 (fun _ => true) true n 31 [v] = some y) :
    ∃ (ao : Option Addr) (len cap : Nat) (X : Nat → MV), v = .slice ao len cap ∧ len ≤ cap ∧ cap ≤ 9223372036854775807 ∧ Mats W ao len X ∧ (∀ i, i < len → (X i).okIn W) ∧ (ao = none → len = 0 ∧ cap = 0) := by
  rcases open_slice Tryz.underlying31 h with ⟨h1, _⟩ | ⟨a, len, cap, m, k, D, Pl, h1, _, h2, h3, h4, _, h5⟩
  · simp only [List.cons.injEq, and_true] at h1
    exact ⟨none, 0, 0, fun _ => z0MV, h1, Nat.le_refl _, by omega, Or.inl rfl, fun i hi => absurd hi (Nat.not_lt_zero _), fun _ => ⟨rfl, rfl⟩⟩
  · simp only [List.cons.injEq, and_true] at h1
    simp only [if_true] at h4
    rw [show Tryz.prog.cellsOf 24 = 3 by kernel_rfl] at h5
    have inh : Inhabited MV := ⟨z0MV⟩
    obtain ⟨X, hX⟩ := choose_lt (α := MV) (n := len) (p := fun i x => (∀ j, j < 3 → W.cell? (a.add (i * 3 + j)) = x.cells[j]?) ∧ x.okIn W) (fun i hi => by
      obtain ⟨cs, c1, c2⟩ := h5 i (by omega)
      obtain ⟨R, C, lo, ln, lc, lz, e, w0, w1, l1, l2, l3, l4, l5⟩ := open_mat c2
      subst e
      refine ⟨⟨R, C, lo, ln, lc, lz⟩, fun j hj => ?_, ⟨l3, l4, l1, l2, l5⟩⟩
      have := (World.cells?_some c1).2.2 j hj
      rw [Go.Deep.add_add] at this
      rw [this]
      simp [MV.cells])
    refine ⟨some a, len, cap, X, h1, h2, h3, ?_, fun i hi => (hX i hi).2, fun e => by cases e⟩
    by_cases h0 : len = 0
    · exact Or.inl h0
    · obtain ⟨b, off, spot⟩ := a
      have hs : spot = none := by
        have := (hX 0 (by omega)).1 0 (by omega)
        simp only [MV.cells] at this
        simpa [Addr.add] using World.cell?_spot this
      subst hs
      refine Or.inr ⟨b, off, rfl, fun i hi j hj => ?_⟩
      have := (hX i hi).1 j hj
      rw [add_plain] at this
      rw [Nat.add_assoc]
      exact this

end Go.Proofs.YtopaakjildmjcaaGreat

/- PolyValues: a list of copies that is gathered by append; its value, and the document's. -/
namespace Go.Proofs.YtopaakjildmjcaaGreat
open Go.RowKit Go.Shelf Go.Proofs.Wd
set_option linter.unusedVariables false
set_option linter.unusedSimpArgs false
set_option maxRecDepth 10000
attribute [local go_sem ↓] Go.wp_at_zero Go.wp_at_succ

/-- A copy. -/
def cpMV (y : MV) (a : Option Addr) (p : Nat) : MV := ⟨y.R, y.C, a, y.len, p, y.Z⟩
def LnP (base : Nat) (v : Value) (X : Nat → MV) (l : List MV) (W : World) : Prop :=
  MLs W base v l ∧ ∀ i x, l[i]? = some x → ∃ a p, x = cpMV (X i) a p ∧ (X i).len ≤ p ∧ Row W a (X i).len (X i).Z ∧ (∀ U, U < base → Off U (X i).len a) ∧ ∀ g, v.ownBlock = some g → Off g (X i).len a
theorem rowGrownBy {W W' : World} {ao : Option Addr} {len : Nat} {Z : Nat → Int} {row : Option Nat} (h : Row W ao len Z) (hg : W.grownBy W' row) (ho : ∀ g, row = some g → Off g len ao) : Row W' ao len Z := by
  rcases h with h | ⟨b, o, rfl, hc⟩
  · exact Or.inl h
  · exact Or.inr ⟨b, o, rfl, fun i hi => (World.cell?_of_block (hg.block b (heap_gt (hc i hi)) (fun e => ho b e.symm (by omega) _ rfl rfl))).trans (hc i hi)⟩
theorem LnP.kp {base : Nat} {v : Value} {X : Nat → MV} {l : List MV} {W W' : World} (h : LnP base v X l W) (k : Kp W W') : LnP base v X l W' :=
  ⟨h.1.kp k, fun i x hx => let ⟨a, p, e, h1, h2, h3, h4⟩ := h.2 i x hx; ⟨a, p, e, h1, h2.kp k, h3, h4⟩⟩
theorem LnP.app {base k p : Nat} {v v' : Value} {X : Nat → MV} {l : List MV} {wa w4 : World} {a : Option Addr} (h : LnP base v X l wa) (hk : l.length = k) (hp : (X k).len ≤ p) (hr : Row wa a (X k).len (X k).Z) (ho : ∀ U, U < base → Off U (X k).len a) (hg0 : ∀ g, v.ownBlock = some g → Off g (X k).len a)
    (hown : w4.ownsRow base 24 3 v' (k + 1) (flat l ++ (cpMV (X k) a p).cells.toList)) (hg : wa.grownBy w4 v.ownBlock) (hw : v'.ownBlock = v.ownBlock ∨ ∃ g, v'.ownBlock = some g ∧ wa.heap.size ≤ g) : LnP base v' X (l ++ [cpMV (X k) a p]) w4 := by
  have off : ∀ (len : Nat) (Z : Nat → Int) (a : Option Addr), Row wa a len Z → (∀ g, v.ownBlock = some g → Off g len a) → ∀ g, v'.ownBlock = some g → Off g len a := fun len Z a hr h0 g e => by
    rcases hw with hw | ⟨g', e', hge⟩
    · exact h0 g (hw ▸ e)
    · rw [e'] at e
      cases e
      exact hr.off hge
  refine ⟨?_, fun i x hx => ?_⟩
  · unfold MLs
    rw [flat_snoc, List.length_append, hk]
    exact hown
  · rw [List.getElem?_append] at hx
    split at hx
    · obtain ⟨a', p', e, a1, a2, a3, a4⟩ := h.2 i x hx
      exact ⟨a', p', e, a1, rowGrownBy a2 hg a4, a3, off _ _ _ a2 a4⟩
    · rename_i hi
      have : i = l.length := by
        rcases Nat.lt_or_ge (i - l.length) 1 with h1 | h1
        · omega
        · rw [List.getElem?_eq_none (by simpa using h1)] at hx; cases hx
      subst this
      rw [Nat.sub_self] at hx
      cases hx
      rw [hk]
      exact ⟨a, p, rfl, hp, rowGrownBy hr hg hg0, ho, off _ _ _ hr hg0⟩
/-- Its blocks. -/
def lnD (v : Value) (l : List MV) : List Nat := (match v.ownBlock with | some g => [g] | none => []) ++ l.flatMap fun x => rowD x.ao x.len
theorem lnP_dep (base : Nat) (v : Value) (X : Nat → MV) (l : List MV) : DepL (lnD v l) (LnP base v X l) := fun W W' h ⟨h1, h2⟩ =>
  ⟨h1.blk fun g cs e _ hb => (h g (List.mem_append_left _ (by rw [e]; simp))).trans hb, fun i x hx => by
    obtain ⟨a, p, rfl, a1, a2, a3, a4⟩ := h2 i x hx
    exact ⟨a, p, rfl, a1, row_depL _ _ _ W W' (fun k hk => h k (List.mem_append_right _ (List.mem_flatMap.2 ⟨_, List.mem_of_getElem? hx, hk⟩))) a2, a3, a4⟩⟩
theorem lnD_in {base : Nat} {v : Value} {X : Nat → MV} {l : List MV} {W : World} (h : LnP base v X l W) : ∀ k ∈ lnD v l, k < W.heap.size ∧ base ≤ k := fun k hk => by
  rcases List.mem_append.1 hk with hk | hk
  · rcases h.1.2 with ⟨e2, _⟩ | ⟨g', cap, cur, rfl, hb, hg, r⟩
    · rw [e2] at hk
      exact absurd hk List.not_mem_nil
    · have hk : k ∈ [g'] := hk
      simp at hk
      subst hk
      exact ⟨Blk.lt (show Blk k cur 24 W from hg), hb⟩
  · obtain ⟨x, hx, hk⟩ := List.mem_flatMap.1 hk
    obtain ⟨i, hi⟩ := List.getElem?_of_mem hx
    obtain ⟨a, p, rfl, _, h2, h3, _⟩ := h.2 i x hi
    refine ⟨rowD_lt h2 k hk, ?_⟩
    rcases Nat.lt_or_ge k base with hlt | hge
    · exact absurd hk (rowD_off (h3 k hlt))
    · exact hge
theorem LnP.get {base : Nat} {v : Value} {X : Nat → MV} {l : List MV} {W : World} (h : LnP base v X l W) {i : Nat} (hi : i < l.length) : ∃ a p, ixM l i = cpMV (X i) a p ∧ (X i).len ≤ p ∧ Row W a (X i).len (X i).Z ∧ (∀ U, U < base → Off U (X i).len a) := by
  obtain ⟨a, p, e, h1, h2, h3, _⟩ := h.2 i _ (List.getElem?_eq_getElem hi)
  exact ⟨a, p, by rw [ixM_at (List.getElem?_eq_getElem hi), e], h1, h2, h3⟩

theorem hor_eq (X Y : Nat → Nat → Int) (n : Nat) (t : Int) (nn : Nat) (h : ∀ i, i ≤ n → X i = Y i) : ∀ k, horZ X n t k = horZ Y n t k ∧ horC X n t nn k = horC Y n t nn k
  | 0 => ⟨h n (Nat.le_refl _), rfl⟩
  | k + 1 => by
    obtain ⟨h1, h2⟩ := hor_eq X Y n t nn h k
    have h3 := h (n - (k + 1)) (Nat.sub_le _ _)
    refine ⟨?_, ?_⟩
    · show hoZ (horZ X n t k) (X (n - (k + 1))) t = hoZ (horZ Y n t k) (Y (n - (k + 1))) t
      rw [h1, h3]
    · show (horC X n t nn k || hoC (horZ X n t k) (X (n - (k + 1))) t nn) = (horC Y n t nn k || hoC (horZ Y n t k) (Y (n - (k + 1))) t nn)
      rw [h1, h2, h3]
theorem atO_congr {n : Nat} {X Y : Nat → MV} {t : Int} {c0 : Bool} (h : ∀ i, i < n → (X i).R = (Y i).R ∧ (X i).C = (Y i).C ∧ (X i).len = (Y i).len ∧ (X i).Z = (Y i).Z) : atO n X t c0 = atO n Y t c0 := by
  have key : ∀ {X Y : Nat → MV}, (∀ i, i < n → (X i).R = (Y i).R ∧ (X i).C = (Y i).C ∧ (X i).len = (Y i).len ∧ (X i).Z = (Y i).Z) → okP n X → okP n Y := fun h ⟨h1, h2⟩ => ⟨h1, fun i hi => by
    have a := h2 i hi
    obtain ⟨e1, e2, e3, _⟩ := h i hi
    obtain ⟨f1, f2, _, _⟩ := h 0 (by omega)
    rw [e1, e2, e3, f1, f2] at a
    exact a⟩
  unfold atO
  by_cases hg : okP n X
  · rw [if_pos hg, if_pos (key h hg)]
    obtain ⟨n1, _⟩ := hg.1
    obtain ⟨e1, e2, e3, _⟩ := h 0 (by omega)
    obtain ⟨z1, z2⟩ := hor_eq (fun i => (X i).Z) (fun i => (Y i).Z) (n - 1) t (X 0).len (fun i hi => (h i (by omega)).2.2.2) (n - 1)
    rw [z1, z2, e1, e2, e3]
  · rw [if_neg hg, if_neg (fun k => hg (key (fun i hi => ⟨(h i hi).1.symm, (h i hi).2.1.symm, (h i hi).2.2.1.symm, (h i hi).2.2.2.symm⟩) k))]

/-- Between two rounds. -/
def LnQ (w2 : World) (X : Nat → MV) (k : Nat) (v : Value) (wr : World) : Prop := (∃ l : List MV, l.length = k ∧ LnP w2.heap.size v X l wr ∧ Kp w2 wr) ∧ ∀ i, i < k → (X i).len ≤ 160
theorem lnStep {w2 wb w4 : World} {X : Nat → MV} {v v' : Value} {l : List MV} {k p : Nat} {a : Option Addr} (h : l.length = k ∧ LnP w2.heap.size v X l wb ∧ Kp w2 wb) (hp : (X k).len ≤ p) (hr : Row wb a (X k).len (X k).Z) (ho : ∀ U, U < w2.heap.size → Off U (X k).len a) (hg0 : ∀ g, v.ownBlock = some g → Off g (X k).len a)
    (hown : w4.ownsRow w2.heap.size 24 3 v' (k + 1) (flat l ++ (cpMV (X k) a p).cells.toList)) (hg : (wb.alloc (.cells (cpMV (X k) a p).cells 24)).grownBy w4 v.ownBlock) (hw : v'.ownBlock = v.ownBlock ∨ ∃ g, v'.ownBlock = some g ∧ (wb.alloc (.cells (cpMV (X k) a p).cells 24)).heap.size ≤ g) (hA : ∀ i, i < k + 1 → (X i).len ≤ 160) : LnQ w2 X (k + 1) v' w4 := by
  obtain ⟨h1, h2, h3⟩ := h
  have ka : Kp wb (wb.alloc (.cells (cpMV (X k) a p).cells 24)) := (Kp.refl _).alloc _ _
  refine ⟨⟨l ++ [cpMV (X k) a p], by rw [List.length_append, h1]; rfl, (h2.kp ka).app h1 hp (hr.kp ka) ho hg0 hown hg hw, Kp.by (h3.trans ka) hg (fun j e => ?_)⟩, hA⟩
  rcases h2.1.2 with ⟨e2, _⟩ | ⟨g', cap, cur2, rfl, hb, hg2, r⟩
  · rw [e2] at e
    cases e
  · cases e
    exact hb

set_option maxRecDepth 50000 in
set_option maxHeartbeats 4000000 in
theorem lawPolyValues_not (ao : Option Addr) (n cap : Nat) (X : Nat → MV) (hcap : n ≤ cap) (hl : cap ≤ 9223372036854775807) (t : Int) (ht : I64 t) (w : World) (hm : Mats w ao n X) (hok : ∀ i, i < n → (X i).okIn w) (hc : 30 < n) :
    Calls Tryz.prog 4 #[.slice ao n cap, .int .i64 t] w fun e w' => e = .returned (.bool true) ∧ Kp w w' := by
  have d1 : decide ((30 : Int) < (n : Int)) = true := decide_eq_true (by omega)
  clear hc hok hm hl hcap ht
  go_enter Tryz.func4, Tryz.ntmps4
  go_wp2_with fail
  refine (unitNew w).mono ?_
  rintro e w1 ⟨rfl, u1, g1⟩
  have S1 : Hid (ST w [([w.heap.size], UE w.heap.size false 0)] [] w1) := (ST.nil w).push (Kp.of g1) ⟨0, by omega, by omega, u1⟩ (ue_dep _ _ _) (by simp) (fun q hq => by simp at hq; subst hq; exact ⟨Nat.le_refl _, Blk.lt u1⟩)
  clear u1 g1
  go_wp2_with fail
  refine (refUNew w1).mono ?_
  rintro e w2 ⟨rfl, u2, g2⟩
  have S2 : Hid (ST w [([w1.heap.size], RE w1.heap.size false 0), ([w.heap.size], UE w.heap.size false 0)] [] w2) := (unhide S1).push (Kp.of g2) ⟨0, by omega, by omega, u2⟩ (re_dep _ _ _) (by simp) (fun q hq => by simp at hq; subst hq; exact ⟨Nat.le_refl _, Blk.lt u2⟩)
  clear u2 g2 S1
  obtain ⟨U, hU⟩ : ∃ U, w.heap.size = U := ⟨_, rfl⟩
  rw [hU] at S2
  rw [hU]
  clear hU
  generalize w1.heap.size = R at *
  go_wp2_with fail
  refine (lawPolyAwake _).mono ?_
  rintro e w3 ⟨rfl, k3⟩
  have S3 := hide ((unhide S2).kp k3)
  clear k3 S2
  go_wp2
  go_ret
  exact ⟨rfl, (unhide S3).keep⟩

set_option maxRecDepth 50000 in
set_option maxHeartbeats 16000000 in
theorem lawPolyValues_ok (ao : Option Addr) (n cap : Nat) (X : Nat → MV) (hcap : n ≤ cap) (hl : cap ≤ 9223372036854775807) (t : Int) (ht : I64 t) (w : World) (hm : Mats w ao n X) (hok : ∀ i, i < n → (X i).okIn w) (hc : n ≤ 30) :
    Calls Tryz.prog 4 #[.slice ao n cap, .int .i64 t] w fun e w' => e = .returned (.bool true) ∧ Kp w w' := by
  have d1 : decide ((30 : Int) < (n : Int)) = false := decide_eq_false (by omega)
  have HM := hide hm
  have HO := hide hok
  have HC : Hid (n ≤ cap ∧ cap ≤ 9223372036854775807 ∧ I64 t) := ⟨hcap, hl, ht⟩
  have n30 := hc
  clear hc hok hm hl hcap ht
  go_enter Tryz.func4, Tryz.ntmps4
  go_wp2_with fail
  refine (unitNew w).mono ?_
  rintro e w1 ⟨rfl, u1, g1⟩
  have S1 : Hid (ST w [([w.heap.size], UE w.heap.size false 0)] [] w1) := (ST.nil w).push (Kp.of g1) ⟨0, by omega, by omega, u1⟩ (ue_dep _ _ _) (by simp) (fun q hq => by simp at hq; subst hq; exact ⟨Nat.le_refl _, Blk.lt u1⟩)
  clear u1 g1
  go_wp2_with fail
  refine (refUNew w1).mono ?_
  rintro e w2 ⟨rfl, u2, g2⟩
  have S2 : Hid (ST w [([w1.heap.size], RE w1.heap.size false 0), ([w.heap.size], UE w.heap.size false 0)] [] w2) := (unhide S1).push (Kp.of g2) ⟨0, by omega, by omega, u2⟩ (re_dep _ _ _) (by simp) (fun q hq => by simp at hq; subst hq; exact ⟨Nat.le_refl _, Blk.lt u2⟩)
  clear u2 g2 S1
  obtain ⟨U, hU⟩ : ∃ U, w.heap.size = U := ⟨_, rfl⟩
  rw [hU] at S2
  rw [hU]
  clear hU
  generalize w1.heap.size = R at *
  go_wp2_with fail
  clear d1
  have L0 : Hid (LnQ w2 X 0 (.slice none 0 0) w2) := ⟨⟨[], rfl, ⟨MLs.nil _ _, fun i x hx => by cases hx⟩, Kp.refl _⟩, fun i hi => absurd hi (Nat.not_lt_zero _)⟩
  go_loopw [7, 8] (fun v i wr => ∃ k : Nat, k ≤ n ∧ i = .int .i64 k ∧ Hid (LnQ w2 X k v wr)) (fun _ i _ => n - (intOf i).toNat)
  case atStart => exact ⟨0, Nat.zero_le _, rfl, L0⟩
  case round =>
    obtain ⟨k, hk, rfl, HI⟩ := hrel
    clear L0
    by_cases hlt : k < n
    · have KW : Hid (Kp w wr) := (unhide S2).keep.trans (unhide HI).1.choose_spec.2.2
      obtain ⟨b, o, rfl, c0, c1, c2⟩ := ((unhide HM).kp (unhide KW)).at hlt
      have i0 : (0 : Int) ≤ (k : Int) := Int.natCast_nonneg _
      have i1 : (k : Int) < (n : Int) := Int.ofNat_lt.2 hlt
      have B4 : Hid (k + 1 ≤ n) := hlt
      by_cases h160 : 160 < (X k).len
      · have dl : decide ((160 : Int) < ((X k).len : Int)) = true := decide_eq_true (by omega)
        clear h160 HI
        go_wp2_with fail
        refine (lawPolyAwake _).mono ?_
        rintro e w3 ⟨rfl, k3⟩
        have K3 : Hid (Kp w w3) := (unhide KW).trans k3
        clear k3 KW c0 c1 c2
        go_wp2
        go_ret
        exact ⟨rfl, unhide K3⟩
      · have dl : decide ((160 : Int) < ((X k).len : Int)) = false := decide_eq_false (by omega)
        have ok := unhide HO k hlt
        have CP := hide (kitCopyM (X k).R (X k).C (X k).ao (X k).len (X k).cap (X k).Z (by omega) ok.nil wr (ok.row.kp (unhide KW)))
        obtain ⟨l, hl, hLn, hkp⟩ := (unhide HI).1
        have S1 := hide (And.intro hl (And.intro hLn hkp))
        have HA : Hid (∀ i, i < k + 1 → (X i).len ≤ 160) := fun i hi => by
          by_cases e : i = k
          · subst e; omega
          · exact (unhide HI).2 i (by omega)
        clear h160 ok hl hLn hkp HI
        go_wp2_with fail
        refine (unhide CP).mono ?_
        rintro e wb ⟨a, p, rfl, hp, hr, hoff, kb⟩
        have S2' : Hid (l.length = k ∧ LnP w2.heap.size u7 X l wb ∧ Kp w2 wb) := ⟨(unhide S1).1, (unhide S1).2.1.kp kb, (unhide S1).2.2.trans kb⟩
        have RO : Hid ((X k).len ≤ p ∧ Row wb a (X k).len (X k).Z ∧ (∀ U, U < w2.heap.size → Off U (X k).len a) ∧ ∀ g, u7.ownBlock = some g → Off g (X k).len a) := by
          refine ⟨hp, hr, fun U hU => hoff U (Nat.lt_of_lt_of_le hU (unhide S1).2.2.2.2.2), fun g e => hoff g ?_⟩
          have := (lnD_in (unhide S1).2.1 g (List.mem_append_left _ (by rw [e]; simp))).1
          exact this
        have OW : Hid ((wb.alloc (.cells (cpMV (X k) a p).cells 24)).ownsRow w2.heap.size 24 3 u7 k (flat l)) := by
          have := ((unhide S2').2.1.1.kp ((Kp.refl wb).alloc (cpMV (X k) a p).cells 24))
          unfold MLs at this
          rw [(unhide S2').1] at this
          exact this
        have NW := hide (news_mat (w := wb.alloc (.cells (cpMV (X k) a p).cells 24)) (x := cpMV (X k) a p) (Blk.new wb _ _))
        have B1 : Hid (k ≤ 1000000) := by show k ≤ 1000000; omega
        have B3 : Hid (w2.heap.size ≤ (wb.alloc (.cells (cpMV (X k) a p).cells 24)).heap.size) := by
          have := (unhide S2').2.2.2.2.2
          show _ ≤ _
          simp
          omega
        clear hp hr hoff kb CP S1 c0 c1 c2 KW
        go_wp2_with (at_builtin; refine wpList_append_atM rfl _ _ rfl w2.heap.size _ _ _ rfl (unhide OW) ⟨wb.heap.size, 0, none⟩ 1 1 (cpMV (X k) a p).cells.toList rfl rfl (unhide NW) (cells_oneMV _) ⟨by decide, by decide⟩ (unhide B1) (unhide B3) ?_; intro v' w4 hown hgrow hwh; have S4 : Hid (LnQ w2 X (k + 1) v' w4) := lnStep (unhide S2') (unhide RO).1 (unhide RO).2.1 (unhide RO).2.2.1 (unhide RO).2.2.2 hown hgrow hwh (unhide HA); clear hown hgrow hwh)
        go_roundw
        case rel => exact ⟨k + 1, unhide B4, by go_num, S4⟩
        case measure => have := unhide B4; simp [intOf]; omega
    · obtain rfl : k = n := by omega
      obtain ⟨l, hl, hLn, hkp⟩ := (unhide HI).1
      obtain ⟨lo, lc, rfl, _, hlc, _⟩ := hLn.1.mats
      have HL160 : Hid (∀ i, i < k → (X i).len ≤ 1000000) := fun i hi => Nat.le_trans ((unhide HI).2 i hi) (by omega)
      rw [hl] at hlc hLn HI
      rw [hl]
      obtain ⟨B0, hB0⟩ : ∃ B, w2.heap.size = B := ⟨_, rfl⟩
      have S3 : Hid (ST w [([R], RE R false 0), ([U], UE U false 0)] [(lnD (.slice lo k lc) l, LnP B0 (.slice lo k lc) X l)] wr) := by
        rw [← hB0]
        refine ((unhide S2).kp hkp).fact hLn (lnP_dep _ _ _ _) (fun q hq => ⟨(lnD_in hLn q hq).1, fun hb => ?_⟩)
        have h1 := (lnD_in hLn q hq).2
        have h2 := ((unhide S2).2.2.2.1 q hb).2
        omega
      have HB : Hid (R < B0 ∧ U < B0 ∧ w.heap.size ≤ R ∧ w.heap.size ≤ U) := by
        rw [← hB0]
        have a1 := (unhide S2).lt (c := ([R], RE R false 0)) (by simp) (k := R) (by simp)
        have a2 := (unhide S2).lt (c := ([U], UE U false 0)) (by simp) (k := U) (by simp)
        exact ⟨a1.2, a2.2, a1.1, a2.1⟩
      have HLEN : Hid (l.length = k ∧ k ≤ lc) := ⟨hl, hlc⟩
      clear hl hLn hkp hlc HI S2 hB0
      -- what the list says at any world behind
      have LL : Hid (∀ es' fs' W, ST w es' fs' W → (lnD (.slice lo k lc) l, LnP B0 (.slice lo k lc) X l) ∈ fs' → Mats W lo k (ixM l) ∧ (∀ i, i < k → ∃ a p, ixM l i = cpMV (X i) a p ∧ (X i).len ≤ p ∧ Row W a (X i).len (X i).Z ∧ (∀ U, U < B0 → Off U (X i).len a)) ∧ (∀ U, U < B0 → Off U k lo)) := fun es' fs' W S hf => by
        have h : LnP B0 (.slice lo k lc) X l W := S.get hf
        obtain ⟨ao', cap', e, hM, _, hoff⟩ := h.1.mats
        rw [(unhide HLEN).1] at e hM hoff
        cases e
        exact ⟨hM, fun i hi => h.get (by rw [(unhide HLEN).1]; exact hi), hoff⟩
      obtain ⟨q, hq⟩ : ∃ q, atO k X t false = q := ⟨_, rfl⟩
      have HQ : Hid (atO k X t false = q ∧ atO k (ixM l) t false = q ∧ q.len ≤ 144) := by
        refine ⟨hq, ?_, atO_len hq⟩
        rw [← hq]
        refine atO_congr (fun i hi => ?_)
        obtain ⟨a, p, e, _⟩ := (unhide LL _ _ wr (unhide S3) (by simp)).2.1 i hi
        rw [e]
        exact ⟨rfl, rfl, rfl, rfl⟩
      clear hq
      have C1' := hide (ST.callV (q := q) [([R], RE R false 0)] 200000 (unhide S3) (by omega) (by omega) (fun n0 hn hu => by
        obtain ⟨h1, h2, h3⟩ := unhide LL _ _ wr (unhide S3) (by simp)
        have hb := unhide HB
        refine polyAtAny U false n0 hn t (unhide HC).2.2 lo k lc (ixM l) (unhide HLEN).2 (by omega) (fun i hi j hj => ?_) wr hu h1 (fun i hi => ?_) (fun i hi => ?_) (h3 U hb.2.1) q (unhide HQ).2.1
        · obtain ⟨a, p, e, _⟩ := h2 i hi
          rw [e] at hj ⊢
          exact (unhide HO i hi).nums j hj
        · obtain ⟨a, p, e, _, r, _⟩ := h2 i hi
          rw [e]
          exact r
        · obtain ⟨a, p, e, _, _, f⟩ := h2 i hi
          rw [e]
          exact f U hb.2.1))
      go_wp2_with fail
      refine (unhide C1').mono ?_
      rintro e w7 ⟨ap, pp, Bp, rfl, hpp, s7⟩
      have S7 : Hid (ST w [(ovD Bp q.len, OvP ap Bp q.len q.Z), ([R], RE R false 0), ([U], UE U q.cut 200000)] [(lnD (.slice lo k lc) l, LnP B0 (.slice lo k lc) X l)] w7) := s7
      clear s7 S3 hpp C1'
      have S7 := hide ((unhide S7).box #[.int .i64 q.r, .int .i64 q.c, .slice ap q.len pp] 24)
      obtain ⟨Px, hPx⟩ : ∃ q, w7.heap.size = q := ⟨_, rfl⟩
      rw [hPx] at S7
      generalize hw8 : w7.alloc (.cells #[.int .i64 q.r, .int .i64 q.c, .slice ap q.len pp] 24) = w8 at S7
      have S8 : Hid (ST w [(ovD Bp q.len, OvP ap Bp q.len q.Z), ([R], RE R false 0), ([U], UE U q.cut 200000)] [fBlk Px #[.int .i64 q.r, .int .i64 q.c, .slice ap q.len pp] 24, (lnD (.slice lo k lc) l, LnP B0 (.slice lo k lc) X l)] w8) := unhide S7
      clear S7
      have C2' := hide (ST.callD (q := q) [(ovD Bp q.len, OvP ap Bp q.len q.Z)] 200000 (unhide S8) (by omega) (by omega) (fun n0 hn hu => by
        have hb := unhide HB
        have kk := (unhide S8).keep
        refine refAtAny R false n0 hn t (unhide HC).2.2 ao k cap X (by omega) (fun i hi => (unhide HO i hi).nums) w8 hu ((unhide HM).kp kk) (fun i hi => (unhide HO i hi).row.kp kk) (fun i hi => (unhide HO i hi).row.off hb.2.2.1) (off_of (fun hx => by have := mats_lt (unhide HM) R hx; omega)) q (unhide HQ).1))
      go_wp2_with fail
      (try rw [hPx])
      (try rw [hw8])
      clear hPx hw8
      refine (unhide C2').mono ?_
      rintro e w9 ⟨aq, pq, rfl, hpq, s9⟩
      have S9 : Hid (ST w [(ovD Bp q.len, OvP ap Bp q.len q.Z), ([R], RE R q.cut 200000), ([U], UE U q.cut 200000)] [fRow aq q.len q.Z, fBlk Px #[.int .i64 q.r, .int .i64 q.c, .slice ap q.len pp] 24, (lnD (.slice lo k lc) l, LnP B0 (.slice lo k lc) X l)] w9) := s9
      clear s9 S8 hpq C2'
      have S9 := hide ((unhide S9).box #[.int .i64 q.r, .int .i64 q.c, .slice aq q.len pq] 24)
      obtain ⟨Qx, hQx⟩ : ∃ q, w9.heap.size = q := ⟨_, rfl⟩
      rw [hQx] at S9
      generalize hwa : w9.alloc (.cells #[.int .i64 q.r, .int .i64 q.c, .slice aq q.len pq] 24) = wa at S9
      have SA : Hid (ST w [(ovD Bp q.len, OvP ap Bp q.len q.Z), ([R], RE R q.cut 200000), ([U], UE U q.cut 200000)] [fBlk Qx #[.int .i64 q.r, .int .i64 q.c, .slice aq q.len pq] 24, fRow aq q.len q.Z, fBlk Px #[.int .i64 q.r, .int .i64 q.c, .slice ap q.len pp] 24, (lnD (.slice lo k lc) l, LnP B0 (.slice lo k lc) X l)] wa) := unhide S9
      clear S9
      obtain ⟨x0, x1, x2⟩ := (unhide SA).cells (b := Px) (x := .int .i64 q.r) (y := .int .i64 q.c) (z := .slice ap q.len pp) (T := 24) (by simp)
      obtain ⟨x3, x4, x5⟩ := (unhide SA).cells (b := Qx) (x := .int .i64 q.r) (y := .int .i64 q.c) (z := .slice aq q.len pq) (T := 24) (by simp)
      have SN := hide (kitSameM q.r q.c ap aq q.len pp pq q.Z (by have := (unhide HQ).2.2; omega) wa ((unhide SA).ob (c := (ovD Bp q.len, OvP ap Bp q.len q.Z)) (by simp)).row ((unhide SA).row (ao := aq) (len := q.len) (Z := q.Z) (by simp)))
      go_wp2_with fail
      (try rw [hQx])
      (try rw [hwa])
      clear hQx hwa
      refine (unhide SN).mono ?_
      rintro e wc ⟨rfl, kc⟩
      have SC := hide ((unhide SA).kp kc)
      clear kc SA SN x0 x1 x2 x3 x4 x5
      have CU : Hid (Calls Tryz.prog 15 #[.pointer (some ⟨U, 0, none⟩)] wc fun e w' => e = .returned (.bool q.cut) ∧ w' = wc) := by
        obtain ⟨n, _, _, hu⟩ := (unhide SC).unitE [(ovD Bp q.len, OvP ap Bp q.len q.Z), ([R], RE R q.cut 200000)]
        exact unitCut U q.cut n wc hu
      have CR : Hid (Calls Tryz.prog 16 #[.pointer (some ⟨R, 0, none⟩)] wc fun e w' => e = .returned (.bool q.cut) ∧ w' = wc) := by
        obtain ⟨n, _, _, hu⟩ := (unhide SC).unitR [(ovD Bp q.len, OvP ap Bp q.len q.Z)]
        exact refUCutD R q.cut n wc hu
      go_wp2_with fail
      refine (unhide CU).mono ?_
      rintro e wd ⟨rfl, ed⟩
      subst ed
      clear CU
      go_wp2_with fail
      refine (unhide CR).mono ?_
      rintro e wd2 ⟨rfl, ed⟩
      subst ed
      clear CR
      obtain ⟨x0, x1, x2⟩ := (unhide SC).cells (b := Px) (x := .int .i64 q.r) (y := .int .i64 q.c) (z := .slice ap q.len pp) (T := 24) (by simp)
      go_wp2_with fail
      refine (ST.overV (cap := pp) [] (by have := (unhide HQ).2.2; omega) (unhide SC)).mono ?_
      rintro e w6 ⟨rfl, s6⟩
      have S6 : Hid (ST w [(ovD Bp q.len, fun _ => True), ([R], RE R q.cut 200000), ([U], UE U q.cut 200000)] [fBlk Qx #[.int .i64 q.r, .int .i64 q.c, .slice aq q.len pq] 24, fRow aq q.len q.Z, fBlk Px #[.int .i64 q.r, .int .i64 q.c, .slice ap q.len pp] 24, (lnD (.slice lo k lc) l, LnP B0 (.slice lo k lc) X l)] w6) := s6
      clear s6 SC x0 x1 x2
      have SM : Hid (Calls Tryz.prog 13 #[.slice lo k lc, .slice ao k cap] w6 fun e w' => e = .returned (.bool true) ∧ Kp w6 w') := by
        obtain ⟨h1, h2, h3⟩ := unhide LL _ _ w6 (unhide S6) (by simp)
        have kk := (unhide S6).keep
        refine lawSameP lo ao k lc cap (by omega) (ixM l) X (fun i hi => ?_) (fun i hi => ?_) w6 h1 ((unhide HM).kp kk) (fun i hi => ?_) (fun i hi => (unhide HO i hi).row.kp kk)
        · obtain ⟨a, p, e, _⟩ := h2 i hi
          rw [e]
          exact unhide HL160 i hi
        · obtain ⟨a, p, e, _⟩ := h2 i hi
          rw [e]
          exact ⟨rfl, rfl, rfl, fun _ _ => rfl⟩
        · obtain ⟨a, p, e, _, r, _⟩ := h2 i hi
          rw [e]
          exact r
      go_wp2_with fail
      refine (unhide SM).mono ?_
      rintro e wg ⟨rfl, kg⟩
      have SG := hide ((unhide S6).kp kg)
      clear kg S6 SM
      go_wp2_with fail
      refine (lawPolyAwake _).mono ?_
      rintro e wz ⟨rfl, kz⟩
      have SZ := hide ((unhide SG).kp kz)
      clear kz SG
      go_wp2
      go_ret
      exact ⟨rfl, (unhide SZ).keep⟩

theorem lawPolyValues (ao : Option Addr) (n cap : Nat) (X : Nat → MV) (hcap : n ≤ cap) (hl : cap ≤ 9223372036854775807) (t : Int) (ht : I64 t) (w : World) (hm : Mats w ao n X) (hok : ∀ i, i < n → (X i).okIn w) : Calls Tryz.prog 4 #[.slice ao n cap, .int .i64 t] w fun e w' => e = .returned (.bool true) ∧ Kp w w' := by
  by_cases h : n ≤ 30
  · exact lawPolyValues_ok ao n cap X hcap hl t ht w hm hok h
  · exact lawPolyValues_not ao n cap X hcap hl t ht w hm hok (by omega)

end Go.Proofs.YtopaakjildmjcaaGreat

/- The statement PolyValues holds for every input: the law returns true, and its arguments read afterwards as before. No condition. -/
namespace Go.Proofs.YtopaakjildmjcaaGreat.polyValues
open Go.ChangeShapes Go.WideShapes Go.ChangeAt Go.RowKit Go.Joins Go.Proofs.Wd
set_option linter.unusedVariables false
set_option linter.unusedSimpArgs false
set_option maxRecDepth 10000

theorem own : ownKnob Tryz.prog.godebug = none := by kernel_rfl

set_option maxRecDepth 100000 in
theorem lifted (os : Os) (started : os.Started) (H : Type) (enc : TypeId × Value → H) :
    ReturnsInHanded {} Tryz.checked os 4 .any (Rows.polyValuesSpec.pre6 enc Tryz.prog Tryz.f4 Rows.polyValuesRow.domain false) (Rows.polyValuesSpec.post enc Tryz.prog Tryz.f4 false true false false) := by
  refine returnsInHanded_of_change (C := Tryz.checked) own started (by kernel_rfl) Tryz.func4
    (ChangeSpec.witness6 (enc := enc) (C := Tryz.checked) false ⟨#[], #[.slice none 0 0, .int .i64 0], []⟩ 8 (by kernel_rfl) (by kernel_rfl) (by kernel_rfl) (by kernel_rfl)) ?_
  intro W base args ds gs before hval0 hW hcnd _
  have hval : ∀ (j : Nat) t v, Tryz.f4.params[j]? = some t → args[j]? = some v → Value.okWide Tryz.prog W .any base t v := hval0
  have hW' := hW
  obtain ⟨p, q, hA0, hV, rfl, hfz, hnd⟩ := hW
  have hA : DataW.TrodAll enc Tryz.prog W 0 (fun _ => true) true Tryz.f4.params.toList args.toList ds p := hA0
  rw [Tryz.params4] at hA hval
  obtain ⟨v0, vs0, d0, ds0, p0, q0, hargs, rfl, rfl, h0, r0⟩ := trodAll_cons hA
  obtain ⟨v1, vs1, d1, ds1, p1, q1, rfl, rfl, rfl, h1, r1⟩ := trodAll_cons r0
  obtain ⟨rfl, rfl, rfl⟩ := trodAll_nil r1
  obtain rfl : args = #[v0, v1] := by cases args; simp_all
  obtain ⟨rfl, rfl⟩ := trodVars_none hV
  have hlt := hW'.lt
  have k0 := h0
  obtain ⟨fuel0, t0⟩ := h0
  obtain ⟨ao0, ln0, lc0, rfl⟩ := okWide_slice Tryz.underlying31 (hval 0 31 v0 rfl rfl)
  obtain ⟨ya0, yl0, yc0, X0, e0, le0, lm0, mats0, ok0, nil0⟩ := open_mats t0
  cases e0
  obtain ⟨a1, rfl, rfl, rfl, wa1⟩ := open_int Tryz.underlying3 (hval 1 3 v1 rfl rfl) h1
  clear hA0 hval0
  refine (lawPolyValues ao0 ln0 lc0 X0 le0 lm0 a1 (i64_wf wa1) W mats0 ok0).mono fun e W' ⟨he, hg⟩ => ?_
  subst he
  exact ⟨_, rfl, post_of_kp (pa := p0 ++ ([] ++ ([]))) (pv := []) hW' (fun _ => (trodAll_cons_mk (shut_bool Tryz.underlying4 _) trodAll_mk0)) (trodAll_cons_mk (WideElems.Trod_stays laid (by kernel_rfl) (of_decide_eq_true (by kernel_rfl)) k0 (fun x hx => hg.same (hlt x (by simp [hx]))) (fun x hx => by simpa using hlt x (by simp [hx]))) (trodAll_cons_mk (shut_int Tryz.underlying3 wa1) trodAll_mk0)) rfl hg⟩

end Go.Proofs.YtopaakjildmjcaaGreat.polyValues
namespace Go.Proofs.YtopaakjildmjcaaGreat
theorem polyValues_holds : Rows.PolyValuesSaid :=
  OpenClaim.holds_of_wide 4 Tryz.f4 rfl rfl rfl rfl rfl rfl rfl ⟨rfl, rfl, rfl, rfl, rfl⟩ rfl rfl rfl rfl rfl (by kernel_rfl) Tryz.func4 (by kernel_rfl)
    (of_decide_eq_true (by kernel_rfl)) (by unfold Func.isWrapper; first | (rw [if_pos (by decide +kernel)]; kernel_rfl) | (rw [if_neg (by decide +kernel)]; exact ⟨rfl, rfl⟩))
    (fun os started H enc _ => polyValues.lifted os started H enc)
#print axioms polyValues_holds
end Go.Proofs.YtopaakjildmjcaaGreat
