/- The program's List: a loop over the iterator. -/
import Derived.Test.YtnelkhmahmoclaaGreatDoorTextM
namespace Go.Proofs.YtnelkhmahmoclaaGreatDoor
open Go.RowKit Go.Shelf Go.Proofs.Wd
set_option linter.unusedVariables false
set_option linter.unusedSimpArgs false
set_option maxRecDepth 10000

section
attribute [local go_sem] Oper.semAt_some

set_option maxHeartbeats 1000000 in
theorem pieces_in (n : Nat) (s : ByteArray) (w : World) :
    CallsIn Fence.wide n Tryz.prog 47 #[.string s] w fun e w' => e = .returned (.func (.func 68) #[] #[.pointer (some ⟨w.heap.size, 0, none⟩)]) ∧ w' = w.alloc (.cells #[.string s] 9) := by
  refine callsIn_of_wp Tryz.func47 rfl trivial ?_ rfl
  simp only [Tryz.ntmps47, List.size_toArray, List.length_cons, List.length_nil, Nat.reduceAdd, Nat.reduceSub, Array.replicate_succ, Array.replicate_zero, List.push_toArray, List.append_toArray, List.nil_append, List.cons_append]
  gi_wp2
  go_ret
  exact ⟨rfl, rfl⟩

theorem pieces_stops (n : Nat) (hn : 1 ≤ n) (Bs : Nat) (s : ByteArray) (hs : s.size ≤ 1000000) (L : List UInt8) (hL : s.data.toList = L) (w : World) (hBs : Bs < w.heap.size) (hc : w.cell? ⟨Bs, 0, none⟩ = some (.string s)) :
    SeqStopsK Fence.wide n Tryz.prog 68 #[.pointer (some ⟨Bs, 0, none⟩)] (encP (L := L)) (KpB Bs) (fun ys => ys = (allP L).attach) (fun pre => pre <+: (allP L).attach) (allP L).length w := fun l J Jx W hW hJ _ hY h0 =>
  pieces1_in n l Bs W.heap.size hn s hs L hL J Jx hJ hY W ((hW.cell (p := ⟨Bs, 0, none⟩) hBs).trans hc) h0

/-- What a round's beginning and a round that leaves know. -/
def rowP {L : List UInt8} (pre : List (Pc L)) : List Value := pre.map fun y => .int .i64 (gR y.1).1
def LiI (L : List UInt8) (w : World) (pre : List (Pc L)) (W : World) : Prop :=
  (∀ y ∈ pre, (gR y.1).2 = 0) ∧ (∃ v, Blk (w.heap.size + 1 + 1) #[v] 22 W ∧ W.ownsRow (w.heap.size + 4) 3 1 v pre.length (rowP pre)) ∧ Blk w.heap.size #[.slice none 0 0] 22 W ∧ Blk (w.heap.size + 1) #[.int .i64 0, .int .i64 0] 33 W ∧ w.heap.size + 4 ≤ W.heap.size ∧ Kp w W
def LiX (L : List UInt8) (w : World) (c : Code) (pre : List (Pc L)) (W : World) : Prop :=
  c = .ret ∧ (∃ q x, pre = q ++ [x] ∧ (∀ y ∈ q, (gR y.1).2 = 0) ∧ (gR x.1).2 ≠ 0 ∧ Blk w.heap.size #[.slice none 0 0] 22 W ∧ Blk (w.heap.size + 1) #[.int .i64 (gR x.1).2, .int .i64 (x.1.1 : Int)] 33 W) ∧ Kp w W

theorem blk_own {U : Nat} {cs : Array Value} {T : TypeId} {W W' : World} {row : Option Nat} (h : Blk U cs T W) (hg : W.grownBy W' row) (hr : ∀ r, row = some r → ∃ o : Obj, W.heap[r]? = some o ∧ o.isCells = false) : Blk U cs T W' :=
  Blk.by h hg (fun e => by
    obtain ⟨o, ho, hc⟩ := hr U e.symm
    rw [show W.heap[U]? = _ from h] at ho
    cases ho
    cases hc)
theorem row_own {base : Nat} {e : TypeId} {size n : Nat} {v : Value} {xs : List Value} {W W' : World} {row : Option Nat} (h : W.ownsRow base e size v n xs) (hg : W.grownBy W' row) (hr : ∀ r, row = some r → ∃ o : Obj, W.heap[r]? = some o ∧ o.isCells = false) : W'.ownsRow base e size v n xs := by
  refine h.kept hg ?_
  rcases h.2 with ⟨rfl, _⟩ | ⟨g, cap, cur, rfl, _, hgb, _⟩
  · exact .inl rfl
  · refine .inr fun e' => ?_
    obtain ⟨o, ho, hc⟩ := hr g (by simpa [Value.ownBlock] using e'.symm)
    rw [hgb] at ho
    cases ho
    cases hc
theorem liI_own (L : List UInt8) (w : World) (B : Nat) (hB : w.heap.size ≤ B) : OwnFrom B (LiI L w) := by
  rintro pre W W' row ⟨hok, ⟨v, hv, hrow⟩, b0, b1, hsz, hK⟩ hg hr
  have hr' : ∀ r, row = some r → ∃ o : Obj, W.heap[r]? = some o ∧ o.isCells = false := fun r e => (hr r e).2
  exact ⟨hok, ⟨v, blk_own hv hg hr', row_own hrow hg hr'⟩, blk_own b0 hg hr', blk_own b1 hg hr', Nat.le_trans hsz hg.size, hK.by hg (fun k e => Nat.le_trans hB (hr k e).1)⟩
theorem liX_own (L : List UInt8) (w : World) (B : Nat) (hB : w.heap.size ≤ B) (c : Code) : OwnFrom B (LiX L w c) := by
  rintro pre W W' row ⟨hc, ⟨q, x, h1, h2, h3, b0, b1⟩, hK⟩ hg hr
  have hr' : ∀ r, row = some r → ∃ o : Obj, W.heap[r]? = some o ∧ o.isCells = false := fun r e => (hr r e).2
  exact ⟨hc, ⟨q, x, h1, h2, h3, blk_own b0 hg hr', blk_own b1 hg hr'⟩, hK.by hg (fun k e => Nat.le_trans hB (hr k e).1)⟩
theorem kpB_b {Bs : Nat} {w : World} (hB : Bs < w.heap.size) (W : World) (l : Nat) (o o' : Obj) (hl : w.heap.size ≤ l) (_ : W.heap[l]? = some o) (_ : o.isCells = false) (_ : o.isWalk = false) : KpB Bs W (W.putObj l o') :=
  World.cell?_of_block (World.putObj_heap_other (fun e => by have e' : Bs = l := e; omega))
theorem kp_others {W W' : World} (k : Kp W W') : KeepsOthers W W' := ⟨k.2.2.2, fun i o hi _ => (k.2.2.1 i (Array.getElem?_eq_some_iff.1 hi).1).trans hi⟩
theorem kp_cell {W W' : World} (k : Kp W W') {b : Nat} (hb : b < W.heap.size) : KpB b W W' := World.cell?_of_block (k.2.2.1 b hb)

set_option maxRecDepth 100000 in
set_option maxHeartbeats 4000000 in
theorem textListT (s : ByteArray) (hs : s.size ≤ 1000000) (w : World) : Calls Tryz.prog 18 #[.string s] w fun e w' => ListP (listR s.data.toList) w e w' := by
  obtain ⟨L, hL⟩ : ∃ L, s.data.toList = L := ⟨_, rfl⟩
  rw [hL]
  obtain ⟨i0, hi', hz0, hz1, hz2⟩ := info_parts Tryz.infoInt
  refine (callsIn_wide (n := 6)).1 ?_
  refine callsIn_of_wp_marks Tryz.func18 rfl trivial ?_ rfl
  simp only [Tryz.ntmps18, List.size_toArray, List.length_cons, List.length_nil, Nat.reduceAdd, Nat.reduceSub, Array.replicate_succ, Array.replicate_zero, List.push_toArray, List.append_toArray, List.nil_append, List.cons_append]
  gi_wp2_with (refine ⟨trivial, ?_⟩; gi_at_call 47; refine (pieces_in _ _ _).mono ?_; rintro e w' ⟨rfl, rfl⟩)
  obtain ⟨W0, hW0⟩ : ∃ W0, ((((w.alloc (.cells #[.slice none 0 0] 22)).alloc (.cells #[.int .i64 0, .int .i64 0] 33)).alloc (.cells #[.slice none 0 0] 22)).alloc (.cells #[.string s] 9)) = W0 := ⟨_, rfl⟩
  have sz0 : W0.heap.size = w.heap.size + 4 := by rw [← hW0]; simp
  have kp0 : Kp w W0 := by rw [← hW0]; exact ((((Kp.refl w).alloc _ _).alloc _ _).alloc _ _).alloc _ _
  have ba : Blk w.heap.size #[.slice none 0 0] 22 W0 := by
    rw [← hW0]
    exact Blk.grown (Blk.grown (Blk.grown (heap_alloc_new w _) ((Grown.refl _).alloc _ _)) ((Grown.refl _).alloc _ _)) ((Grown.refl _).alloc _ _)
  have bb : Blk (w.heap.size + 1) #[.int .i64 0, .int .i64 0] 33 W0 := by
    rw [← hW0]
    have h := heap_alloc_new (w.alloc (.cells #[.slice none 0 0] 22)) (.cells #[.int .i64 0, .int .i64 0] 33)
    rw [World.size_alloc] at h
    exact Blk.grown (Blk.grown h ((Grown.refl _).alloc _ _)) ((Grown.refl _).alloc _ _)
  have bc : Blk (w.heap.size + 1 + 1) #[.slice none 0 0] 22 W0 := by
    rw [← hW0]
    have h := heap_alloc_new ((w.alloc (.cells #[.slice none 0 0] 22)).alloc (.cells #[.int .i64 0, .int .i64 0] 33)) (.cells #[.slice none 0 0] 22)
    rw [World.size_alloc, World.size_alloc] at h
    exact Blk.grown h ((Grown.refl _).alloc _ _)
  have bd : Blk (w.heap.size + 1 + 1 + 1) #[.string s] 9 W0 := by
    rw [← hW0]
    have h := heap_alloc_new (((w.alloc (.cells #[.slice none 0 0] 22)).alloc (.cells #[.int .i64 0, .int .i64 0] 33)).alloc (.cells #[.slice none 0 0] 22)) (.cells #[.string s] 9)
    rw [World.size_alloc, World.size_alloc, World.size_alloc] at h
    exact h
  rw [hW0]
  clear hW0
  refine wpIn_rangeFunc_ownG rfl (by omega) (gf := 68) (lb := #[.pointer (some ⟨w.heap.size + 1 + 1 + 1, 0, none⟩)]) rfl trivial (enters_of Tryz.func68 (by kernel_rfl) rfl)
    (pieces_stops _ (by omega) (w.heap.size + 1 + 1 + 1) s hs L hL W0 (by omega) (Blk.cell bd 0)) (fun h k => k.trans h) (kpB_b (by omega)) (Below.refl _ _) (fun _ => rfl)
    (LiI L w) (LiX L w) (liI_own L w _ (by omega)) (liX_own L w _ (by omega))
    ⟨by simp, ⟨_, bc, World.ownsRow_nil _ _ _ _⟩, ba, bb, by omega, kp0⟩
    (fun x => { tmps := #[.string s, undef, .pointer (some ⟨w.heap.size, 0, none⟩), .pointer (some ⟨w.heap.size + 1, 0, none⟩), .pointer (some ⟨w.heap.size + 1 + 1, 0, none⟩), .int .i64 (x.1.1 : Int), .string x.1.2, undef, undef, .string s, .func (.func 68) #[] #[.pointer (some ⟨w.heap.size + 1 + 1 + 1, 0, none⟩)], .int .i64 (x.1.1 : Int), .string x.1.2, undef, undef, undef, undef, undef, undef, undef, undef, undef, undef, undef, undef, undef, undef, undef, undef], defers := [] }) ?assign ?body ?done ?stop
  case assign =>
    intro l x W K hK
    dsimp only [encP]
    gi_wp2
    exact hK
  case body =>
    rintro l pre ⟨⟨xa, xp⟩, hxm⟩ W ⟨hok, ⟨v, hv, hrow⟩, b0, b1, hsz, hK⟩ hlt
    have hLs : L.length = s.size := by rw [← hL, Array.length_toList]; rfl
    have hm := all_mem L _ hxm
    have hal := all_len L
    have hpl : pre.length ≤ 1000000 := by omega
    have G := hide (fun w => textGetT xp (by have := hm.2; simp only at this; omega) w)
    obtain ⟨g, hg⟩ : ∃ g, gR (xa, xp) = g := ⟨_, rfl⟩
    rw [show getR xp.data.toList = g from hg] at G
    have HG := hide hg
    have HP := hide (And.intro hok (And.intro hv (And.intro hrow (And.intro b0 (And.intro b1 (And.intro hsz hK))))))
    clear hok hv hrow b0 b1 hsz hK hLs hm hal hlt hg ba bb bc bd kp0 sz0
    obtain ⟨x1, x2⟩ := g
    simp only at G
    by_cases z : x2 = 0
    · subst z
      gi_wp2_with (first
        | (refine ⟨trivial, ?_⟩; gi_at_call 16; refine (CallsIn.inRound l (callsIn_wide.2 (unhide G _))).mono ?_; rintro e w2 ⟨rfl, k2⟩; have d0 : w2.cell? ⟨w.heap.size + 1 + 1, 0, none⟩ = some v := (Blk.cell (Blk.kp (unhide HP).2.1 k2) 0); have K2 := hide k2; clear k2)
        | (gi_at_builtin; refine wpListIn_append_own _ rfl _ _ 22 rfl (w.heap.size + 4) 3 i0 (.int .i64 0) 1 8 Tryz.underlying22 hi' hz0 hz1 hz2 rfl (by decide) _ _ _ rfl ((owns_kp (unhide HP).2.2.1 (unhide K2)).alloc _) ⟨w2.heap.size, 0, none⟩ 1 1 [.int .i64 x1] rfl rfl (news_one _ _ _) (one_cell _) (by unfold maxLen; omega) (by omega) (by have := (unhide HP).2.2.2.2.2.1; have := (unhide K2).2.2.2; simp; omega) ?_; intro v' w6 hown' hgrow _; obtain ⟨g', cap', rfl⟩ := ownsRow_succ hown'; have lt := ((owns_kp (unhide HP).2.2.1 (unhide K2)).alloc (Obj.cells #[Value.int .i64 x1] 3)).lt; have bl6 : Blk (w.heap.size + 1 + 1) #[v] 22 w6 := Blk.by (Blk.grown (Blk.kp (unhide HP).2.1 (unhide K2)) ((Grown.refl _).alloc _ _)) hgrow (fun e => (by have := (lt _ e.symm).1; omega)); have d6 : w6.cell? ⟨w.heap.size + 1 + 1, 0, none⟩ = some v := Blk.cell bl6 0; have f6 := Blk.free bl6 0))
      obtain ⟨hok, hv, hrow, b0, b1, hsz, hK⟩ := unhide HP
      have k2 := unhide K2
      have hs2 := k2.2.2.2
      have ga : Grown w2 (w2.alloc (.cells #[.int .i64 x1] 3)) := (Grown.refl _).alloc _ _
      replace hgrow : (w2.alloc (.cells #[.int .i64 x1] 3)).grownBy w6 v.ownBlock := hgrow
      have m6 : Mod (w.heap.size + 1 + 1) w6 (w6.setCell ⟨w.heap.size + 1 + 1, 0, none⟩ (.slice (some ⟨g', 0, none⟩) (pre.length + 1) cap')) := (Mod.refl _ _).setCell 0 _
      have hs6 : w2.heap.size + 1 ≤ w6.heap.size := by have := hgrow.size; simpa using this
      have far : ∀ k, k < w.heap.size + 4 → some k ≠ v.ownBlock := fun k hk e => by have := (lt _ e.symm).1; omega
      refine ⟨KeepsOthers.from ((((kp_others k2).trans (KeepsOthers.alloc _ _)).trans (KeepsOthers.of_grownBy hgrow fun j o ej hj => ?_)).trans (KeepsOthers.setCell _ _ _)) _, ?_, ?_⟩
      · rcases ((owns_kp hrow k2).alloc (Obj.cells #[Value.int .i64 x1] 3)).2 with ⟨rfl, _⟩ | ⟨q, cap, cur, rfl, _, hgb, _⟩
        · simp [Value.ownBlock] at ej
        · obtain rfl : q = j := by simpa [Value.ownBlock] using ej
          rw [hgb] at hj
          cases hj
          rfl
      · have e1 : w2.heap[w.heap.size + 1 + 1 + 1]? = W.heap[w.heap.size + 1 + 1 + 1]? := k2.2.2.1 _ (by omega)
        have e2 := gblock ga (show w.heap.size + 1 + 1 + 1 < w2.heap.size by omega)
        have e3 := hgrow.block (w.heap.size + 1 + 1 + 1) (by simp; omega) (far _ (by omega))
        have e4 := m6.2.2.1 (w.heap.size + 1 + 1 + 1) (by omega) (by omega)
        exact World.cell?_of_block (e4.trans (e3.trans (e2.trans e1)))
      · refine ⟨fun y hy => ?_, ⟨_, Blk.set bl6 0 _, ?_⟩, Blk.keep (Blk.by (Blk.grown (Blk.kp b0 k2) ga) hgrow (far _ (by omega))) m6 (by omega), Blk.keep (Blk.by (Blk.grown (Blk.kp b1 k2) ga) hgrow (far _ (by omega))) m6 (by omega), Nat.le_trans (by omega) m6.2.2.2.2, (Kp.by ((hK.trans k2).alloc _ _) hgrow (fun i e => by have := (lt i e).1; omega)).mod m6 (by omega)⟩
        · rcases List.mem_append.1 hy with hy | hy
          · exact hok y hy
          · simp at hy
            subst hy
            show (gR (xa, xp)).2 = 0
            rw [unhide HG]
        · have e : rowP (pre ++ [⟨(xa, xp), hxm⟩]) = rowP pre ++ [.int .i64 x1] := by
            unfold rowP
            rw [List.map_append]
            show _ ++ [Value.int .i64 (gR (xa, xp)).1] = _
            rw [unhide HG]
          rw [e, List.length_append]
          exact owns_mod hown' m6 (by omega)
    · have z2 : (x2 == 0) = false := by simpa using z
      have Z2 := hide z
      clear z
      gi_wp2_with (refine ⟨trivial, ?_⟩; gi_at_call 16; refine (CallsIn.inRound l (callsIn_wide.2 (unhide G _))).mono ?_; rintro e w2 ⟨rfl, k2⟩; have p0 := Blk.kp (unhide HP).2.2.2.1 k2; have p1 := Blk.kp (unhide HP).2.2.2.2.1 k2; have d0 : w2.cell? ⟨w.heap.size, 0, none⟩ = some (.slice none 0 0) := (Blk.cell p0 0); have d1 : w2.cell? ⟨w.heap.size + 1, 0, none⟩ = some (.int .i64 0) := (Blk.cell p1 0); have d2 : w2.cell? ⟨w.heap.size + 1, 1, none⟩ = some (.int .i64 0) := (Blk.cell p1 1); have f0 := Blk.free p0; have f1 := Blk.free p1; have K2 := hide k2; clear k2)
      obtain ⟨hok, hv, hrow, b0, b1, hsz, hK⟩ := unhide HP
      have k2 := unhide K2
      have hs2 := k2.2.2.2
      have m0 : Mod w.heap.size w2 (w2.setCell ⟨w.heap.size, 0, none⟩ (.slice none 0 0)) := (Mod.refl _ _).setCell 0 _
      have m1 : Mod (w.heap.size + 1) (w2.setCell ⟨w.heap.size, 0, none⟩ (.slice none 0 0)) (((w2.setCell ⟨w.heap.size, 0, none⟩ (.slice none 0 0)).setCell ⟨w.heap.size + 1, 0, none⟩ (.int .i64 x2)).setCell ⟨w.heap.size + 1, 1, none⟩ (.int .i64 (xa : Int))) := ((Mod.refl _ _).setCell 0 _).setCell 1 _
      refine ⟨KeepsOthers.from ((((kp_others k2).trans (KeepsOthers.setCell _ _ _)).trans (KeepsOthers.setCell _ _ _)).trans (KeepsOthers.setCell _ _ _)) _, rfl, ⟨pre, ⟨(xa, xp), hxm⟩, rfl, hok, ?_, Blk.keep (Blk.set p0 0 _) m1 (by omega), ?_⟩, ((hK.trans k2).mod m0 (Nat.le_refl _)).mod m1 (by omega)⟩
      · show (gR (xa, xp)).2 ≠ 0
        rw [unhide HG]
        exact unhide Z2
      · show Blk _ #[.int .i64 (gR (xa, xp)).2, .int .i64 (xa : Int)] _ _
        rw [unhide HG]
        exact Blk.set (Blk.set (Blk.keep p1 m0 (by omega)) 0 _) 1 _
  case done =>
    rintro D ys W hD rfl ⟨hok, ⟨v, hv, hrow⟩, b0, b1, hsz, hK⟩ hDf
    obtain ⟨ao, cap, rfl⟩ := owns_slice hrow
    have d0 : W.cell? ⟨w.heap.size + 1 + 1, 0, none⟩ = some (.slice ao ((allP L).attach : List (Pc L)).length cap) := Blk.cell hv 0
    have d1 : W.cell? ⟨w.heap.size, 0, none⟩ = some (.slice none 0 0) := Blk.cell b0 0
    have d2 : W.cell? ⟨w.heap.size + 1, 0, none⟩ = some (.int .i64 0) := Blk.cell b1 0
    have d3 : W.cell? ⟨w.heap.size + 1, 1, none⟩ = some (.int .i64 0) := Blk.cell b1 1
    have f0 := Blk.free b0
    have f1 := Blk.free b1
    have HP := hide (And.intro hok (And.intro hv (And.intro hrow (And.intro b0 (And.intro b1 (And.intro hsz hK))))))
    clear hok hv hrow b0 b1 hsz hK ba bb bc bd kp0
    gi_wp2
    obtain ⟨hok, hv, hrow, b0, b1, hsz, hK⟩ := unhide HP
    have nl : ((allP L).attach : List (Pc L)).length = (allP L).length := List.length_attach
    have m0 : Mod w.heap.size W (W.setCell ⟨w.heap.size, 0, none⟩ (.slice ao (allP L).length cap)) := (Mod.refl _ _).setCell 0 _
    have m1 : Mod (w.heap.size + 1) (W.setCell ⟨w.heap.size, 0, none⟩ (.slice ao (allP L).length cap)) (((W.setCell ⟨w.heap.size, 0, none⟩ (.slice ao (allP L).length cap)).setCell ⟨w.heap.size + 1, 0, none⟩ (.int .i64 0)).setCell ⟨w.heap.size + 1, 1, none⟩ (.int .i64 0)) := ((Mod.refl _ _).setCell 0 _).setCell 1 _
    have kD : (((W.setCell ⟨w.heap.size, 0, none⟩ (.slice ao (allP L).length cap)).setCell ⟨w.heap.size + 1, 0, none⟩ (.int .i64 0)).setCell ⟨w.heap.size + 1, 1, none⟩ (.int .i64 0)).heap[D]? = some (.deferred (some [])) := (((KeepsOthers.setCell _ _ _).trans (KeepsOthers.setCell _ _ _)).trans (KeepsOthers.setCell _ _ _)).same D _ hDf rfl
    have B0 := Blk.keep (Blk.set b0 0 (.slice ao (allP L).length cap)) m1 (by omega)
    have B1 := Blk.set (Blk.set (Blk.keep b1 m0 (by omega)) 0 (.int .i64 0)) 1 (.int .i64 0)
    have eR : rowP ((allP L).attach : List (Pc L)) = ((allP L).map fun x => (gR x).1).map (Value.int .i64) := by
      unfold rowP
      rw [List.map_map]
      exact List.attach_map_val (l := allP L) (f := fun x => Value.int .i64 (gR x).1)
    rw [eR, nl] at hrow
    have own1 := owns_mod (owns_mod hrow m0 (by omega)) m1 (by omega)
    have K1 := (hK.mod m0 (Nat.le_refl _)).mod m1 (by omega)
    have RR : listR L = ((allP L).map (fun x => (gR x).1), 0, 0) := by
      rw [fold_all, fold_ok (allP L) [] (fun x hx => hok ⟨x, hx⟩ (List.mem_attach _ _)), List.nil_append]
    generalize (((W.setCell ⟨w.heap.size, 0, none⟩ (.slice ao (allP L).length cap)).setCell ⟨w.heap.size + 1, 0, none⟩ (.int .i64 0)).setCell ⟨w.heap.size + 1, 1, none⟩ (.int .i64 0)) = WW at *
    have own2 := ownsRow_putObj own1 (.deferred none) kD rfl
    have gD := grownBy_putObj' WW D (.deferred none)
    have hDD : w.heap.size + 4 ≤ D := by omega
    have B0' := Blk.by B0 gD (fun e => by cases e; omega)
    have B1' := Blk.by B1 gD (fun e => by cases e; omega)
    have K2 : Kp w (WW.putObj D (.deferred none)) := K1.by gD (fun k e => by cases e; omega)
    refine ⟨by simp, .inl ⟨_, _, rfl, run_takeDeferred kD, ?_⟩⟩
    have c0 : (WW.putObj D (.deferred none)).cell? ⟨w.heap.size, 0, none⟩ = some (.slice ao (allP L).length cap) := Blk.cell B0' 0
    have c1 : (WW.putObj D (.deferred none)).cell? ⟨w.heap.size + 1, 0, none⟩ = some (.int .i64 0) := Blk.cell B1' 0
    have c2 : (WW.putObj D (.deferred none)).cell? ⟨w.heap.size + 1, 1, none⟩ = some (.int .i64 0) := Blk.cell B1' 1
    generalize WW.putObj D (.deferred none) = WP at *
    refine ⟨.tuple #[.slice ao (allP L).length cap, .agg #[.int .i64 0, .int .i64 0]], by simp [results, Tryz.results18, go_sem, c0, c1, c2], ?_⟩
    rw [RR]
    have hml : ((allP L).map fun x => (gR x).1).length = (allP L).length := List.length_map _
    rw [← hml] at own2
    obtain ⟨ao2, cap2, hv2, row2, _⟩ := owns_list own2
    cases hv2
    refine ⟨ao, cap, by rw [hml], row2, owns_free (by omega) own2, K2⟩
  case stop =>
    rintro D c pre W hD hpre ⟨rfl, ⟨q, x, rfl, hq, hx, b0, b1⟩, hK⟩ hDf
    have HP := hide (And.intro hpre (And.intro hq (And.intro hx (And.intro b0 (And.intro b1 hK)))))
    clear hpre hq hx b0 b1 hK ba bb bc bd kp0
    gi_wp2
    obtain ⟨⟨r, hr⟩, hq, hx, b0, b1, hK⟩ := unhide HP
    have hal : allP L = q.map (·.1) ++ x.1 :: r.map (·.1) := by
      have h := congrArg (List.map (fun y : Pc L => y.1)) hr
      rw [List.attach_map_subtype_val, List.map_append, List.map_append] at h
      exact h.symm.trans (by simp)
    have RR : listR L = ([], (gR x.1).2, (x.1.1 : Int)) := by
      have h1 := fold_bad x.1 (r.map (·.1)) hx (q.map (·.1)) [] (fun y hy => by
        obtain ⟨z, hz, rfl⟩ := List.mem_map.1 hy
        exact hq z hz)
      exact (fold_all L).trans ((congrArg (fun p => foldP p []) hal).trans h1)
    have gD := grownBy_putObj' W D (.deferred none)
    have B0' := Blk.by b0 gD (fun e => by cases e; omega)
    have B1' := Blk.by b1 gD (fun e => by cases e; omega)
    have K2 : Kp w (W.putObj D (.deferred none)) := hK.by gD (fun k e => by cases e; omega)
    refine ⟨by simp, .inl ⟨_, _, rfl, run_takeDeferred hDf, ?_⟩⟩
    have c0 : (W.putObj D (.deferred none)).cell? ⟨w.heap.size, 0, none⟩ = some (.slice none 0 0) := Blk.cell B0' 0
    have c1 : (W.putObj D (.deferred none)).cell? ⟨w.heap.size + 1, 0, none⟩ = some (.int .i64 (gR x.1).2) := Blk.cell B1' 0
    have c2 : (W.putObj D (.deferred none)).cell? ⟨w.heap.size + 1, 1, none⟩ = some (.int .i64 (x.1.1 : Int)) := Blk.cell B1' 1
    generalize W.putObj D (.deferred none) = WP at *
    refine ⟨.tuple #[.slice none 0 0, .agg #[.int .i64 (gR x.1).2, .int .i64 (x.1.1 : Int)]], by simp [results, Tryz.results18, go_sem, c0, c1, c2], ?_⟩
    rw [RR]
    exact ⟨none, 0, rfl, Or.inl rfl, Or.inl rfl, K2⟩
end
end Go.Proofs.YtnelkhmahmoclaaGreatDoor
