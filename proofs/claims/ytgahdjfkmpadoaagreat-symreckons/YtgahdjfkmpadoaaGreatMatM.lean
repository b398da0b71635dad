/- The laws' kit: matrices' copies, matrices side by side, lists written over; the laws' long. -/
import Derived.Test.YtgahdjfkmpadoaaGreatMatL
import Derived.Deep.RegionHeld3
import Derived.Deep.DrawnRows
namespace Go.Proofs.YtgahdjfkmpadoaaGreat
open Go.RowKit Go.Shelf Go.Proofs.Wd
set_option linter.unusedVariables false
set_option linter.unusedSimpArgs false
set_option maxRecDepth 10000

/-- Numbers that the call itself has gathered, and how much room there is. -/
theorem owns_rowC {w : World} {base n : Nat} {v : Value} {Z : Nat → Int} (h : w.ownsRow base 3 1 v n ((List.range n).map fun i => Value.int .i64 (Z i))) : ∃ ao cap, v = .slice ao n cap ∧ n ≤ cap ∧ Row w ao n Z ∧ ∀ U, U < base → Off U n ao := by
  obtain ⟨ao, cap, rfl, h1, h2⟩ := owns_row h
  rcases h.2 with ⟨e, rfl⟩ | ⟨g, cap', cur, e, hb, hg, hn, _⟩
  · exact ⟨ao, cap, rfl, Nat.zero_le _, h1, h2⟩
  · injection e with e1 e2 e3
    exact ⟨ao, cap, rfl, by omega, h1, h2⟩
def CopyQ (n : Nat) (Z : Nat → Int) (w : World) (e : Ending) (w' : World) : Prop := ∃ ao cap, e = .returned (.slice ao n cap) ∧ n ≤ cap ∧ Row w' ao n Z ∧ (∀ U, U < w.heap.size → Off U n ao) ∧ Kp w w'

set_option maxRecDepth 20000 in
set_option maxHeartbeats 1000000 in
theorem kitCopyC (ao : Option Addr) (n cap : Nat) (Z : Nat → Int) (hn : n ≤ 1000000) (h0 : ao = none → n = 0 ∧ cap = 0) (w : World) (hr : Row w ao n Z) :
    Calls Tryz.prog 9 #[.slice ao n cap] w fun e w' => CopyQ n Z w e w' := by
  have HR := hide hr
  clear hr
  obtain ⟨i0, hi, hz0, hz1, hz2⟩ := info_parts Tryz.infoInt
  have OM := hide (World.ownsRow_made (base := w.heap.size) (e := 3) (size := 1) w #[] 0 (Nat.le_refl _) (by unfold maxLen; omega) (by simp))
  cases ao with
  | none =>
    obtain ⟨rfl, rfl⟩ := h0 rfl
    clear h0
    go_enter Tryz.func9, Tryz.ntmps9
    go_wp2_with (at_builtin; refine wpList_append_own_none rfl _ _ 22 rfl w.heap.size 3 i0 1 Tryz.underlying22 hi _ _ _ rfl (unhide OM) rfl ?_)
    go_ret
    exact (show CopyQ _ _ _ _ _ from ⟨_, _, rfl, Nat.zero_le _, Or.inl rfl, fun U hU h => absurd h (Nat.lt_irrefl _), (Kp.refl _).alloc _ _⟩)
  | some a =>
    clear h0
    have NEW : ∀ j u, ((List.range n).map fun i => Value.int .i64 (Z i))[j]? = some u → (w.alloc (.cells #[] 3)).cell? (a.add j) = some u := by
      intro j u hu
      rw [List.getElem?_map] at hu
      by_cases hj : j < n
      · rw [List.getElem?_range hj] at hu
        simp at hu
        subst hu
        obtain ⟨b, o, e, hc⟩ := (unhide HR).at hj
        cases e
        rw [Go.WideShapes.add_plain]
        exact gat ((Grown.refl _).alloc _ _) hc
      · rw [List.getElem?_eq_none (by simpa using hj)] at hu
        simp at hu
    have NEWH := hide NEW
    clear NEW
    go_enter Tryz.func9, Tryz.ntmps9
    go_wp2_with (at_builtin; refine wpList_append_own _ rfl _ _ 22 rfl w.heap.size 3 i0 (.int .i64 0) 1 8 Tryz.underlying22 hi hz0 hz1 hz2 rfl (by decide) _ _ _ rfl (unhide OM) a n cap ((List.range n).map fun i => Value.int .i64 (Z i)) rfl (by simp) (unhide NEWH) (cells_one _ _) (by unfold maxLen; omega) (by omega) (by simp) ?_; intro v' w1 hown' hgrow _)
    rw [Nat.zero_add, List.nil_append] at hown'
    obtain ⟨ao2, cap2, rfl, hc2, row2, off2⟩ := owns_rowC hown'
    have K1 : Hid (Kp w w1) := Kp.by ((Kp.refl _).alloc _ _) hgrow (fun k e => by have := ((unhide OM).lt k e).1; omega)
    have R1 := hide (And.intro hc2 (And.intro row2 off2))
    clear hown' hgrow row2 off2 hc2
    go_wp2
    go_ret
    exact (show CopyQ _ _ _ _ _ from ⟨_, _, rfl, (unhide R1).1, (unhide R1).2.1, (unhide R1).2.2, unhide K1⟩)

/-- A matrix's copy. -/
def CopyM (r c : Int) (n : Nat) (Z : Nat → Int) (w : World) (e : Ending) (w' : World) : Prop := ∃ ao cap, e = .returned (.agg #[.int .i64 r, .int .i64 c, .slice ao n cap]) ∧ n ≤ cap ∧ Row w' ao n Z ∧ (∀ U, U < w.heap.size → Off U n ao) ∧ Kp w w'

set_option maxRecDepth 20000 in
set_option maxHeartbeats 2000000 in
theorem kitCopyM (r c : Int) (ao : Option Addr) (n cap : Nat) (Z : Nat → Int) (hn : n ≤ 1000000) (h0 : ao = none → n = 0 ∧ cap = 0) (w : World) (hr : Row w ao n Z) :
    Calls Tryz.prog 8 #[.agg #[.int .i64 r, .int .i64 c, .slice ao n cap]] w fun e w' => CopyM r c n Z w e w' := by
  have G : Grown w ((w.alloc (.cells #[.int .i64 r, .int .i64 c, .slice ao n cap] 24)).alloc (.cells #[.int .i64 0, .int .i64 0, .slice none 0 0] 24)) := ((Grown.refl _).alloc _ _).alloc _ _
  have bl : Blk w.heap.size #[.int .i64 r, .int .i64 c, .slice ao n cap] 24 ((w.alloc (.cells #[.int .i64 r, .int .i64 c, .slice ao n cap] 24)).alloc (.cells #[.int .i64 0, .int .i64 0, .slice none 0 0] 24)) := Blk.grown (Blk.new w _ _) ((Grown.refl _).alloc _ _)
  have br := blk_new2 w (.cells #[.int .i64 r, .int .i64 c, .slice ao n cap] 24) #[.int .i64 0, .int .i64 0, .slice none 0 0] 24
  have CC := hide (fun wx hx => kitCopyC ao n cap Z hn h0 wx hx)
  have HR := hide (hr.grown G)
  have HG := hide G
  have HB := hide (And.intro bl br)
  clear G bl br hr h0 hn
  go_enter Tryz.func8, Tryz.ntmps8
  go_wp2
  generalize (w.alloc (.cells #[.int .i64 r, .int .i64 c, .slice ao n cap] 24)).alloc (.cells #[.int .i64 0, .int .i64 0, .slice none 0 0] 24) = w1 at *
  have y0 : w1.cell? ⟨w.heap.size, 0, none⟩ = some (.int .i64 r) := Blk.cell (unhide HB).1 0
  have y1 : w1.cell? ⟨w.heap.size, 1, none⟩ = some (.int .i64 c) := Blk.cell (unhide HB).1 1
  have y2 : w1.cell? ⟨w.heap.size, 2, none⟩ = some (.slice ao n cap) := Blk.cell (unhide HB).1 2
  go_region_held3 (fun w' => w'.cell? ⟨w.heap.size, 0, none⟩ = some (.int .i64 r) ∧ w'.cell? ⟨w.heap.size, 1, none⟩ = some (.int .i64 c) ∧ w'.cell? ⟨w.heap.size, 2, none⟩ = some (.slice ao n cap))
      (simp [go_sem, *])
      (first | (go_at_call 9; refine (unhide CC _ (by exact (unhide HR))).mono ?_; rintro e w3 ⟨ao2, cap2, rfl, h1, h2, h3, k3⟩; have k4 : Kp w1 w3 := k3; have b3 := Blk.kp (unhide HB).2 k4; have b4 := Blk.kp (unhide HB).1 k4; have z0 : w3.cell? ⟨w.heap.size, 0, none⟩ = some (.int .i64 r) := (Blk.cell b4 0); have z1 : w3.cell? ⟨w.heap.size, 1, none⟩ = some (.int .i64 c) := (Blk.cell b4 1); have z2 : w3.cell? ⟨w.heap.size, 2, none⟩ = some (.slice ao n cap) := (Blk.cell b4 2); have e0 : w3.cell? ⟨w.heap.size + 1, 0, none⟩ = some (.int .i64 0) := (Blk.cell b3 0); have e1 : w3.cell? ⟨w.heap.size + 1, 1, none⟩ = some (.int .i64 0) := (Blk.cell b3 1); have e2 : w3.cell? ⟨w.heap.size + 1, 2, none⟩ = some (.slice none 0 0) := (Blk.cell b3 2); have f := Blk.free b3; have R := hide (And.intro b3 (And.intro h1 (And.intro h2 (And.intro h3 k4)))); clear b3 b4 h1 h2 h3 k3 k4))
  go_wp2
  obtain ⟨b3, h1, h2, h3, k4⟩ := unhide R
  have P := putM b3 (.int .i64 r) (.int .i64 c) (.slice ao2 n cap2)
  generalize (((w3.setCell ⟨w.heap.size + 1, 0, none⟩ (.int .i64 r)).setCell ⟨w.heap.size + 1, 1, none⟩ (.int .i64 c)).setCell ⟨w.heap.size + 1, 2, none⟩ (.slice ao2 n cap2)) = wE at *
  have c0 : wE.cell? ⟨w.heap.size + 1, 0, none⟩ = some (.int .i64 r) := Blk.cell P.1 0
  have c1 : wE.cell? ⟨w.heap.size + 1, 1, none⟩ = some (.int .i64 c) := Blk.cell P.1 1
  have c2 : wE.cell? ⟨w.heap.size + 1, 2, none⟩ = some (.slice ao2 n cap2) := Blk.cell P.1 2
  refine bodyPost_ret (v := .agg #[.int .i64 r, .int .i64 c, .slice ao2 n cap2]) (by simp [results, Tryz.results8, go_sem, c0, c1, c2]) rfl ?_
  have hB := Blk.lt (unhide HB).2
  have hs := (unhide HG).2.2
  exact ⟨_, _, rfl, h1, h2.mod P.2 (h3 _ hB), fun U hU => h3 U (Nat.lt_of_lt_of_le hU hs), ((Kp.of (unhide HG)).trans k4).mod P.2 (by omega)⟩

set_option maxHeartbeats 1000000 in
theorem kitSameM (r c : Int) (ao bo : Option Addr) (len c1 c2 : Nat) (X : Nat → Int) (hl : len ≤ 1000000) (w : World) (hr : Row w ao len X) (ht : Row w bo len X) :
    Calls Tryz.prog 22 #[.agg #[.int .i64 r, .int .i64 c, .slice ao len c1], .agg #[.int .i64 r, .int .i64 c, .slice bo len c2]] w fun e w' => e = .returned (.bool true) ∧ Kp w w' := by
  have G : Grown w ((w.alloc (.cells #[.int .i64 r, .int .i64 c, .slice ao len c1] 24)).alloc (.cells #[.int .i64 r, .int .i64 c, .slice bo len c2] 24)) := ((Grown.refl _).alloc _ _).alloc _ _
  have S := hide (kitSameQ ao bo len c1 c2 X hl _ (hr.grown G) (ht.grown G))
  have HG := hide G
  clear G hr ht
  go_enter Tryz.func22, Tryz.ntmps22
  go_wp2_with fail
  refine (unhide S).mono ?_
  rintro e w2 ⟨rfl, n, rfl⟩
  have K : Hid (Kp w (((w.alloc (.cells #[.int .i64 r, .int .i64 c, .slice ao len c1] 24)).alloc (.cells #[.int .i64 r, .int .i64 c, .slice bo len c2] 24)).drewN n)) := Kp.of (unhide HG)
  go_wp2
  go_ret
  exact ⟨rfl, unhide K⟩

end Go.Proofs.YtgahdjfkmpadoaaGreat
