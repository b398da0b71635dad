/- SymRd SymRe PickA SymM3 SymL SymL2 SymK0 SymO RegM RegN MatTD SymS SymLk SymK1 RegP SymRk MatRL SymReckonsLaw, one after another. -/
import Derived.Test.YtgahdjfkmpadoaaGreatSymReckonsDoc
import Derived.Test.YtgahdjfkmpadoaaGreatSymBase
import Derived.Test.YtgahdjfkmpadoaaGreatRowA
import Derived.Test.YtgahdjfkmpadoaaGreatRowL
import Derived.Test.YtgahdjfkmpadoaaGreatRows
import Derived.ProofKit
import Derived.OpenShut
import Derived.Lib.SmallJoins
/- The document's sym: Sandwich. -/
namespace Go.Proofs.YtgahdjfkmpadoaaGreat
open Go.RowKit Go.Shelf Go.Proofs.Wd
set_option linter.unusedVariables false
set_option linter.unusedSimpArgs false
set_option maxRecDepth 10000

/-- A function under way: boxes of its own, lists, the document's unit. -/
def FS (w : World) (R : Nat) (bx : List (Nat × Array Value)) (rows : List (Option Addr × Nat × (Nat → Int))) (cut : Bool) (n : Int) (wr : World) : Prop :=
  (∀ b ∈ bx, Blk b.1 b.2 24 wr ∧ w.heap.size ≤ b.1) ∧ (∀ r ∈ rows, Row wr r.1 r.2.1 r.2.2 ∧ Off R r.2.1 r.1) ∧ RC R cut n wr ∧ Mk R w wr ∧ R < w.heap.size
section
variable {w wr w' : World} {R : Nat} {bx : List (Nat × Array Value)} {rows : List (Option Addr × Nat × (Nat → Int))} {cut cut' : Bool} {n n' : Int} {r c err : Int} {len : Nat} {Z : Nat → Int} {e : Ending}
theorem FS.kp (h : FS w R bx rows cut n wr) (k : Kp wr w') : FS w R bx rows cut n w' :=
  ⟨fun b hb => ⟨Blk.kp (h.1 b hb).1 k, (h.1 b hb).2⟩, fun r hr => ⟨(h.2.1 r hr).1.kp k, (h.2.1 r hr).2⟩, Blk.kp h.2.2.1 k, h.2.2.2.1.trans (Mk.kp k), h.2.2.2.2⟩
theorem FS.mk (h : FS w R bx rows cut n wr) (k : Mk R wr w') (u : RC R cut' n' w') : FS w R bx rows cut' n' w' :=
  ⟨fun b hb => ⟨Blk.mk (h.1 b hb).1 k (by have := (h.1 b hb).2; have := h.2.2.2.2; omega), (h.1 b hb).2⟩, fun r hr => ⟨(h.2.1 r hr).1.mk k (h.2.1 r hr).2, (h.2.1 r hr).2⟩, u, h.2.2.2.1.trans k, h.2.2.2.2⟩
theorem FS.box (h : FS w R bx rows cut n wr) (cs : Array Value) : FS w R ((wr.heap.size, cs) :: bx) rows cut n (wr.alloc (.cells cs 24)) := by
  have k := h.kp ((Kp.refl wr).alloc cs 24)
  refine ⟨fun b hb => ?_, k.2⟩
  rcases List.mem_cons.1 hb with rfl | hb
  · exact ⟨Blk.new wr _ _, h.2.2.2.1.2.2.2⟩
  · exact k.1 b hb
theorem FS.row {ao : Option Addr} (h : FS w R bx rows cut n wr) (r : Row wr ao len Z) (f : Off R len ao) : FS w R bx ((ao, len, Z) :: rows) cut n wr := by
  refine ⟨h.1, fun q hq => ?_, h.2.2⟩
  rcases List.mem_cons.1 hq with rfl | hq
  · exact ⟨r, f⟩
  · exact h.2.1 q hq
theorem FS.told (h : FS w R bx rows cut n wr) (m : DocP r c len Z err (fun w' => RC R cut' n' w' ∧ Mk R wr w') wr e w') : ∃ ao cap, e = .returned (.tuple #[.agg #[.int .i64 r, .int .i64 c, .slice ao len cap], .int .i64 err]) ∧ len ≤ cap ∧ FS w R bx ((ao, len, Z) :: rows) cut' n' w' := by
  obtain ⟨ao, cap, rfl, h1, h2, h3, h4, h5⟩ := m
  exact ⟨ao, cap, rfl, h1, (h.mk h5 h4).row h2 (h3 R (Blk.lt h.2.2.1))⟩
theorem FS.toldK (h : FS w R bx rows cut n wr) (m : DocP r c len Z err (Kp wr) wr e w') : ∃ ao cap, e = .returned (.tuple #[.agg #[.int .i64 r, .int .i64 c, .slice ao len cap], .int .i64 err]) ∧ len ≤ cap ∧ FS w R bx ((ao, len, Z) :: rows) cut n w' := by
  obtain ⟨ao, cap, rfl, h1, h2, h3, h4⟩ := m
  exact ⟨ao, cap, rfl, h1, (h.kp h4).row h2 (h3 R (Blk.lt h.2.2.1))⟩
theorem FS.cells {b : Nat} {x0 x1 x2 : Value} (h : FS w R bx rows cut n wr) (hb : (b, #[x0, x1, x2]) ∈ bx) : wr.cell? ⟨b, 0, none⟩ = some x0 ∧ wr.cell? ⟨b, 1, none⟩ = some x1 ∧ wr.cell? ⟨b, 2, none⟩ = some x2 := ⟨Blk.cell (h.1 _ hb).1 0, Blk.cell (h.1 _ hb).1 1, Blk.cell (h.1 _ hb).1 2⟩
theorem FS.at {ao : Option Addr} (h : FS w R bx rows cut n wr) (hr : (ao, len, Z) ∈ rows) : Row wr ao len Z ∧ Off R len ao := h.2.1 _ hr
end


set_option maxRecDepth 20000 in
set_option maxHeartbeats 4000000 in
theorem refSandwich_ok (R : Nat) (c0 : Bool) (n0 : Int) (hn0 : 0 ≤ n0 ∧ n0 < 1000000000000000000) (r m : Nat) (a1 a2 : Option Addr) (l1 p1 l2 p2 : Nat) (A B : Nat → Int) (hr : 1 ≤ r ∧ r ≤ 12) (hm : 1 ≤ m ∧ m ≤ 12) (hl1 : l1 = r * m) (hl2 : l2 = m * m) (hp1 : l1 ≤ p1) (hA : ∀ j, j < l1 → I64 (A j)) (hB : ∀ j, j < l2 → I64 (B j)) (w : World) (h : RC R c0 n0 w) (ra : Row w a1 l1 A) (oa : Off R l1 a1) (rb : Row w a2 l2 B) (ob : Off R l2 a2) :
    Calls Tryz.prog 14 #[.pointer (some ⟨R, 0, none⟩), .agg #[.int .i64 r, .int .i64 m, .slice a1 l1 p1], .agg #[.int .i64 m, .int .i64 m, .slice a2 l2 p2]] w fun e w' => DocP r r (r * r) (evenZ (mulZ (mulZ A B m m) (turnZ A r m) m r) r) 0 (fun w' => (∃ k, n0 ≤ k ∧ k ≤ n0 + 10000 ∧ RC R (c0 || orC (mulG A B m m) (r * m) || orC (mulG (mulZ A B m m) (turnZ A r m) m r) (r * r) || orC (upC (evC (mulZ (mulZ A B m m) (turnZ A r m) m r) r) 1 r) (r * r)) k w') ∧ Mk R w w') w e w' := by
  have ok1 : okM r m l1 := ⟨by omega, by omega, by rw [hl1, Int.natCast_mul]⟩
  have ok2 : okM m m l2 := ⟨by omega, by omega, by rw [hl2, Int.natCast_mul]⟩
  have A1 := hide (fun w => refMCheck r m a1 l1 p1 w)
  rw [chk_ok ok1] at A1
  have A2 := hide (fun w => refSqM_ok m m a2 l2 p2 ⟨ok2, rfl⟩ w)
  have HH := hide (And.intro hn0 (And.intro hr (And.intro hm (And.intro hl1 (And.intro hl2 hp1)))))
  have HA := hide (And.intro hA hB)
  have B1 := hide (bnd m (r * m) hm.2 (by have := mul12n r m hr hm; omega))
  have B2 := hide (bnd m (r * r) hm.2 (by have := mul12n r r hr hr; omega))
  have lR := Blk.lt h
  obtain ⟨G, s3, x0, x1, x2⟩ := alloc3 w #[.int .i64 r, .int .i64 m, .slice a1 l1 p1] 24 #[.int .i64 m, .int .i64 m, .slice a2 l2 p2] 24 #[.int .i64 0, .int .i64 0, .slice none 0 0] 24
  have F0 : Hid (FS w R [(w.heap.size + 1 + 1, #[.int .i64 0, .int .i64 0, .slice none 0 0]), (w.heap.size + 1, #[.int .i64 m, .int .i64 m, .slice a2 l2 p2]), (w.heap.size, #[.int .i64 r, .int .i64 m, .slice a1 l1 p1])] [(a2, l2, B), (a1, l1, A)] c0 n0 (((w.alloc (.cells #[.int .i64 r, .int .i64 m, .slice a1 l1 p1] 24)).alloc (.cells #[.int .i64 m, .int .i64 m, .slice a2 l2 p2] 24)).alloc (.cells #[.int .i64 0, .int .i64 0, .slice none 0 0] 24))) := by
    refine ⟨fun b hb => ?_, fun q hq => ?_, Blk.grown h G, Mk.of (Mod.of G), lR⟩
    · simp only [List.mem_cons, List.not_mem_nil, or_false] at hb
      rcases hb with rfl | rfl | rfl
      · exact ⟨x2, by show w.heap.size ≤ w.heap.size + 1 + 1; omega⟩
      · exact ⟨x1, by show w.heap.size ≤ w.heap.size + 1; omega⟩
      · exact ⟨x0, Nat.le_refl _⟩
    · simp only [List.mem_cons, List.not_mem_nil, or_false] at hq
      rcases hq with rfl | rfl
      · exact ⟨rb.grown G, ob⟩
      · exact ⟨ra.grown G, oa⟩
  clear hn0 hr hm hl1 hl2 hp1 hA hB h ra oa rb ob ok1 ok2 lR G s3 x0 x1 x2
  go_enter Tryz.func14, Tryz.ntmps14
  go_wp2_with fail
  generalize (((w.alloc (.cells #[.int .i64 r, .int .i64 m, .slice a1 l1 p1] 24)).alloc (.cells #[.int .i64 m, .int .i64 m, .slice a2 l2 p2] 24)).alloc (.cells #[.int .i64 0, .int .i64 0, .slice none 0 0] 24)) = w1 at *
  refine (unhide A1 _).mono ?_
  rintro e w2 ⟨rfl, g2⟩
  have F2 := hide ((unhide F0).kp (Kp.of g2))
  clear F0 g2 A1
  obtain ⟨y0, y1, y2⟩ := (unhide F2).cells (b := w.heap.size + 1) (x0 := .int .i64 m) (x1 := .int .i64 m) (x2 := .slice a2 l2 p2) (by simp)
  go_wp2_with fail
  refine (unhide A2 _).mono ?_
  rintro e w3 ⟨rfl, g3⟩
  have F3 := hide ((unhide F2).kp (Kp.of g3))
  clear F2 g3 A2 y0 y1 y2
  obtain ⟨x0, x1, x2⟩ := (unhide F3).cells (b := w.heap.size) (x0 := .int .i64 r) (x1 := .int .i64 m) (x2 := .slice a1 l1 p1) (by simp)
  obtain ⟨y0, y1, y2⟩ := (unhide F3).cells (b := w.heap.size + 1) (x0 := .int .i64 m) (x1 := .int .i64 m) (x2 := .slice a2 l2 p2) (by simp)
  go_wp2_with fail
  obtain ⟨b1, o1, e1, zc⟩ := ((unhide F3).at (ao := a1) (len := l1) (Z := A) (by simp)).1.some (by have := mul12n r m (unhide HH).2.1 (unhide HH).2.2.1; have := (unhide HH).2.2.2.1; omega)
  have TU := refTurn_ok r m l1 p1 b1 o1 A (unhide HH).2.1 (unhide HH).2.2.1 (unhide HH).2.2.2.1 w3 zc
  rw [← e1] at TU
  refine TU.mono ?_
  clear TU zc e1
  intro e v1 hm1
  obtain ⟨s1, t1, rfl, hc1, T⟩ := (unhide F3).toldK hm1
  have F4 := hide (T.box #[.int .i64 m, .int .i64 r, .slice s1 (m * r) t1])
  clear hm1 T F3 x0 x1 x2 y0 y1 y2
  obtain ⟨x0, x1, x2⟩ := (unhide F4).cells (b := w.heap.size) (x0 := .int .i64 r) (x1 := .int .i64 m) (x2 := .slice a1 l1 p1) (by simp)
  obtain ⟨y0, y1, y2⟩ := (unhide F4).cells (b := w.heap.size + 1) (x0 := .int .i64 m) (x1 := .int .i64 m) (x2 := .slice a2 l2 p2) (by simp)
  go_wp2_with fail
  refine (refMulAny R c0 n0 (by have := (unhide HH).1; omega) r m m m a1 a2 l1 p1 l2 p2 A B (unhide HH).2.2.2.2.2 (unhide HA).1 (unhide HA).2 _ (unhide F4).2.2.1 ((unhide F4).at (ao := a1) (len := l1) (Z := A) (by simp)).1 ((unhide F4).at (ao := a1) (len := l1) (Z := A) (by simp)).2 ((unhide F4).at (ao := a2) (len := l2) (Z := B) (by simp)).1 ((unhide F4).at (ao := a2) (len := l2) (Z := B) (by simp)).2 _ (mulO_of (by have hh := unhide HH; exact ⟨by omega, by omega, by rw [hh.2.2.2.1, Int.natCast_mul]⟩) (by have hh := unhide HH; exact ⟨by omega, by omega, by rw [hh.2.2.2.2.1, Int.natCast_mul]⟩) rfl)).mono ?_
  intro e v2 hm2
  obtain ⟨s2, t2, rfl, hc2, T⟩ := (unhide F4).told (r := r) (c := m) (len := r * m) (Z := (mulZ A B m m)) (err := 0) (cut' := c0 || orC (mulG A B m m) (r * m)) (n' := n0 + 2 * m * ((r * m : Nat) : Int)) hm2
  have F5 := hide (T.box #[.int .i64 r, .int .i64 m, .slice s2 (r * m) t2])
  clear hm2 T F4 x0 x1 x2 y0 y1 y2
  obtain ⟨x0, x1, x2⟩ := (unhide F5).cells (b := v2.heap.size) (x0 := .int .i64 r) (x1 := .int .i64 m) (x2 := .slice s2 (r * m) t2) (by simp)
  obtain ⟨y0, y1, y2⟩ := (unhide F5).cells (b := v1.heap.size) (x0 := .int .i64 m) (x1 := .int .i64 r) (x2 := .slice s1 (m * r) t1) (by simp)
  go_wp2_with fail
  refine (refMulAny R (c0 || orC (mulG A B m m) (r * m)) (n0 + 2 * m * ((r * m : Nat) : Int)) (by have := (unhide HH).1; have := unhide B1; omega) r m m r s2 s1 (r * m) t2 (m * r) t1 (mulZ A B m m) (turnZ A r m) hc2 (fun j _ => mulZ_I64 _ _ _ _ _) (fun j hj => turn_I64 A r m (fun i hi => (unhide HA).1 i (by rw [(unhide HH).2.2.2.1]; exact hi)) j hj) _ (unhide F5).2.2.1 ((unhide F5).at (ao := s2) (len := r * m) (Z := (mulZ A B m m)) (by simp)).1 ((unhide F5).at (ao := s2) (len := r * m) (Z := (mulZ A B m m)) (by simp)).2 ((unhide F5).at (ao := s1) (len := m * r) (Z := (turnZ A r m)) (by simp)).1 ((unhide F5).at (ao := s1) (len := m * r) (Z := (turnZ A r m)) (by simp)).2 _ (mulO_of (by have hh := unhide HH; exact ⟨by omega, by omega, by rw [Int.natCast_mul]⟩) (by have hh := unhide HH; exact ⟨by omega, by omega, by rw [Int.natCast_mul]⟩) rfl)).mono ?_
  intro e v3 hm3
  obtain ⟨s4, t4, rfl, hc4, T⟩ := (unhide F5).told (r := r) (c := r) (len := r * r) (Z := (mulZ (mulZ A B m m) (turnZ A r m) m r)) (err := 0) (cut' := c0 || orC (mulG A B m m) (r * m) || orC (mulG (mulZ A B m m) (turnZ A r m) m r) (r * r)) (n' := n0 + 2 * m * ((r * m : Nat) : Int) + 2 * m * ((r * r : Nat) : Int)) hm3
  have F6 := hide (T.box #[.int .i64 r, .int .i64 r, .slice s4 (r * r) t4])
  clear hm3 T F5 x0 x1 x2 y0 y1 y2
  obtain ⟨x0, x1, x2⟩ := (unhide F6).cells (b := v3.heap.size) (x0 := .int .i64 r) (x1 := .int .i64 r) (x2 := .slice s4 (r * r) t4) (by simp)
  obtain ⟨k0, k1, k2⟩ := (unhide F6).cells (b := w.heap.size + 1 + 1) (x0 := .int .i64 0) (x1 := .int .i64 0) (x2 := .slice none 0 0) (by simp)
  go_wp2_with fail
  obtain ⟨b4, o4, e4, zc⟩ := ((unhide F6).at (ao := s4) (len := r * r) (Z := (mulZ (mulZ A B m m) (turnZ A r m) m r)) (by simp)).1.some (mul12n r r (unhide HH).2.1 (unhide HH).2.1).1
  have off4 := ((unhide F6).at (ao := s4) (len := r * r) (Z := (mulZ (mulZ A B m m) (turnZ A r m) m r)) (by simp)).2
  have EV := refEven_ok R (c0 || orC (mulG A B m m) (r * m) || orC (mulG (mulZ A B m m) (turnZ A r m) m r) (r * r)) (n0 + 2 * m * ((r * m : Nat) : Int) + 2 * m * ((r * r : Nat) : Int)) (by have := (unhide HH).1; have := unhide B1; have := unhide B2; omega) r (r * r) t4 b4 o4 (mulZ (mulZ A B m m) (turnZ A r m) m r) (unhide HH).2.1 rfl (fun j _ => mulZ_I64 _ _ _ _ _) _ (unhide F6).2.2.1 zc (by rw [e4] at off4; exact off_at off4 (mul12n r r (unhide HH).2.1 (unhide HH).2.1).1)
  rw [← e4] at EV
  refine EV.mono ?_
  clear EV zc e4 off4
  rintro e v5 ⟨s5, t5, rfl, hc5, row5, off5, ⟨k, h1, h2, hu⟩, mk5⟩
  have F7 := hide ((unhide F6).mk mk5 hu)
  have b2 := ((unhide F7).1 (w.heap.size + 1 + 1, #[.int .i64 0, .int .i64 0, .slice none 0 0]) (by simp)).1
  have lz := Blk.lt ((unhide F6).1 (w.heap.size + 1 + 1, #[.int .i64 0, .int .i64 0, .slice none 0 0]) (by simp)).1
  have e0 : v5.cell? ⟨w.heap.size + 1 + 1, 0, none⟩ = some (.int .i64 0) := Blk.cell b2 0
  have e1 : v5.cell? ⟨w.heap.size + 1 + 1, 1, none⟩ = some (.int .i64 0) := Blk.cell b2 1
  have e2 : v5.cell? ⟨w.heap.size + 1 + 1, 2, none⟩ = some (.slice none 0 0) := Blk.cell b2 2
  have f := Blk.free b2
  have R6 := hide (And.intro b2 (And.intro hc5 (And.intro row5 (And.intro off5 (And.intro h1 (And.intro h2 (And.intro hu lz)))))))
  have W6 := hide (unhide F6).2.2.2.1.2.2.2
  clear b2 hc5 row5 off5 h1 h2 hu mk5 F6 lz x0 x1 x2 k0 k1 k2
  generalize hrr : r * r = rr at *
  go_wp2
  obtain ⟨b2, hc5, row5, off5, h1, h2, hu, lz⟩ := unhide R6
  have P := putM b2 (.int .i64 r) (.int .i64 r) (.slice s5 rr t5)
  generalize (((v5.setCell ⟨w.heap.size + 1 + 1, 0, none⟩ (.int .i64 r)).setCell ⟨w.heap.size + 1 + 1, 1, none⟩ (.int .i64 r)).setCell ⟨w.heap.size + 1 + 1, 2, none⟩ (.slice s5 rr t5)) = wE at *
  have c0' : wE.cell? ⟨w.heap.size + 1 + 1, 0, none⟩ = some (.int .i64 r) := Blk.cell P.1 0
  have c1' : wE.cell? ⟨w.heap.size + 1 + 1, 1, none⟩ = some (.int .i64 r) := Blk.cell P.1 1
  have c2' : wE.cell? ⟨w.heap.size + 1 + 1, 2, none⟩ = some (.slice s5 rr t5) := Blk.cell P.1 2
  refine bodyPost_ret (v := .tuple #[.agg #[.int .i64 r, .int .i64 r, .slice s5 rr t5], .int .i64 0]) (by simp [results, Tryz.results14, go_sem, c0', c1', c2']) rfl ?_
  subst hrr
  have f7 := (unhide F7).2.2.2
  have w6 := unhide W6
  have q1 := unhide B1
  have q2 := unhide B2
  exact (show DocP _ _ _ _ _ _ _ _ _ from ⟨_, _, rfl, hc5, row5.mod P.2 (off5 _ lz), fun U hU => off5 U (by omega), ⟨k, by omega, by omega, Blk.keep hu P.2 (by omega)⟩, f7.1.new P.2 (by omega)⟩)


end Go.Proofs.YtgahdjfkmpadoaaGreat

/- The document's sym: Is, and Sandwich where it is refused. -/
namespace Go.Proofs.YtgahdjfkmpadoaaGreat
open Go.RowKit Go.Shelf Go.Proofs.Wd
set_option linter.unusedVariables false
set_option linter.unusedSimpArgs false
set_option maxRecDepth 10000

/-- All pairs below the diagonal ahead of the k-th of row i are the same. -/
def IsI (w : World) (box : Array Value) (A : Nat → Int) (n i k : Nat) (wr : World) : Prop :=
  Blk w.heap.size box 24 wr ∧ Grown w wr ∧ ∀ a c, c < a → a < n → (a < i ∨ (a = i ∧ c < k)) → A (a * n + c) = A (c * n + a)


set_option maxRecDepth 20000 in
set_option maxHeartbeats 8000000 in
theorem refIs_ok (n len cap b o : Nat) (A : Nat → Int) (hn : 1 ≤ n ∧ n ≤ 12) (hl : len = n * n) (w : World) (za : ∀ i, i < len → w.cell? ⟨b, o + i, none⟩ = some (.int .i64 (A i))) :
    Calls Tryz.prog 21 #[.agg #[.int .i64 n, .int .i64 n, .slice (some ⟨b, o, none⟩) len cap]] w fun e w' => e = .returned (.bool (isB n n len A)) ∧ Grown w w' := by
  have hlen : 1 ≤ len ∧ len ≤ 144 := by have := mul12n n n hn hn; omega
  have okn : okM n n len := ⟨by omega, by omega, by rw [hl, Int.natCast_mul]⟩
  have AL := hide (fun w => refSqM_ok n n (some ⟨b, o, none⟩) len cap ⟨okn, rfl⟩ w)
  have EB : Hid ((∀ a c, c < a → a < n → A (a * n + c) = A (c * n + a)) → isB n n len A = true) := fun h => isB_yes okn h
  have EN : Hid (∀ a c, c < a → a < n → A (a * n + c) ≠ A (c * n + a) → isB n n len A = false) := fun a c h1 h2 h3 => isB_not h1 h2 h3
  have HH := hide (And.intro hn (And.intro hl hlen))
  have HZ := hide za
  have S0 : Hid (Grown w (w.alloc (.cells #[.int .i64 n, .int .i64 n, .slice (some ⟨b, o, none⟩) len cap] 24)) ∧ Blk w.heap.size #[.int .i64 n, .int .i64 n, .slice (some ⟨b, o, none⟩) len cap] 24 (w.alloc (.cells #[.int .i64 n, .int .i64 n, .slice (some ⟨b, o, none⟩) len cap] 24))) := ⟨(Grown.refl _).alloc _ _, Blk.new w _ _⟩
  generalize isB n n len A = D at *
  clear hn hl hlen okn za
  go_enter Tryz.func21, Tryz.ntmps21
  go_wp2_with fail
  generalize w.alloc (.cells #[.int .i64 n, .int .i64 n, .slice (some ⟨b, o, none⟩) len cap] 24) = w1 at *
  refine (unhide AL _).mono ?_
  rintro e w2 ⟨rfl, g2⟩
  have ST : Hid (IsI w #[.int .i64 n, .int .i64 n, .slice (some ⟨b, o, none⟩) len cap] A n 0 0 w2) := ⟨Blk.grown (unhide S0).2 g2, gtrans (unhide S0).1 g2, fun a c h1 h2 h3 => by omega⟩
  clear S0 AL g2
  go_wp2_with fail
  go_loopw [3] (fun t wr => ∃ i : Nat, i ≤ n ∧ t = .int .i64 i ∧ Hid (IsI w #[.int .i64 n, .int .i64 n, .slice (some ⟨b, o, none⟩) len cap] A n i 0 wr)) (fun t _ => n - (intOf t).toNat)
  case atStart => exact ⟨0, Nat.zero_le _, rfl, unhide ST⟩
  case round =>
    obtain ⟨i, hin, rfl, HI⟩ := hrel
    clear ST
    have y0 : wr.cell? ⟨w.heap.size, 0, none⟩ = some (.int .i64 n) := Blk.cell (unhide HI).1 0
    by_cases hlt : i < n
    · have hi6 : i ≤ 1000000 := Nat.le_trans hin (Nat.le_trans (unhide HH).1.2 (by omega))
      have B4 : Hid (i + 1 ≤ n) := hlt
      clear hin
      go_wp2_with fail
      clear y0
      go_loopw [4] (fun t wr => ∃ k : Nat, k ≤ i ∧ t = .int .i64 k ∧ Hid (IsI w #[.int .i64 n, .int .i64 n, .slice (some ⟨b, o, none⟩) len cap] A n i k wr)) (fun t _ => i - (intOf t).toNat)
      case atStart => exact ⟨0, Nat.zero_le _, rfl, unhide HI⟩
      case round =>
        obtain ⟨k, hki, rfl, HI2⟩ := hrel
        clear HI
        have HI := hide (unhide HI2)
        clear HI2
        by_cases hk : k < i
        · have y1 : wr.cell? ⟨w.heap.size, 1, none⟩ = some (.int .i64 n) := Blk.cell (unhide HI).1 1
          have y2 : wr.cell? ⟨w.heap.size, 2, none⟩ = some (.slice (some ⟨b, o, none⟩) len cap) := Blk.cell (unhide HI).1 2
          have hkn : k < n := by omega
          obtain ⟨mi, hmi⟩ : ∃ m, i * n = m := ⟨_, rfl⟩
          obtain ⟨p, hp⟩ : ∃ p, mi + k = p := ⟨_, rfl⟩
          obtain ⟨mk, hmk⟩ : ∃ m, k * n = m := ⟨_, rfl⟩
          obtain ⟨q, hq⟩ : ∃ q, mk + i = q := ⟨_, rfl⟩
          have hpl : p < len := by
            have h1 := place_in i k n n hlt hkn
            rw [← (unhide HH).2.1, hmi, hp] at h1
            exact h1
          have hql : q < len := by
            have h1 := place_in k i n n hkn hlt
            rw [← (unhide HH).2.1, hmk, hq] at h1
            exact h1
          obtain ⟨x, ex⟩ : ∃ x, A p = x := ⟨_, rfl⟩
          obtain ⟨y, ey⟩ : ∃ y, A q = y := ⟨_, rfl⟩
          have c1 : wr.cell? ⟨b, o + p, none⟩ = some (.int .i64 x) := by rw [← ex]; exact gat (unhide HI).2.1 (unhide HZ p hpl)
          have c2 : wr.cell? ⟨b, o + q, none⟩ = some (.int .i64 y) := by rw [← ey]; exact gat (unhide HI).2.1 (unhide HZ q hql)
          have XY : Hid (A (i * n + k) = x ∧ A (k * n + i) = y) := ⟨by rw [hmi, hp, ex], by rw [hmk, hq, ey]⟩
          have len6 : len ≤ 144 := (unhide HH).2.2.2
          have k6 : k ≤ 1000000 := by omega
          have j0 : (0 : Int) ≤ (p : Int) := by omega
          have j1 : (p : Int) < (len : Int) := by omega
          have j2 : (0 : Int) ≤ (q : Int) := by omega
          have j3 : (q : Int) < (len : Int) := by omega
          have C4 : Hid (k + 1 ≤ i) := hk
          have mi6 : mi ≤ 1000000 := by omega
          have mk6 : mk ≤ 1000000 := by omega
          have p6 : p ≤ 1000000 := by omega
          have q6 : q ≤ 1000000 := by omega
          have wa : IntKind.i64.wrap ((i : Int) * (n : Int)) = (mi : Int) := wrapPi i n mi hmi mi6
          have wb : IntKind.i64.wrap ((mi : Int) + (k : Int)) = (p : Int) := wrapAi mi k p hp p6
          have wc : IntKind.i64.wrap ((k : Int) * (n : Int)) = (mk : Int) := wrapPi k n mk hmk mk6
          have wd : IntKind.i64.wrap ((mk : Int) + (i : Int)) = (q : Int) := wrapAi mk i q hq q6
          clear hmi hp hmk hq hpl hql ex ey hki len6 mi6 mk6 p6 q6
          go_wp2
          go_quiet (fail)
          clear wa wb wc wd
          by_cases hxy : x = y
          · have HP : Hid (IsI w #[.int .i64 n, .int .i64 n, .slice (some ⟨b, o, none⟩) len cap] A n i (k + 1) wr) := by
              refine ⟨(unhide HI).1, (unhide HI).2.1, fun a c h1 h2 h3 => ?_⟩
              by_cases hac : a = i ∧ c = k
              · obtain ⟨rfl, rfl⟩ := hac
                rw [(unhide XY).1, (unhide XY).2, hxy]
              · exact (unhide HI).2.2 a c h1 h2 (by omega)
            have nb : (x != y) = false := by simpa using hxy
            clear XY hxy
            go_wp2
            go_roundw
            case rel => exact ⟨k + 1, unhide C4, by go_num, HP⟩
            case measure => have := unhide C4; simp [intOf]; omega
          · have hD : D = false := unhide EN i k (unhide C4) (unhide B4) (by rw [(unhide XY).1, (unhide XY).2]; exact hxy)
            have nb : (x != y) = true := by simpa using hxy
            have GW : Hid (Grown w wr) := (unhide HI).2.1
            subst hD
            clear XY hxy HI
            go_wp2
            go_ret
            exact ⟨rfl, unhide GW⟩
        · obtain rfl : k = i := by omega
          have HP : Hid (IsI w #[.int .i64 n, .int .i64 n, .slice (some ⟨b, o, none⟩) len cap] A n (k + 1) 0 wr) := ⟨(unhide HI).1, (unhide HI).2.1, fun a c h1 h2 h3 => (unhide HI).2.2 a c h1 h2 (by omega)⟩
          clear HI
          go_wp2
          go_roundw
          case rel => exact ⟨k + 1, unhide B4, by go_num, HP⟩
          case measure => have := unhide B4; simp [intOf]; omega
    · obtain rfl : i = n := by omega
      have hD : D = true := unhide EB (fun a c h1 h2 => (unhide HI).2.2 a c h1 h2 (Or.inl h2))
      have GW : Hid (Grown w wr) := (unhide HI).2.1
      subst hD
      clear HI
      go_wp2
      go_ret
      exact ⟨rfl, unhide GW⟩

set_option maxHeartbeats 2000000 in
theorem refIs_bad (R1 C1 : Int) (a1 : Option Addr) (l1 p1 : Nat) (A : Nat → Int) (hb : ¬ (okM R1 C1 l1 ∧ R1 = C1)) (w : World) :
    Calls Tryz.prog 21 #[.agg #[.int .i64 R1, .int .i64 C1, .slice a1 l1 p1]] w fun e w' => e = .returned (.bool (isB R1 C1 l1 A)) ∧ Grown w w' := by
  have AL := hide (fun w => refSqM_bad R1 C1 a1 l1 p1 hb w)
  rw [isB_no hb]
  have S0 : Hid (Grown w (w.alloc (.cells #[.int .i64 R1, .int .i64 C1, .slice a1 l1 p1] 24))) := (Grown.refl _).alloc _ _
  clear hb
  go_enter Tryz.func21, Tryz.ntmps21
  go_wp2_with fail
  generalize w.alloc (.cells #[.int .i64 R1, .int .i64 C1, .slice a1 l1 p1] 24) = w1 at *
  refine (unhide AL _).mono ?_
  rintro e w2 ⟨rfl, g2⟩
  have GG := hide (gtrans (unhide S0) g2)
  clear g2 AL S0
  go_wp2
  go_ret
  exact ⟨rfl, unhide GG⟩


set_option maxHeartbeats 2000000 in
theorem refSandwich_bad (R : Nat) (R1 C1 R2 C2 : Int) (a1 a2 : Option Addr) (l1 p1 l2 p2 : Nat) (Z : Nat → Int) (hb : ¬ (okM R1 C1 l1 ∧ (okM R2 C2 l2 ∧ R2 = C2) ∧ C1 = R2)) (c0 : Bool) (n : Int) (w : World) (h : RC R c0 n w) :
    Calls Tryz.prog 14 #[.pointer (some ⟨R, 0, none⟩), .agg #[.int .i64 R1, .int .i64 C1, .slice a1 l1 p1], .agg #[.int .i64 R2, .int .i64 C2, .slice a2 l2 p2]] w fun e w' => DocP 0 0 0 Z 3 (fun w' => RC R c0 n w' ∧ Mk R w w') w e w' := by
  have A1 := hide (fun w => refMCheck R1 C1 a1 l1 p1 w)
  have lR := Blk.lt h
  obtain ⟨G, s3, x0, x1, x2⟩ := alloc3 w #[.int .i64 R1, .int .i64 C1, .slice a1 l1 p1] 24 #[.int .i64 R2, .int .i64 C2, .slice a2 l2 p2] 24 #[.int .i64 0, .int .i64 0, .slice none 0 0] 24
  have S0 := hide (And.intro G (And.intro x0 (And.intro x1 (And.intro x2 (And.intro h lR)))))
  clear h lR G s3 x0 x1 x2
  by_cases h1 : okM R1 C1 l1
  · rw [chk_ok h1] at A1
    by_cases h2 : okM R2 C2 l2 ∧ R2 = C2
    · have A2 := hide (fun w => refSqM_ok R2 C2 a2 l2 p2 h2 w)
      have h3 : ¬ C1 = R2 := fun e => hb ⟨h1, h2, e⟩
      have b3 : (C1 != R2) = true := by simpa using h3
      clear h1 h2 hb h3
      go_enter Tryz.func14, Tryz.ntmps14
      go_wp2_with fail
      generalize (((w.alloc (.cells #[.int .i64 R1, .int .i64 C1, .slice a1 l1 p1] 24)).alloc (.cells #[.int .i64 R2, .int .i64 C2, .slice a2 l2 p2] 24)).alloc (.cells #[.int .i64 0, .int .i64 0, .slice none 0 0] 24)) = w1 at *
      refine (unhide A1 _).mono ?_
      rintro e w2 ⟨rfl, g2⟩
      have S1 := hide g2
      have y2' : w2.cell? ⟨w.heap.size + 1, 0, none⟩ = some (.int .i64 R2) := Blk.cell (Blk.grown (unhide S0).2.2.1 g2) 0
      have y3' : w2.cell? ⟨w.heap.size + 1, 1, none⟩ = some (.int .i64 C2) := Blk.cell (Blk.grown (unhide S0).2.2.1 g2) 1
      have y4' : w2.cell? ⟨w.heap.size + 1, 2, none⟩ = some (.slice a2 l2 p2) := Blk.cell (Blk.grown (unhide S0).2.2.1 g2) 2
      clear g2
      go_wp2_with fail
      refine (unhide A2 _).mono ?_
      rintro e w3 ⟨rfl, g3⟩
      have S2 := hide (gtrans (unhide S1) g3)
      clear g3
      have e1' : w3.cell? ⟨w.heap.size, 1, none⟩ = some (.int .i64 C1) := Blk.cell (Blk.grown (unhide S0).2.1 (unhide S2)) 1
      have f0' : w3.cell? ⟨w.heap.size + 1, 0, none⟩ = some (.int .i64 R2) := Blk.cell (Blk.grown (unhide S0).2.2.1 (unhide S2)) 0
      have b2 := Blk.grown (unhide S0).2.2.2.1 (unhide S2)
      have e0 : w3.cell? ⟨w.heap.size + 1 + 1, 0, none⟩ = some (.int .i64 0) := Blk.cell b2 0
      have e1 : w3.cell? ⟨w.heap.size + 1 + 1, 1, none⟩ = some (.int .i64 0) := Blk.cell b2 1
      have e2 : w3.cell? ⟨w.heap.size + 1 + 1, 2, none⟩ = some (.slice none 0 0) := Blk.cell b2 2
      have f := Blk.free b2
      have R6 := hide b2
      clear b2
      go_wp2
      have b2 := unhide R6
      have P := putM b2 (.int .i64 0) (.int .i64 0) (.slice none 0 0)
      generalize (((w3.setCell ⟨w.heap.size + 1 + 1, 0, none⟩ (.int .i64 0)).setCell ⟨w.heap.size + 1 + 1, 1, none⟩ (.int .i64 0)).setCell ⟨w.heap.size + 1 + 1, 2, none⟩ (.slice none 0 0)) = wE at *
      have c0 : wE.cell? ⟨w.heap.size + 1 + 1, 0, none⟩ = some (.int .i64 0) := Blk.cell P.1 0
      have c1 : wE.cell? ⟨w.heap.size + 1 + 1, 1, none⟩ = some (.int .i64 0) := Blk.cell P.1 1
      have c2 : wE.cell? ⟨w.heap.size + 1 + 1, 2, none⟩ = some (.slice none 0 0) := Blk.cell P.1 2
      refine bodyPost_ret (v := .tuple #[.agg #[.int .i64 0, .int .i64 0, .slice none 0 0], .int .i64 3]) (by simp [results, Tryz.results14, go_sem, c0, c1, c2]) rfl ?_
      obtain ⟨G, _, _, _, h, lR⟩ := unhide S0
      have gg := gtrans G (unhide S2)
      exact (show DocP _ _ _ _ _ _ _ _ _ from ⟨_, _, rfl, Nat.le_refl _, Or.inl rfl, fun U hU hl => absurd hl (Nat.lt_irrefl _), Blk.keep (Blk.grown h gg) P.2 (by omega), (Mk.of (Mod.of gg)).new P.2 (by omega)⟩)
    · have A2 := hide (fun w => refSqM_bad R2 C2 a2 l2 p2 h2 w)
      clear h1 h2 hb
      go_enter Tryz.func14, Tryz.ntmps14
      go_wp2_with fail
      generalize (((w.alloc (.cells #[.int .i64 R1, .int .i64 C1, .slice a1 l1 p1] 24)).alloc (.cells #[.int .i64 R2, .int .i64 C2, .slice a2 l2 p2] 24)).alloc (.cells #[.int .i64 0, .int .i64 0, .slice none 0 0] 24)) = w1 at *
      refine (unhide A1 _).mono ?_
      rintro e w2 ⟨rfl, g2⟩
      have S1 := hide g2
      have y2' : w2.cell? ⟨w.heap.size + 1, 0, none⟩ = some (.int .i64 R2) := Blk.cell (Blk.grown (unhide S0).2.2.1 g2) 0
      have y3' : w2.cell? ⟨w.heap.size + 1, 1, none⟩ = some (.int .i64 C2) := Blk.cell (Blk.grown (unhide S0).2.2.1 g2) 1
      have y4' : w2.cell? ⟨w.heap.size + 1, 2, none⟩ = some (.slice a2 l2 p2) := Blk.cell (Blk.grown (unhide S0).2.2.1 g2) 2
      clear g2
      go_wp2_with fail
      refine (unhide A2 _).mono ?_
      rintro e w3 ⟨rfl, g3⟩
      have S2 := hide (gtrans (unhide S1) g3)
      clear g3
      have b2 := Blk.grown (unhide S0).2.2.2.1 (unhide S2)
      have e0 : w3.cell? ⟨w.heap.size + 1 + 1, 0, none⟩ = some (.int .i64 0) := Blk.cell b2 0
      have e1 : w3.cell? ⟨w.heap.size + 1 + 1, 1, none⟩ = some (.int .i64 0) := Blk.cell b2 1
      have e2 : w3.cell? ⟨w.heap.size + 1 + 1, 2, none⟩ = some (.slice none 0 0) := Blk.cell b2 2
      have f := Blk.free b2
      have R6 := hide b2
      clear b2
      go_wp2
      have b2 := unhide R6
      have P := putM b2 (.int .i64 0) (.int .i64 0) (.slice none 0 0)
      generalize (((w3.setCell ⟨w.heap.size + 1 + 1, 0, none⟩ (.int .i64 0)).setCell ⟨w.heap.size + 1 + 1, 1, none⟩ (.int .i64 0)).setCell ⟨w.heap.size + 1 + 1, 2, none⟩ (.slice none 0 0)) = wE at *
      have c0 : wE.cell? ⟨w.heap.size + 1 + 1, 0, none⟩ = some (.int .i64 0) := Blk.cell P.1 0
      have c1 : wE.cell? ⟨w.heap.size + 1 + 1, 1, none⟩ = some (.int .i64 0) := Blk.cell P.1 1
      have c2 : wE.cell? ⟨w.heap.size + 1 + 1, 2, none⟩ = some (.slice none 0 0) := Blk.cell P.1 2
      refine bodyPost_ret (v := .tuple #[.agg #[.int .i64 0, .int .i64 0, .slice none 0 0], .int .i64 3]) (by simp [results, Tryz.results14, go_sem, c0, c1, c2]) rfl ?_
      obtain ⟨G, _, _, _, h, lR⟩ := unhide S0
      have gg := gtrans G (unhide S2)
      exact (show DocP _ _ _ _ _ _ _ _ _ from ⟨_, _, rfl, Nat.le_refl _, Or.inl rfl, fun U hU hl => absurd hl (Nat.lt_irrefl _), Blk.keep (Blk.grown h gg) P.2 (by omega), (Mk.of (Mod.of gg)).new P.2 (by omega)⟩)
  · rw [chk_bad h1] at A1
    clear h1 hb
    go_enter Tryz.func14, Tryz.ntmps14
    go_wp2_with fail
    generalize (((w.alloc (.cells #[.int .i64 R1, .int .i64 C1, .slice a1 l1 p1] 24)).alloc (.cells #[.int .i64 R2, .int .i64 C2, .slice a2 l2 p2] 24)).alloc (.cells #[.int .i64 0, .int .i64 0, .slice none 0 0] 24)) = w1 at *
    refine (unhide A1 _).mono ?_
    rintro e w2 ⟨rfl, g2⟩
    have S1 := hide g2
    clear g2
    have b2 := Blk.grown (unhide S0).2.2.2.1 (unhide S1)
    have e0 : w2.cell? ⟨w.heap.size + 1 + 1, 0, none⟩ = some (.int .i64 0) := Blk.cell b2 0
    have e1 : w2.cell? ⟨w.heap.size + 1 + 1, 1, none⟩ = some (.int .i64 0) := Blk.cell b2 1
    have e2 : w2.cell? ⟨w.heap.size + 1 + 1, 2, none⟩ = some (.slice none 0 0) := Blk.cell b2 2
    have f := Blk.free b2
    have R6 := hide b2
    clear b2
    go_wp2
    have b2 := unhide R6
    have P := putM b2 (.int .i64 0) (.int .i64 0) (.slice none 0 0)
    generalize (((w2.setCell ⟨w.heap.size + 1 + 1, 0, none⟩ (.int .i64 0)).setCell ⟨w.heap.size + 1 + 1, 1, none⟩ (.int .i64 0)).setCell ⟨w.heap.size + 1 + 1, 2, none⟩ (.slice none 0 0)) = wE at *
    have c0 : wE.cell? ⟨w.heap.size + 1 + 1, 0, none⟩ = some (.int .i64 0) := Blk.cell P.1 0
    have c1 : wE.cell? ⟨w.heap.size + 1 + 1, 1, none⟩ = some (.int .i64 0) := Blk.cell P.1 1
    have c2 : wE.cell? ⟨w.heap.size + 1 + 1, 2, none⟩ = some (.slice none 0 0) := Blk.cell P.1 2
    refine bodyPost_ret (v := .tuple #[.agg #[.int .i64 0, .int .i64 0, .slice none 0 0], .int .i64 3]) (by simp [results, Tryz.results14, go_sem, c0, c1, c2]) rfl ?_
    obtain ⟨G, _, _, _, h, lR⟩ := unhide S0
    have gg := gtrans G (unhide S1)
    exact (show DocP _ _ _ _ _ _ _ _ _ from ⟨_, _, rfl, Nat.le_refl _, Or.inl rfl, fun U hU hl => absurd hl (Nat.lt_irrefl _), Blk.keep (Blk.grown h gg) P.2 (by omega), (Mk.of (Mod.of gg)).new P.2 (by omega)⟩)


end Go.Proofs.YtgahdjfkmpadoaaGreat

/- The laws' kit: Pick. -/
namespace Go.Proofs.YtgahdjfkmpadoaaGreat
open Go.RowKit Go.Proofs.Wd
set_option linter.unusedVariables false
set_option linter.unusedSimpArgs false
set_option maxRecDepth 10000

theorem tmod_of (x n : Int) (hn : 0 < n) : (0 ≤ x.tmod n → x.tmod n = x % n) ∧ (x.tmod n < 0 → x.tmod n + n = x % n) ∧ -n < x.tmod n ∧ x.tmod n < n := by
  have e := @Int.tmod_eq_emod x n
  have h1 := Int.emod_nonneg x (show n ≠ 0 by omega)
  have h2 := Int.emod_lt_of_pos x hn
  have h3 : (n.natAbs : Int) = n := by omega
  rw [e]
  split <;> omega
theorem wrap_id (y : Int) (h : -9223372036854775808 ≤ y ∧ y ≤ 9223372036854775807) : wrap64 y = y := by
  unfold wrap64
  omega

end Go.Proofs.YtgahdjfkmpadoaaGreat

/- What follows of a symmetric matrix, in whole numbers. -/
namespace Go.Proofs.Wd
set_option linter.unusedVariables false

/-- Half of two fixed numbers: between them, nothing is cut. -/
theorem half_fx (x y : Int) (hx : Fx x) (hy : Fx y) : halfN x y = rdiv (x + y) 2 ∧ halfC x y = false ∧ Fx (halfN x y) ∧ (x ≤ y → x ≤ halfN x y ∧ halfN x y ≤ y) ∧ (y ≤ x → y ≤ halfN x y ∧ halfN x y ≤ x) := by
  have e1 := tk_of x hx
  have e2 := tk_of y hy
  have lo : ∀ z, z ≤ x → z ≤ y → z ≤ rdiv (x + y) 2 := fun z h1 h2 => by
    have := rdiv_mono (z * 2) (x + y) 2 (by omega) (by omega)
    rwa [rdiv_mul z 2 (by omega)] at this
  have hi : ∀ z, x ≤ z → y ≤ z → rdiv (x + y) 2 ≤ z := fun z h1 h2 => by
    have := rdiv_mono (x + y) (z * 2) 2 (by omega) (by omega)
    rwa [rdiv_mul z 2 (by omega)] at this
  have hf : Fx (rdiv (x + y) 2) := by
    unfold Fx at *
    exact ⟨lo _ hx.1 hy.1, hi _ hx.2 hy.2⟩
  have e3 : halfN x y = rdiv (x + y) 2 := by
    unfold halfN
    rw [e1, e2, (fit_inF _ hf).1]
  rw [e3]
  refine ⟨rfl, ?_, hf, fun h => ⟨lo x (by omega) h, hi y h (by omega)⟩, fun h => ⟨lo y h (by omega), hi x (by omega) h⟩⟩
  unfold halfC
  rw [e1, e2, cutB_of _ _ _ hx hy, (fit_inF _ hf).2]
theorem half_self (x : Int) (hx : Fx x) : halfN x x = x := by
  have h := half_fx x x hx hx
  have := h.2.2.2.1 (by omega)
  omega
/-- What stands at a place of a matrix made symmetric. -/
theorem evenZ_at (A : Nat → Int) (n i k : Nat) (hi : i < n) (hk : k < n) : evenZ A n (i * n + k) = if i = k then A (i * n + k) else halfN (A (min i k * n + max i k)) (A (max i k * n + min i k)) := by
  unfold evenZ pairZ2 pairV evF
  rw [place_div i k n hk, place_mod i k n hk]
  by_cases e : i = k
  · subst e
    rw [if_pos rfl, if_neg (by omega)]
  · rw [if_neg e, if_pos (by omega)]
theorem even_between (A : Nat → Int) (n i k : Nat) (hi : i < n) (hk : k < n) (hA : ∀ p, p < n * n → Fx (A p)) :
    min (A (i * n + k)) (A (k * n + i)) ≤ evenZ A n (i * n + k) ∧ evenZ A n (i * n + k) ≤ max (A (i * n + k)) (A (k * n + i)) ∧ Fx (evenZ A n (i * n + k)) := by
  have h1 := hA _ (place_in i k n n hi hk)
  have h2 := hA _ (place_in k i n n hk hi)
  rw [evenZ_at A n i k hi hk]
  by_cases e : i = k
  · subst e
    rw [if_pos rfl]
    exact ⟨by omega, by omega, h1⟩
  · rw [if_neg e]
    rcases Nat.lt_or_ge i k with h | h
    · rw [Nat.min_eq_left (by omega), Nat.max_eq_right (by omega)]
      have q := half_fx _ _ h1 h2
      rcases Int.le_total (A (i * n + k)) (A (k * n + i)) with g | g
      · have := q.2.2.2.1 g
        exact ⟨by omega, by omega, q.2.2.1⟩
      · have := q.2.2.2.2 g
        exact ⟨by omega, by omega, q.2.2.1⟩
    · rw [Nat.min_eq_right (by omega), Nat.max_eq_left (by omega)]
      have q := half_fx _ _ h2 h1
      rcases Int.le_total (A (i * n + k)) (A (k * n + i)) with g | g
      · have := q.2.2.2.2 g
        exact ⟨by omega, by omega, q.2.2.1⟩
      · have := q.2.2.2.1 g
        exact ⟨by omega, by omega, q.2.2.1⟩
theorem even_fx (A : Nat → Int) (n p : Nat) (hp : p < n * n) (hA : ∀ p, p < n * n → Fx (A p)) : Fx (evenZ A n p) := by
  have h := place_lt p n n hp
  have := (even_between A n (p / n) (p % n) h.1 h.2 hA).2.2
  rwa [place_eq] at this
theorem even_cut (A : Nat → Int) (n m : Nat) (hm : m ≤ n * n) (hA : ∀ p, p < n * n → Fx (A p)) : orC (upC (evC A n) 1 n) m = false := by
  refine orC_of _ _ fun p hp => ?_
  have h := place_lt p n n (by omega)
  unfold upC evC
  rw [(half_fx _ _ (hA _ (place_in _ _ _ _ h.1 h.2)) (hA _ (place_in _ _ _ _ h.2 h.1))).2.1, Bool.and_false]
/-- A symmetric one is itself. -/
theorem even_idem (B : Nat → Int) (n p : Nat) (hp : p < n * n) (hB : ∀ p, p < n * n → Fx (B p)) (hs : symP B n) : evenZ B n p = B p := by
  have h := place_lt p n n hp
  have e := evenZ_at B n (p / n) (p % n) h.1 h.2
  rw [place_eq] at e
  rw [e]
  by_cases g : p / n = p % n
  · rw [if_pos g]
  · rw [if_neg g]
    have e1 : ∀ a b, a < n → b < n → halfN (B (a * n + b)) (B (b * n + a)) = B (a * n + b) := fun a b ha hb => by
      rw [hs b a hb ha]
      exact half_self _ (hB _ (place_in _ _ _ _ ha hb))
    have pe := place_eq p n
    rcases Nat.lt_or_ge (p / n) (p % n) with q | q
    · rw [Nat.min_eq_left (by omega), Nat.max_eq_right (by omega), e1 _ _ h.1 h.2, pe]
    · rw [Nat.min_eq_right (by omega), Nat.max_eq_left (by omega), e1 _ _ h.2 h.1, hs _ _ h.2 h.1, pe]
theorem turn_eye (n p : Nat) (hp : p < n * n) : turnZ (diagZ oneZ n) n n p = diagZ oneZ n p := by
  have h := place_lt p n n hp
  unfold turnZ diagZ oneZ
  rw [place_div _ _ _ h.1, place_mod _ _ _ h.1]
  by_cases e : p / n = p % n
  · rw [if_pos e, if_pos e.symm]
  · rw [if_neg e, if_neg (fun q => e q.symm)]
theorem mulZ_congr (A B A' B' : Nat → Int) (r m c p : Nat) (hp : p < r * c) (hA : ∀ i, i < r * m → A i = A' i) (hB : ∀ i, i < m * c → B i = B' i) : mulZ A B m c p = mulZ A' B' m c p ∧ mulG A B m c p = mulG A' B' m c p := by
  have h := place_lt p r c hp
  refine ⟨dotN_congr _ _ _ _ m (fun i hi => hA _ (place_in _ _ _ _ h.1 hi)) (fun i hi => hB _ (place_in _ _ _ _ hi h.2)), dotC_congr _ _ _ _ m (fun i hi => hA _ (place_in _ _ _ _ h.1 hi)) (fun i hi => hB _ (place_in _ _ _ _ hi h.2))⟩
/-- A symmetric one, moved by One from both sides. -/
theorem sand_eye (B : Nat → Int) (n : Nat) (hB : ∀ p, p < n * n → Fx (B p)) (hs : symP B n) :
    (∀ p, p < n * n → evenZ (mulZ (mulZ (diagZ oneZ n) B n n) (turnZ (diagZ oneZ n) n n) n n) n p = B p) ∧ (orC (mulG (diagZ oneZ n) B n n) (n * n) || orC (mulG (mulZ (diagZ oneZ n) B n n) (turnZ (diagZ oneZ n) n n) n n) (n * n) || orC (upC (evC (mulZ (mulZ (diagZ oneZ n) B n n) (turnZ (diagZ oneZ n) n n) n n) n) 1 n) (n * n)) = false := by
  have e1 : ∀ p, p < n * n → mulZ (diagZ oneZ n) B n n p = B p := fun p hp => (eye_left B n n p hB hp).1
  have e2 : ∀ p, p < n * n → mulZ (mulZ (diagZ oneZ n) B n n) (turnZ (diagZ oneZ n) n n) n n p = B p ∧ mulG (mulZ (diagZ oneZ n) B n n) (turnZ (diagZ oneZ n) n n) n n p = false := fun p hp => by
    have q := mulZ_congr (mulZ (diagZ oneZ n) B n n) (turnZ (diagZ oneZ n) n n) B (diagZ oneZ n) n n n p hp e1 (fun i hi => turn_eye n i hi)
    rw [q.1, q.2]
    exact eye_right B n n p hB hp
  have hf : ∀ p, p < n * n → Fx (mulZ (mulZ (diagZ oneZ n) B n n) (turnZ (diagZ oneZ n) n n) n n p) := fun p hp => by rw [(e2 p hp).1]; exact hB p hp
  refine ⟨fun p hp => ?_, ?_⟩
  · rw [even_idem _ n p hp hf ?_, (e2 p hp).1]
    intro i k hi hk
    rw [(e2 _ (place_in _ _ _ _ hi hk)).1, (e2 _ (place_in _ _ _ _ hk hi)).1]
    exact hs i k hi hk
  · rw [orC_of _ _ (fun p hp => (eye_left B n n p hB hp).2), orC_of _ _ (fun p hp => (e2 p hp).2), even_cut _ n _ (Nat.le_refl _) hf]
    rfl
/-- What stands at a place of a matrix that a list changed. -/
theorem rankZ_at (A K : Nat → Int) (s : Int) (n i k : Nat) (hi : i < n) (hk : k < n) : rankZ A K s n (i * n + k) = rkF A K s n (min i k) (max i k) := by
  unfold rankZ pairZ2 pairV
  rw [place_div i k n hk, place_mod i k n hk, if_pos (by omega)]
theorem m2_neg (s t : Int) (hs : Fx s) (ht : Fx t) : m2N (-s) t = -(m2N s t) := by
  have hs' : Fx (-s) := by unfold Fx at *; omega
  unfold m2N
  rw [(mul_one s hs).1, (mul_one (-s) hs').1]
  unfold mulN
  rw [tk_of _ hs, tk_of _ hs', tk_of _ ht, Int.neg_mul, rdiv_neg _ _ (by omega), fitI_neg]
theorem m2N_fx (a b : Int) : Fx (m2N a b) := fit_Fx _
theorem s2_fx (a b : Int) (ha : Fx a) (hb : Fx b) : s2N a b = fitI (a + b) ∧ s2C a b = fitB (a + b) := by
  have e := add_nought a ha
  unfold s2N s2C
  rw [e.1, e.2.1, Bool.false_or]
  unfold addN addC
  rw [tk_of _ ha, tk_of _ hb, cutB_of _ _ _ ha hb]
  exact ⟨rfl, rfl⟩
/-- What a list added it takes away, where nothing is cut. -/
theorem rank_back (A K : Nat → Int) (s : Int) (n : Nat) (hs : Fx s) (hA : ∀ p, p < n * n → Fx (A p)) (hy : symP A n) (hc : orC (upC (rkC A K s n) 0 n) (n * n) = false) (p : Nat) (hp : p < n * n) : rankZ (rankZ A K s n) K (-s) n p = A p := by
  have nc : ∀ a b, a ≤ b → b < n → s2C (A (a * n + b)) (m2N s (m2N (K a) (K b))) = false := fun a b hab hb => by
    have hn : ¬ (orC (upC (rkC A K s n) 0 n) (n * n) = true) := by rw [hc]; decide
    rw [orC_iff] at hn
    by_cases g : s2C (A (a * n + b)) (m2N s (m2N (K a) (K b))) = true
    · exfalso
      refine hn ⟨a * n + b, place_in _ _ _ _ (by omega) hb, ?_⟩
      unfold upC rkC
      rw [place_div _ _ _ hb, place_mod _ _ _ hb, g, decide_eq_true (show a + 0 ≤ b from hab)]
      simp
    · simpa using g
  have key : ∀ a b, a ≤ b → b < n → rkF (rankZ A K s n) K (-s) n a b = A (a * n + b) := fun a b hab hb => by
    have fa := hA _ (place_in a b n n (by omega) hb)
    have n1 := nc a b hab hb
    show s2N (rankZ A K s n (a * n + b)) (m2N (-s) (m2N (K a) (K b))) = _
    rw [rankZ_at A K s n a b (by omega) hb, Nat.min_eq_left hab, Nat.max_eq_right hab, m2_neg s _ hs (m2N_fx _ _)]
    show s2N (s2N (A (a * n + b)) (m2N s (m2N (K a) (K b)))) _ = _
    have fv := m2N_fx s (m2N (K a) (K b))
    generalize m2N s (m2N (K a) (K b)) = v at *
    generalize A (a * n + b) = x at *
    have q := s2_fx x v fa fv
    rw [q.2] at n1
    have q1 := fit_in _ n1
    have fxv : Fx (x + v) := by
      have := fit_Fx (x + v)
      rwa [q1.1] at this
    rw [q.1, q1.1]
    have fn : Fx (-v) := by unfold Fx at *; omega
    rw [(s2_fx (x + v) (-v) fxv fn).1, show x + v + -v = x by omega]
    exact (fit_inF x fa).1
  have h := place_lt p n n hp
  have e := rankZ_at (rankZ A K s n) K (-s) n (p / n) (p % n) h.1 h.2
  rw [place_eq] at e
  rw [e]
  have pe := place_eq p n
  rcases Nat.le_total (p / n) (p % n) with g | g
  · rw [Nat.min_eq_left g, Nat.max_eq_right g, key _ _ g h.2, pe]
  · rw [Nat.min_eq_right g, Nat.max_eq_left g, key _ _ g h.1, hy _ _ h.2 h.1, pe]
theorem rankZ_fx (A K : Nat → Int) (s : Int) (n p : Nat) (hp : p < n * n) : Fx (rankZ A K s n p) := by
  have h := place_lt p n n hp
  have e := rankZ_at A K s n (p / n) (p % n) h.1 h.2
  rw [place_eq] at e
  rw [e]
  exact fit_Fx _
theorem rankZ_I64 (A K : Nat → Int) (s : Int) (n p : Nat) (hp : p < n * n) : I64 (rankZ A K s n p) := Fx_I64 (rankZ_fx A K s n p hp)

end Go.Proofs.Wd

/- The laws' helpers: big, two, is, good, eye. -/
namespace Go.Proofs.YtgahdjfkmpadoaaGreat
open Go.RowKit Go.Shelf Go.Proofs.Wd
set_option linter.unusedVariables false
set_option linter.unusedSimpArgs false
set_option maxRecDepth 10000

set_option maxHeartbeats 1000000 in
theorem lawBig (R1 C1 : Int) (a1 : Option Addr) (l1 p1 : Nat) (w : World) : Calls Tryz.prog 6 #[.agg #[.int .i64 R1, .int .i64 C1, .slice a1 l1 p1]] w fun e w' => e = .returned (.bool (decide (200 < l1))) ∧ Grown w w' := by
  by_cases h : 200 < l1
  · have hd : decide ((200 : Int) < (l1 : Int)) = true := decide_eq_true (by omega)
    rw [decide_eq_true h]
    clear h
    go_enter Tryz.func6, Tryz.ntmps6
    go_wp2
    go_ret
    exact ⟨by simp [hd], (Grown.refl _).alloc _ _⟩
  · have hd : decide ((200 : Int) < (l1 : Int)) = false := decide_eq_false (by omega)
    rw [decide_eq_false h]
    clear h
    go_enter Tryz.func6, Tryz.ntmps6
    go_wp2
    go_ret
    exact ⟨by simp [hd], (Grown.refl _).alloc _ _⟩
set_option maxHeartbeats 1000000 in
theorem lawTwo (ao : Option Addr) (n cap : Nat) (w : World) : Calls Tryz.prog 24 #[.slice ao n cap] w fun e w' => e = .returned (.agg #[.int .i64 2, .int .i64 2, .slice ao n cap]) ∧ Grown w w' := by
  have G : Grown w (w.alloc (.cells #[.int .i64 0, .int .i64 0, .slice none 0 0] 24)) := (Grown.refl _).alloc _ _
  have bz := Blk.new w #[.int .i64 0, .int .i64 0, .slice none 0 0] 24
  go_enter Tryz.func24, Tryz.ntmps24
  go_wp2
  have b2 := Blk.new w #[.int .i64 2, .int .i64 2, .slice ao n cap] 24
  have g2 : Grown w (w.alloc (.cells #[.int .i64 2, .int .i64 2, .slice ao n cap] 24)) := (Grown.refl _).alloc _ _
  generalize w.alloc (.cells #[.int .i64 2, .int .i64 2, .slice ao n cap] 24) = wE at *
  have c0 : wE.cell? ⟨w.heap.size, 0, none⟩ = some (.int .i64 2) := Blk.cell b2 0
  have c1 : wE.cell? ⟨w.heap.size, 1, none⟩ = some (.int .i64 2) := Blk.cell b2 1
  have c2 : wE.cell? ⟨w.heap.size, 2, none⟩ = some (.slice ao n cap) := Blk.cell b2 2
  exact bodyPost_ret (v := .agg #[.int .i64 2, .int .i64 2, .slice ao n cap]) (by simp [results, Tryz.results24, go_sem, c0, c1, c2]) rfl ⟨rfl, g2⟩
set_option maxHeartbeats 2000000 in
theorem lawIs (r c : Int) (ao bo : Option Addr) (len c1 c2 : Nat) (X : Nat → Int) (hl : len ≤ 1000000) (w : World) (hr : Row w ao len X) (ht : Row w bo len X) :
    Calls Tryz.prog 25 #[.agg #[.int .i64 r, .int .i64 c, .slice ao len c1], .int .i64 0, .agg #[.int .i64 r, .int .i64 c, .slice bo len c2]] w fun e w' => e = .returned (.bool true) ∧ Kp w w' := by
  have G : Grown w ((w.alloc (.cells #[.int .i64 r, .int .i64 c, .slice ao len c1] 24)).alloc (.cells #[.int .i64 r, .int .i64 c, .slice bo len c2] 24)) := ((Grown.refl _).alloc _ _).alloc _ _
  have S := hide (kitSameM r c ao bo len c1 c2 X hl _ (hr.grown G) (ht.grown G))
  have HG := hide (Kp.of G)
  clear hr ht G
  go_enter Tryz.func25, Tryz.ntmps25
  go_wp2_with fail
  generalize (w.alloc (.cells #[.int .i64 r, .int .i64 c, .slice ao len c1] 24)).alloc (.cells #[.int .i64 r, .int .i64 c, .slice bo len c2] 24) = w1 at *
  refine (unhide S).mono ?_
  rintro e w2 ⟨rfl, k2⟩
  have R := hide ((unhide HG).trans k2)
  clear k2 S
  go_wp2
  go_ret
  exact ⟨rfl, unhide R⟩

/-- A matrix of the numbers of another one: those that lack are 0, what is none is the least. -/
def gdZ (A : Nat → Int) (len : Nat) : Nat → Int := fun i => if i < len then max (A i) (-9223372036854775807) else 0
theorem gdZ_fx (A : Nat → Int) (len : Nat) (hA : ∀ i, i < len → I64 (A i)) (i : Nat) : Fx (gdZ A len i) := by
  unfold gdZ
  split
  · have := hA i (by assumption)
    unfold I64 at this
    unfold Fx
    omega
  · unfold Fx; omega
def GdI (w : World) (box : Array Value) (n nn L : Nat) (Y : Nat → Int) (k : Nat) (wr : World) : Prop :=
  Blk w.heap.size box 24 wr ∧ Blk (w.heap.size + 1) #[.int .i64 0, .int .i64 0, .slice none 0 0] 24 wr ∧ Blk L (ints nn (soFar Y (List.range k))) 3 wr ∧ Blk (L + 1) #[.int .i64 n, .int .i64 n, .slice (some ⟨L, 0, none⟩) nn nn] 24 wr ∧ Kp w wr ∧ w.heap.size + 2 ≤ L

end Go.Proofs.YtgahdjfkmpadoaaGreat

/- The laws' helper eye. -/
namespace Go.Proofs.YtgahdjfkmpadoaaGreat
open Go.RowKit Go.Shelf Go.Proofs.Wd
set_option linter.unusedVariables false
set_option linter.unusedSimpArgs false
set_option maxRecDepth 10000

/-- One on the diagonal, so far. -/
def eyZ (n k : Nat) : Nat → Int := fun p => if p / n = p % n ∧ p / n < k then 4294967296 else 0
theorem eyZ_zero (n : Nat) : (fun _ => (0 : Int)) = eyZ n 0 := by
  funext p
  unfold eyZ
  rw [if_neg (fun h => Nat.not_lt_zero _ h.2)]
theorem eyZ_succ (n k p : Nat) (hk : k < n) : (if p = k * n + k then 4294967296 else eyZ n k p) = eyZ n (k + 1) p := by
  by_cases e : p = k * n + k
  · rw [if_pos e, e]
    unfold eyZ
    rw [place_div k k n hk, place_mod k k n hk, if_pos ⟨rfl, Nat.lt_succ_self _⟩]
  · rw [if_neg e]
    unfold eyZ
    by_cases h : p / n = p % n ∧ p / n < k
    · rw [if_pos h, if_pos ⟨h.1, by omega⟩]
    · rw [if_neg h, if_neg]
      rintro ⟨h1, h2⟩
      have h3 : p / n = k := by
        by_cases g : p / n < k
        · exact absurd ⟨h1, g⟩ h
        · omega
      have pe := place_eq p n
      rw [← h1, h3] at pe
      exact e pe.symm
theorem eyZ_all (n p : Nat) (hp : p < n * n) : eyZ n n p = diagZ oneZ n p := by
  have h := place_lt p n n hp
  unfold eyZ diagZ oneZ
  by_cases e : p / n = p % n
  · rw [if_pos e, if_pos ⟨e, h.1⟩]
  · rw [if_neg e, if_neg (fun q => e q.1)]
def EyJ (w : World) (n nn : Nat) (k : Nat) (wr : World) : Prop :=
  Blk w.heap.size #[.int .i64 0, .int .i64 0, .slice none 0 0] 24 wr ∧ Blk (w.heap.size + 1) (ints nn (eyZ n k)) 3 wr ∧ Blk (w.heap.size + 1 + 1) #[.int .i64 n, .int .i64 n, .slice (some ⟨w.heap.size + 1, 0, none⟩) nn nn] 24 wr ∧ Kp w wr

end Go.Proofs.YtgahdjfkmpadoaaGreat

/- Laws of stage 8 with one unit under way. -/
namespace Go.Proofs.YtgahdjfkmpadoaaGreat
open Go.RowKit Go.Shelf Go.Proofs.Wd
set_option linter.unusedVariables false
set_option linter.unusedSimpArgs false
set_option maxRecDepth 10000

/-- What Even and Rank come to, reckoned without choice. -/
def evQ (A : Nat → Int) (n : Nat) : Nat → Int := fun p => if p / n = p % n then A p else halfN (A (min (p / n) (p % n) * n + max (p / n) (p % n))) (A (max (p / n) (p % n) * n + min (p / n) (p % n)))
theorem evenZ_q (A : Nat → Int) (n p : Nat) (hp : p < n * n) : evenZ A n p = evQ A n p := by
  have h := place_lt p n n hp
  have e := evenZ_at A n (p / n) (p % n) h.1 h.2
  rw [place_eq] at e
  exact e
def rkQ (A K : Nat → Int) (s : Int) (n : Nat) : Nat → Int := fun p => rkF A K s n (min (p / n) (p % n)) (max (p / n) (p % n))
theorem rankZ_q (A K : Nat → Int) (s : Int) (n p : Nat) (hp : p < n * n) : rankZ A K s n p = rkQ A K s n p := by
  have h := place_lt p n n hp
  have e := rankZ_at A K s n (p / n) (p % n) h.1 h.2
  rw [place_eq] at e
  exact e
/-- Made symmetric, so it is. -/
theorem isB_sym (n len : Nat) (Z : Nat → Int) (hn : 1 ≤ n ∧ n ≤ 12) (hl : len = n * n) (h : symP Z n) : isB n n len Z = true :=
  isB_yes ⟨by omega, by omega, by rw [hl, Int.natCast_mul]⟩ (fun a c h1 h2 => h a c h2 (by omega))

section
variable {w : World} {U : Nat} {P : Bool → Prop} {D : Int} {bx : List (Nat × Array Value)} {rows : List (Option Addr × Nat × (Nat → Int))} {wx w' : World}
/-- A matrix that the unit reckoned. -/
theorem KS.toldS {F : Nat} {args : Array Value} {r c err : Int} {len : Nat} {Z : Nat → Int} {G : Bool} {d : Int} (D' : Int) (h : KS w U P D bx rows wx) (hD : D ≤ 1000000000) (hd : 0 ≤ d ∧ D + d ≤ D') (hG : ∀ c, P c → P (c || G))
    (m : ∀ c0 n0, 0 ≤ n0 ∧ n0 < 1000000000000000000 → UC U c0 n0 wx → Calls Tryz.prog F args wx fun e w' => SymP r c len Z err (UX U (c0 || G) n0 d wx) wx e w') :
    Calls Tryz.prog F args wx fun e w' => ∃ ao cap, e = .returned (.tuple #[.agg #[.int .i64 r, .int .i64 c, .slice ao len cap], .int .i64 err]) ∧ len ≤ cap ∧ KS w U P D' bx ((ao, len, Z) :: rows) w' := by
  obtain ⟨c0, n0, h1, h2, h3, h4⟩ := h.1
  refine (m c0 n0 ⟨h2, by omega⟩ h4).mono ?_
  rintro e w' ⟨ao, cap, B, rfl, hc, hB, ho, ⟨k, k1, k2, hu⟩, hm⟩
  have t := h.2.mk (U := U) (by simp) hm
  refine ⟨ao, cap, rfl, hc, ⟨_, _, hG _ h1, by omega, by omega, hu⟩, t.row ?_ (fun e he => ?_)⟩
  · rcases ho with ho | ⟨rfl, ho⟩
    · exact Or.inl ho
    · exact ho.row
  · rcases ho with ho | ⟨rfl, ho⟩
    · exact fun hl => absurd hl (by omega)
    · exact off_blk (by have := (h.2.2.1 e he).2; omega)
/-- What no unit reckoned. -/
theorem KS.toldSK {r c err : Int} {len : Nat} {Z : Nat → Int} {e : Ending} (h : KS w U P D bx rows wx) (hv : SymP r c len Z err (Kp wx) wx e w') : ∃ ao cap, e = .returned (.tuple #[.agg #[.int .i64 r, .int .i64 c, .slice ao len cap], .int .i64 err]) ∧ len ≤ cap ∧ KS w U P D bx ((ao, len, Z) :: rows) w' := by
  obtain ⟨ao, cap, B, rfl, hc, hB, ho, hm⟩ := hv
  have t := h.kp hm
  refine ⟨ao, cap, rfl, hc, t.1, t.2.row ?_ (fun e he => ?_)⟩
  · rcases ho with ho | ⟨rfl, ho⟩
    · exact Or.inl ho
    · exact ho.row
  · rcases ho with ho | ⟨rfl, ho⟩
    · exact fun hl => absurd hl (by omega)
    · exact off_blk (by have := (h.2.2.1 e he).2; omega)
/-- A number that the unit reckoned. -/
theorem KS.toldN {F : Nat} {args : Array Value} {x err : Int} {G : Bool} {d : Int} (D' : Int) (h : KS w U P D bx rows wx) (hD : D ≤ 1000000000) (hd : 0 ≤ d ∧ D + d ≤ D') (hG : ∀ c, P c → P (c || G))
    (m : ∀ c0 n0, 0 ≤ n0 ∧ n0 < 1000000000000000000 → UC U c0 n0 wx → Calls Tryz.prog F args wx fun e w' => e = .returned (.tuple #[.int .i64 x, .int .i64 err]) ∧ UX U (c0 || G) n0 d wx w') :
    Calls Tryz.prog F args wx fun e w' => e = .returned (.tuple #[.int .i64 x, .int .i64 err]) ∧ KS w U P D' bx rows w' := by
  obtain ⟨c0, n0, h1, h2, h3, h4⟩ := h.1
  refine (m c0 n0 ⟨h2, by omega⟩ h4).mono ?_
  rintro e w' ⟨rfl, ⟨k, k1, k2, hu⟩, hm⟩
  exact ⟨rfl, ⟨_, _, hG _ h1, by omega, by omega, hu⟩, h.2.mk (U := U) (by simp) hm⟩
theorem KS.more (h : KS w U P D bx rows wx) {D' : Int} (hD : D ≤ D') : KS w U P D' bx rows wx := let ⟨c, n, h1, h2, h3, h4⟩ := h.1; ⟨⟨c, n, h1, h2, Int.le_trans h3 hD, h4⟩, h.2⟩
end

/-- The calls, over rows. -/
theorem evenR (U n : Nat) (hn : 1 ≤ n ∧ n ≤ 12) (len : Nat) (hl : len = n * n) (a1 : Option Addr) (p1 : Nat) (A : Nat → Int) (hA : ∀ j, j < len → I64 (A j)) (w : World) (ra : Row w a1 len A ∧ Off U len a1) (c0 : Bool) (n0 : Int) (hn0 : 0 ≤ n0 ∧ n0 < 1000000000000000000) (h : UC U c0 n0 w) :
    Calls Tryz.prog 10 #[.pointer (some ⟨U, 0, none⟩), .agg #[.int .i64 n, .int .i64 n, .slice a1 len p1]] w fun e w' => SymP n n len (evenZ A n) 0 (UX U (c0 || orC (upC (evC A n) 1 n) len) n0 144 w) w e w' := by
  have k1 := mul12n n n hn hn
  obtain ⟨b, o, rfl, za⟩ := ra.1.some (by omega)
  exact symEven_ok U c0 n0 ⟨hn0.1, by omega⟩ n len p1 b o A hn hl hA w h za (off_at ra.2 (by omega))
theorem rankR (U n : Nat) (hn : 1 ≤ n ∧ n ≤ 12) (len : Nat) (hl : len = n * n) (a1 xo : Option Addr) (p1 xc : Nat) (A K0 : Nat → Int) (s : Int) (hs : I64 s) (hA : ∀ j, j < len → I64 (A j)) (hK : ∀ j, j < n → I64 (K0 j)) (w : World) (ra : Row w a1 len A ∧ Off U len a1) (rk : Row w xo n K0 ∧ Off U n xo) (c0 : Bool) (n0 : Int) (hn0 : 0 ≤ n0 ∧ n0 < 1000000000000000000) (h : UC U c0 n0 w) :
    Calls Tryz.prog 15 #[.pointer (some ⟨U, 0, none⟩), .agg #[.int .i64 n, .int .i64 n, .slice a1 len p1], .slice xo n xc, .int .i64 s] w fun e w' => SymP n n len (rankZ A K0 s n) 0 (UX U (c0 || orC (upC (rkC A K0 s n) 0 n) len) n0 864 w) w e w' := by
  have k1 := mul12n n n hn hn
  obtain ⟨b, o, rfl, za⟩ := ra.1.some (by omega)
  obtain ⟨kb, ko, rfl, zk⟩ := rk.1.some (by omega)
  exact symRank_ok U c0 n0 ⟨hn0.1, by omega⟩ n len p1 b o A hn hl hA w h za (off_at ra.2 (by omega)) kb ko xc K0 s hs hK zk (off_at rk.2 (by omega))
theorem sandR (U r m : Nat) (hr : 1 ≤ r ∧ r ≤ 12) (hm : 1 ≤ m ∧ m ≤ 12) (l1 l2 : Nat) (hl1 : l1 = r * m) (hl2 : l2 = m * m) (a1 a2 : Option Addr) (p1 p2 : Nat) (hp : l1 ≤ p1) (A B : Nat → Int) (hA : ∀ j, j < l1 → I64 (A j)) (hB : ∀ j, j < l2 → I64 (B j)) (w : World) (ra : Row w a1 l1 A ∧ Off U l1 a1) (rb : Row w a2 l2 B ∧ Off U l2 a2) (c0 : Bool) (n0 : Int) (hn0 : 0 ≤ n0 ∧ n0 < 1000000000000000000) (h : UC U c0 n0 w) :
    Calls Tryz.prog 13 #[.pointer (some ⟨U, 0, none⟩), .agg #[.int .i64 r, .int .i64 m, .slice a1 l1 p1], .agg #[.int .i64 m, .int .i64 m, .slice a2 l2 p2]] w fun e w' => SymP r r (r * r) (evenZ (mulZ (mulZ A B m m) (turnZ A r m) m r) r) 0 (UX U (c0 || (orC (mulG A B m m) (r * m) || orC (mulG (mulZ A B m m) (turnZ A r m) m r) (r * r) || orC (upC (evC (mulZ (mulZ A B m m) (turnZ A r m) m r) r) 1 r) (r * r))) n0 10000 w) w e w' := by
  have := symSandwich_ok U c0 n0 hn0 r m a1 a2 l1 p1 l2 p2 A B hr hm hl1 hl2 hp hA hB w h ra.1 ra.2 rb.1 rb.2
  simp only [Bool.or_assoc] at this ⊢
  exact this
/-- Refused. -/
theorem SymP.ux {U : Nat} {c0 : Bool} {n0 : Int} {r c err : Int} {len : Nat} {Z : Nat → Int} {w : World} {e : Ending} {w' : World} (d : Int) (hd : 0 ≤ d) (h : SymP r c len Z err (fun w' => UC U c0 n0 w' ∧ Mk U w w') w e w') : SymP r c len Z err (UX U (c0 || false) n0 d w) w e w' := by
  obtain ⟨ao, cap, B, h1, h2, h3, h4, h5, h6⟩ := h
  exact ⟨ao, cap, B, h1, h2, h3, h4, ⟨n0, Int.le_refl _, by omega, by rw [Bool.or_false]; exact h5⟩, h6⟩

end Go.Proofs.YtgahdjfkmpadoaaGreat

/- Package sym and the document: what each call comes to, whatever is handed in. -/
namespace Go.Proofs.YtgahdjfkmpadoaaGreat
open Go.RowKit Go.Shelf Go.Proofs.Wd
set_option linter.unusedVariables false
set_option linter.unusedSimpArgs false
set_option maxRecDepth 10000

/-- What comes of a call: rows, columns, numbers, an error; whether something was cut. -/
structure SO where
  r : Int
  c : Int
  len : Nat
  Z : Nat → Int
  err : Int
  cut : Bool
open Classical in
noncomputable def evenO (R1 C1 : Int) (l1 : Nat) (A : Nat → Int) (c0 : Bool) : SO :=
  if okM R1 C1 l1 ∧ R1 = C1 then ⟨R1, C1, l1, evenZ A R1.toNat, 0, c0 || orC (upC (evC A R1.toNat) 1 R1.toNat) l1⟩ else ⟨0, 0, 0, A, 3, c0⟩
open Classical in
noncomputable def rankO (R1 C1 : Int) (l1 xl : Nat) (A K : Nat → Int) (s : Int) (c0 : Bool) : SO :=
  if (okM R1 C1 l1 ∧ R1 = C1) ∧ (xl : Int) = R1 then ⟨R1, C1, l1, rankZ A K s R1.toNat, 0, c0 || orC (upC (rkC A K s R1.toNat) 0 R1.toNat) l1⟩ else ⟨0, 0, 0, A, 3, c0⟩
open Classical in
noncomputable def sandO (R1 C1 R2 C2 : Int) (l1 l2 : Nat) (A B : Nat → Int) (c0 : Bool) : SO :=
  if okM R1 C1 l1 ∧ (okM R2 C2 l2 ∧ R2 = C2) ∧ C1 = R2 then ⟨R1, R1, R1.toNat * R1.toNat, evenZ (mulZ (mulZ A B C1.toNat C1.toNat) (turnZ A R1.toNat C1.toNat) C1.toNat R1.toNat) R1.toNat, 0, c0 || orC (mulG A B C1.toNat C1.toNat) (R1.toNat * C1.toNat) || orC (mulG (mulZ A B C1.toNat C1.toNat) (turnZ A R1.toNat C1.toNat) C1.toNat R1.toNat) (R1.toNat * R1.toNat) || orC (upC (evC (mulZ (mulZ A B C1.toNat C1.toNat) (turnZ A R1.toNat C1.toNat) C1.toNat R1.toNat) R1.toNat) 1 R1.toNat) (R1.toNat * R1.toNat)⟩ else ⟨0, 0, 0, A, 3, c0⟩
open Classical in
/-- Of Trace: the number as r. -/
noncomputable def traceO (R1 C1 : Int) (l1 : Nat) (A : Nat → Int) (c0 : Bool) : SO :=
  if okM R1 C1 l1 ∧ R1 = C1 then ⟨thN addN 0 (dgL A R1.toNat) R1.toNat, 0, 0, A, 0, c0 || thC addN addC 0 (dgL A R1.toNat) R1.toNat⟩ else ⟨0, 0, 0, A, 3, c0⟩

theorem evenO_len {R1 C1 : Int} {l1 : Nat} {A : Nat → Int} {c0 : Bool} {q : SO} (h : evenO R1 C1 l1 A c0 = q) : q.len ≤ 144 := by
  subst h
  unfold evenO
  by_cases hg : okM R1 C1 l1 ∧ R1 = C1
  · rw [if_pos hg]
    obtain ⟨r, c, _, _, _, _, _, _, h⟩ := hg.1.nat
    exact h
  · rw [if_neg hg]
    exact Nat.zero_le _
theorem rankO_len {R1 C1 s : Int} {l1 xl : Nat} {A K : Nat → Int} {c0 : Bool} {q : SO} (h : rankO R1 C1 l1 xl A K s c0 = q) : q.len ≤ 144 := by
  subst h
  unfold rankO
  by_cases hg : (okM R1 C1 l1 ∧ R1 = C1) ∧ (xl : Int) = R1
  · rw [if_pos hg]
    obtain ⟨r, c, _, _, _, _, _, _, h⟩ := hg.1.1.nat
    exact h
  · rw [if_neg hg]
    exact Nat.zero_le _
theorem sandO_len {R1 C1 R2 C2 : Int} {l1 l2 : Nat} {A B : Nat → Int} {c0 : Bool} {q : SO} (h : sandO R1 C1 R2 C2 l1 l2 A B c0 = q) : q.len ≤ 144 := by
  subst h
  unfold sandO
  by_cases hg : okM R1 C1 l1 ∧ (okM R2 C2 l2 ∧ R2 = C2) ∧ C1 = R2
  · rw [if_pos hg]
    have := mul12n R1.toNat R1.toNat (by have := hg.1.1; omega) (by have := hg.1.1; omega)
    show R1.toNat * R1.toNat ≤ 144
    omega
  · rw [if_neg hg]
    exact Nat.zero_le _
theorem SymP.to {r c err : Int} {len : Nat} {Z : Nat → Int} {X Y : World → Prop} {w : World} {e : Ending} {w' : World} (h : SymP r c len Z err X w e w') (f : X w' → Y w') : SymP r c len Z err Y w e w' := let ⟨ao, cap, B, h1, h2, h3, h4, h5⟩ := h; ⟨ao, cap, B, h1, h2, h3, h4, f h5⟩
theorem DocP.to {r c err : Int} {len : Nat} {Z : Nat → Int} {X Y : World → Prop} {w : World} {e : Ending} {w' : World} (h : DocP r c len Z err X w e w') (f : X w' → Y w') : DocP r c len Z err Y w e w' := let ⟨ao, cap, h1, h2, h3, h4, h5⟩ := h; ⟨ao, cap, h1, h2, h3, h4, f h5⟩
/-- The document's unit. -/
def RX (R : Nat) (c : Bool) (n0 D : Int) (w : World) (w' : World) : Prop := (∃ m, n0 ≤ m ∧ m ≤ n0 + D ∧ RC R c m w') ∧ Mk R w w'
theorem ux_more {U : Nat} {c : Bool} {n0 d : Int} {w w' : World} (hd : d ≤ 10000) (h : UX U c n0 d w w') : UX U c n0 10000 w w' := let ⟨⟨m, h1, h2, h3⟩, h4⟩ := h; ⟨⟨m, h1, by omega, h3⟩, h4⟩
theorem ux_none {U : Nat} {c : Bool} {n0 : Int} {w w' : World} (h : UC U c n0 w' ∧ Mk U w w') : UX U c n0 10000 w w' := ⟨⟨n0, by omega, by omega, h.1⟩, h.2⟩
theorem rx_more {R : Nat} {c : Bool} {n0 d : Int} {w w' : World} (hd : d ≤ 10000) (h : (∃ m, n0 ≤ m ∧ m ≤ n0 + d ∧ RC R c m w') ∧ Mk R w w') : RX R c n0 10000 w w' := let ⟨⟨m, h1, h2, h3⟩, h4⟩ := h; ⟨⟨m, h1, by omega, h3⟩, h4⟩
theorem rx_none {R : Nat} {c : Bool} {n0 : Int} {w w' : World} (h : RC R c n0 w' ∧ Mk R w w') : RX R c n0 10000 w w' := ⟨⟨n0, by omega, by omega, h.1⟩, h.2⟩


theorem symEvenAny (U : Nat) (c0 : Bool) (n0 : Int) (hn : 0 ≤ n0 ∧ n0 < 1000000000000000000) (R1 C1 : Int) (a1 : Option Addr) (l1 p1 : Nat) (A : Nat → Int) (hA : ∀ j, j < l1 → I64 (A j)) (w : World) (h : UC U c0 n0 w) (ra : Row w a1 l1 A) (oa : Off U l1 a1) (q : SO) (hq : evenO R1 C1 l1 A c0 = q) :
    Calls Tryz.prog 10 #[.pointer (some ⟨U, 0, none⟩), .agg #[.int .i64 R1, .int .i64 C1, .slice a1 l1 p1]] w fun e w' => SymP q.r q.c q.len q.Z q.err (UX U q.cut n0 10000 w) w e w' := by
  subst hq
  unfold evenO
  by_cases hg : okM R1 C1 l1 ∧ R1 = C1
  · rw [if_pos hg]
    obtain ⟨h1, rfl⟩ := hg
    obtain ⟨r, c, rfl, e, hr, hc, hl, k1, k2⟩ := h1.nat
    obtain rfl : r = c := by omega
    obtain ⟨b, o, rfl, za⟩ := ra.some k1
    exact (symEven_ok U c0 n0 ⟨hn.1, by omega⟩ r l1 p1 b o A hr hl hA w h za (off_at oa k1)).mono (fun e w' h => h.to (fun h => ux_more (by omega) h))
  · rw [if_neg hg]
    exact (symEven_bad U c0 n0 ⟨hn.1, by omega⟩ R1 C1 a1 l1 p1 A (fun h => hg ⟨h.1, h.2.2.symm⟩) w h).mono (fun e w' h => h.to ux_none)
theorem symRankAny (U : Nat) (c0 : Bool) (n0 : Int) (hn : 0 ≤ n0 ∧ n0 < 1000000000000000000) (R1 C1 : Int) (a1 : Option Addr) (l1 p1 : Nat) (A : Nat → Int) (hA : ∀ j, j < l1 → I64 (A j)) (w : World) (h : UC U c0 n0 w) (ra : Row w a1 l1 A) (oa : Off U l1 a1) (xo : Option Addr) (xl xc : Nat) (K : Nat → Int) (s : Int) (hs : I64 s) (hK : ∀ j, j < xl → I64 (K j)) (rk : Row w xo xl K) (ok : Off U xl xo) (q : SO) (hq : rankO R1 C1 l1 xl A K s c0 = q) :
    Calls Tryz.prog 15 #[.pointer (some ⟨U, 0, none⟩), .agg #[.int .i64 R1, .int .i64 C1, .slice a1 l1 p1], .slice xo xl xc, .int .i64 s] w fun e w' => SymP q.r q.c q.len q.Z q.err (UX U q.cut n0 10000 w) w e w' := by
  subst hq
  unfold rankO
  by_cases hg : (okM R1 C1 l1 ∧ R1 = C1) ∧ (xl : Int) = R1
  · rw [if_pos hg]
    obtain ⟨⟨h1, rfl⟩, hx⟩ := hg
    obtain ⟨r, c, rfl, e, hr, hc, hl, k1, k2⟩ := h1.nat
    obtain rfl : r = c := by omega
    obtain rfl : xl = r := by omega
    obtain ⟨b, o, rfl, za⟩ := ra.some k1
    obtain ⟨kb, ko, rfl, zk⟩ := rk.some (by omega)
    exact (symRank_ok U c0 n0 ⟨hn.1, by omega⟩ xl l1 p1 b o A hr hl hA w h za (off_at oa k1) kb ko xc K s hs hK zk (off_at ok (by omega))).mono (fun e w' h => h.to (fun h => ux_more (by omega) h))
  · rw [if_neg hg]
    exact (symRank_bad U c0 n0 ⟨hn.1, by omega⟩ R1 C1 a1 l1 p1 xo xl xc s A (fun h => hg ⟨⟨h.1, h.2.1.trans h.2.2.symm⟩, h.2.1.symm⟩) w h).mono (fun e w' h => h.to ux_none)
theorem symSandAny (U : Nat) (c0 : Bool) (n0 : Int) (hn : 0 ≤ n0 ∧ n0 < 1000000000000000000) (R1 C1 : Int) (a1 : Option Addr) (l1 p1 : Nat) (A : Nat → Int) (hA : ∀ j, j < l1 → I64 (A j)) (w : World) (h : UC U c0 n0 w) (hp : l1 ≤ p1) (R2 C2 : Int) (a2 : Option Addr) (l2 p2 : Nat) (B : Nat → Int) (hB : ∀ j, j < l2 → I64 (B j)) (ra : Row w a1 l1 A) (oa : Off U l1 a1) (rb : Row w a2 l2 B) (ob : Off U l2 a2) (q : SO) (hq : sandO R1 C1 R2 C2 l1 l2 A B c0 = q) :
    Calls Tryz.prog 13 #[.pointer (some ⟨U, 0, none⟩), .agg #[.int .i64 R1, .int .i64 C1, .slice a1 l1 p1], .agg #[.int .i64 R2, .int .i64 C2, .slice a2 l2 p2]] w fun e w' => SymP q.r q.c q.len q.Z q.err (UX U q.cut n0 10000 w) w e w' := by
  subst hq
  unfold sandO
  by_cases hg : okM R1 C1 l1 ∧ (okM R2 C2 l2 ∧ R2 = C2) ∧ C1 = R2
  · rw [if_pos hg]
    obtain ⟨h1, ⟨h2, rfl⟩, rfl⟩ := hg
    obtain ⟨r, m, rfl, rfl, hr, hm, hl1, k1, k2⟩ := h1.nat
    obtain ⟨m', c, e1, e2, hm', hc, hl2, k3, k4⟩ := h2.nat
    obtain rfl : m = m' := by omega
    obtain rfl : m = c := by omega
    exact (symSandwich_ok U c0 n0 hn r m a1 a2 l1 p1 l2 p2 A B hr hm hl1 hl2 hp hA hB w h ra oa rb ob).mono (fun e w' h => h.to (fun h => ux_more (by omega) h))
  · rw [if_neg hg]
    exact (symSandwich_bad U c0 n0 ⟨hn.1, by omega⟩ R1 C1 R2 C2 a1 a2 l1 p1 l2 p2 A (fun h => hg ⟨h.1, ⟨h.2.1, h.2.2.1.trans h.2.2.2.symm⟩, h.2.2.1.symm⟩) w h).mono (fun e w' h => h.to ux_none)
theorem symTraceAny (U : Nat) (c0 : Bool) (n0 : Int) (hn : 0 ≤ n0 ∧ n0 < 1000000000000000000) (R1 C1 : Int) (a1 : Option Addr) (l1 p1 : Nat) (A : Nat → Int) (hA : ∀ j, j < l1 → I64 (A j)) (w : World) (h : UC U c0 n0 w) (ra : Row w a1 l1 A) (oa : Off U l1 a1) (q : SO) (hq : traceO R1 C1 l1 A c0 = q) :
    Calls Tryz.prog 17 #[.pointer (some ⟨U, 0, none⟩), .agg #[.int .i64 R1, .int .i64 C1, .slice a1 l1 p1]] w fun e w' => e = .returned (.tuple #[.int .i64 q.r, .int .i64 q.err]) ∧ UX U q.cut n0 10000 w w' := by
  subst hq
  unfold traceO
  by_cases hg : okM R1 C1 l1 ∧ R1 = C1
  · rw [if_pos hg]
    obtain ⟨h1, rfl⟩ := hg
    obtain ⟨r, c, rfl, e, hr, hc, hl, k1, k2⟩ := h1.nat
    obtain rfl : r = c := by omega
    obtain ⟨b, o, rfl, za⟩ := ra.some k1
    exact (symTrace_ok U c0 n0 ⟨hn.1, by omega⟩ r l1 p1 b o A hr hl hA w h za (off_at oa k1)).mono (fun e w' h => ⟨h.1, ux_more (by omega) h.2⟩)
  · rw [if_neg hg]
    exact (symTrace_bad U c0 n0 ⟨hn.1, by omega⟩ R1 C1 a1 l1 p1 (fun h => hg ⟨h.1, h.2.2.symm⟩) w h).mono (fun e w' h => ⟨h.1, ux_none h.2⟩)


theorem refEvenAny (R : Nat) (c0 : Bool) (n0 : Int) (hn : 0 ≤ n0 ∧ n0 < 1000000000000000000) (R1 C1 : Int) (a1 : Option Addr) (l1 p1 : Nat) (A : Nat → Int) (hA : ∀ j, j < l1 → I64 (A j)) (w : World) (h : RC R c0 n0 w) (ra : Row w a1 l1 A) (oa : Off R l1 a1) (q : SO) (hq : evenO R1 C1 l1 A c0 = q) :
    Calls Tryz.prog 11 #[.pointer (some ⟨R, 0, none⟩), .agg #[.int .i64 R1, .int .i64 C1, .slice a1 l1 p1]] w fun e w' => DocP q.r q.c q.len q.Z q.err (RX R q.cut n0 10000 w) w e w' := by
  subst hq
  unfold evenO
  by_cases hg : okM R1 C1 l1 ∧ R1 = C1
  · rw [if_pos hg]
    obtain ⟨h1, rfl⟩ := hg
    obtain ⟨r, c, rfl, e, hr, hc, hl, k1, k2⟩ := h1.nat
    obtain rfl : r = c := by omega
    obtain ⟨b, o, rfl, za⟩ := ra.some k1
    exact (refEven_ok R c0 n0 ⟨hn.1, by omega⟩ r l1 p1 b o A hr hl hA w h za (off_at oa k1)).mono (fun e w' h => h.to (fun h => rx_more (by omega) h))
  · rw [if_neg hg]
    exact (refEven_bad R R1 C1 a1 l1 p1 A hg c0 n0 w h).mono (fun e w' h => h.to rx_none)
theorem refRankAny (R : Nat) (c0 : Bool) (n0 : Int) (hn : 0 ≤ n0 ∧ n0 < 1000000000000000000) (R1 C1 : Int) (a1 : Option Addr) (l1 p1 : Nat) (A : Nat → Int) (hA : ∀ j, j < l1 → I64 (A j)) (w : World) (h : RC R c0 n0 w) (ra : Row w a1 l1 A) (oa : Off R l1 a1) (xo : Option Addr) (xl xc : Nat) (K : Nat → Int) (s : Int) (hs : I64 s) (hK : ∀ j, j < xl → I64 (K j)) (rk : Row w xo xl K) (ok : Off R xl xo) (q : SO) (hq : rankO R1 C1 l1 xl A K s c0 = q) :
    Calls Tryz.prog 16 #[.pointer (some ⟨R, 0, none⟩), .agg #[.int .i64 R1, .int .i64 C1, .slice a1 l1 p1], .slice xo xl xc, .int .i64 s] w fun e w' => DocP q.r q.c q.len q.Z q.err (RX R q.cut n0 10000 w) w e w' := by
  subst hq
  unfold rankO
  by_cases hg : (okM R1 C1 l1 ∧ R1 = C1) ∧ (xl : Int) = R1
  · rw [if_pos hg]
    obtain ⟨⟨h1, rfl⟩, hx⟩ := hg
    obtain ⟨r, c, rfl, e, hr, hc, hl, k1, k2⟩ := h1.nat
    obtain rfl : r = c := by omega
    obtain rfl : xl = r := by omega
    obtain ⟨b, o, rfl, za⟩ := ra.some k1
    obtain ⟨kb, ko, rfl, zk⟩ := rk.some (by omega)
    exact (refRank_ok R c0 n0 s hs ⟨hn.1, by omega⟩ xl l1 p1 b o kb ko xc A K hr hl hA w h za (off_at oa k1) hK zk (off_at ok (by omega))).mono (fun e w' h => h.to (fun h => rx_more (by omega) h))
  · rw [if_neg hg]
    exact (refRank_bad R R1 C1 s a1 xo l1 p1 xl xc A hg c0 n0 w h).mono (fun e w' h => h.to rx_none)
theorem refSandAny (R : Nat) (c0 : Bool) (n0 : Int) (hn : 0 ≤ n0 ∧ n0 < 1000000000000000000) (R1 C1 : Int) (a1 : Option Addr) (l1 p1 : Nat) (A : Nat → Int) (hA : ∀ j, j < l1 → I64 (A j)) (w : World) (h : RC R c0 n0 w) (hp : l1 ≤ p1) (R2 C2 : Int) (a2 : Option Addr) (l2 p2 : Nat) (B : Nat → Int) (hB : ∀ j, j < l2 → I64 (B j)) (ra : Row w a1 l1 A) (oa : Off R l1 a1) (rb : Row w a2 l2 B) (ob : Off R l2 a2) (q : SO) (hq : sandO R1 C1 R2 C2 l1 l2 A B c0 = q) :
    Calls Tryz.prog 14 #[.pointer (some ⟨R, 0, none⟩), .agg #[.int .i64 R1, .int .i64 C1, .slice a1 l1 p1], .agg #[.int .i64 R2, .int .i64 C2, .slice a2 l2 p2]] w fun e w' => DocP q.r q.c q.len q.Z q.err (RX R q.cut n0 10000 w) w e w' := by
  subst hq
  unfold sandO
  by_cases hg : okM R1 C1 l1 ∧ (okM R2 C2 l2 ∧ R2 = C2) ∧ C1 = R2
  · rw [if_pos hg]
    obtain ⟨h1, ⟨h2, rfl⟩, rfl⟩ := hg
    obtain ⟨r, m, rfl, rfl, hr, hm, hl1, k1, k2⟩ := h1.nat
    obtain ⟨m', c, e1, e2, hm', hc, hl2, k3, k4⟩ := h2.nat
    obtain rfl : m = m' := by omega
    obtain rfl : m = c := by omega
    exact (refSandwich_ok R c0 n0 hn r m a1 a2 l1 p1 l2 p2 A B hr hm hl1 hl2 hp hA hB w h ra oa rb ob).mono (fun e w' h => h.to (fun h => rx_more (by omega) h))
  · rw [if_neg hg]
    exact (refSandwich_bad R R1 C1 R2 C2 a1 a2 l1 p1 l2 p2 A hg c0 n0 w h).mono (fun e w' h => h.to rx_none)
theorem refTraceAny (R : Nat) (c0 : Bool) (n0 : Int) (hn : 0 ≤ n0 ∧ n0 < 1000000000000000000) (R1 C1 : Int) (a1 : Option Addr) (l1 p1 : Nat) (A : Nat → Int) (hA : ∀ j, j < l1 → I64 (A j)) (w : World) (h : RC R c0 n0 w) (ra : Row w a1 l1 A) (oa : Off R l1 a1) (q : SO) (hq : traceO R1 C1 l1 A c0 = q) :
    Calls Tryz.prog 18 #[.pointer (some ⟨R, 0, none⟩), .agg #[.int .i64 R1, .int .i64 C1, .slice a1 l1 p1]] w fun e w' => e = .returned (.tuple #[.int .i64 q.r, .int .i64 q.err]) ∧ RX R q.cut n0 10000 w w' := by
  subst hq
  unfold traceO
  by_cases hg : okM R1 C1 l1 ∧ R1 = C1
  · rw [if_pos hg]
    obtain ⟨h1, rfl⟩ := hg
    obtain ⟨r, c, rfl, e, hr, hc, hl, k1, k2⟩ := h1.nat
    obtain rfl : r = c := by omega
    obtain ⟨b, o, rfl, za⟩ := ra.some k1
    exact (refTrace_ok R c0 n0 ⟨hn.1, by omega⟩ r l1 p1 b o A hr hl hA w h za (off_at oa k1)).mono (fun e w' h => ⟨h.1, ⟨⟨_, by omega, by omega, h.2.1⟩, h.2.2⟩⟩)
  · rw [if_neg hg]
    exact (refTrace_bad R R1 C1 a1 l1 p1 hg c0 n0 w h).mono (fun e w' h => ⟨h.1, rx_none h.2⟩)


theorem refIsAny (R1 C1 : Int) (a1 : Option Addr) (l1 p1 : Nat) (A : Nat → Int) (w : World) (ra : Row w a1 l1 A) :
    Calls Tryz.prog 21 #[.agg #[.int .i64 R1, .int .i64 C1, .slice a1 l1 p1]] w fun e w' => e = .returned (.bool (isB R1 C1 l1 A)) ∧ Kp w w' := by
  by_cases hg : okM R1 C1 l1 ∧ R1 = C1
  · obtain ⟨h1, h2⟩ := hg
    subst h2
    obtain ⟨r, c, rfl, e, hr, hc, hl, k1, k2⟩ := h1.nat
    obtain rfl : r = c := by omega
    obtain ⟨b, o, rfl, za⟩ := ra.some k1
    exact (refIs_ok r l1 p1 b o A hr hl w za).mono (fun e w' h => ⟨h.1, Kp.of h.2⟩)
  · exact (refIs_bad R1 C1 a1 l1 p1 A hg w).mono (fun e w' h => ⟨h.1, Kp.of h.2⟩)

end Go.Proofs.YtgahdjfkmpadoaaGreat

/- A region that draws its order, 'x, y := f(..), g(..)': what it reads stays, its calls make new memory, its boxes are made and filled. -/
namespace Go.Proofs.YtgahdjfkmpadoaaGreat
open Go.RowKit Go.Shelf Go.Proofs.Wd
set_option linter.unusedVariables false
set_option linter.unusedSimpArgs false
set_option maxRecDepth 10000

/-- What an operation is: a value that is known ahead; a call; a box that is made; a box that is filled with what a call told. -/
inductive OpK where
  | pure (d : Nat) (v : Value)
  | call (d : Nat) (G : Value → World → Prop)
  | alloc (d : Nat) (cs : Array Value) (T : TypeId)
  | store (ia ic : Nat) (fl : Value → Array Value)
  | same (d j : Nat)
def OpK.dst : OpK → Option Nat
  | .pure d _ => some d
  | .call d _ => some d
  | .alloc d _ _ => some d
  | .store _ _ _ => none
  | .same d _ => some d
def OpK.val (vals : Nat → Value) (addr : Nat → Nat) (i : Nat) : OpK → Value
  | .pure _ v => v
  | .call _ _ => vals i
  | .alloc _ _ _ => .pointer (some ⟨addr i, 0, none⟩)
  | .store _ _ _ => undef
  | .same _ j => vals j
def OpK.isStore (ia : Nat) : OpK → Bool
  | .store i _ _ => i == ia
  | _ => false
/-- It hangs on these blocks alone. -/
def Dep (Bs : List Nat) (F : World → Prop) : Prop := ∀ w w' : World, (∀ k ∈ Bs, w'.heap[k]? = w.heap[k]?) → F w → F w'
def apartD (KL : List OpK) : Bool := (List.range KL.length).all fun i => (List.range KL.length).all fun j => i == j || ((KL[i]?).bind OpK.dst).isNone || ((KL[i]?).bind OpK.dst) != ((KL[j]?).bind OpK.dst)
def onlyStore (KL : List OpK) (ia i : Nat) : Bool := (List.range KL.length).all fun j => !(((KL[j]?).map (OpK.isStore ia)).getD false) || j == i
theorem len_of {α : Type} {l : List α} {i : Nat} {x : α} (h : l[i]? = some x) : i < l.length := (List.getElem?_eq_some_iff.1 h).1
theorem apartD_spec {KL : List OpK} (h : apartD KL = true) {i j : Nat} {k k' : OpK} {d : Nat} (hi : KL[i]? = some k) (hj : KL[j]? = some k') (di : k.dst = some d) (dj : k'.dst = some d) : i = j := by
  unfold apartD at h
  rw [List.all_eq_true] at h
  have h1 := h i (List.mem_range.2 (len_of hi))
  rw [List.all_eq_true] at h1
  have h2 := h1 j (List.mem_range.2 (len_of hj))
  rw [hi, hj] at h2
  simpa [di, dj] using h2
theorem onlyStore_spec {KL : List OpK} {ia i : Nat} (h : onlyStore KL ia i = true) {j ic : Nat} {fl : Value → Array Value} (hj : KL[j]? = some (.store ia ic fl)) : j = i := by
  unfold onlyStore at h
  rw [List.all_eq_true] at h
  have h1 := h j (List.mem_range.2 (len_of hj))
  rw [hj] at h1
  simpa [OpK.isStore] using h1

/-- What is known of the operations that one waits for. -/
def KnJ (a : Act) (w : World) : OpK → Prop
  | .pure d v => a.tmps[d]? = some v
  | .call d G => ∃ v, a.tmps[d]? = some v ∧ G v w
  | .alloc d _ _ => ∃ A, a.tmps[d]? = some (.pointer (some ⟨A, 0, none⟩))
  | .store _ _ _ => True
  | .same d _ => ∃ v, a.tmps[d]? = some v
def Kn (KL : List OpK) (aft : Array Edge) (a : Act) (w : World) : Prop := ∀ j k, waits aft j = true → KL[j]? = some k → KnJ a w k
theorem Kn.pure {KL : List OpK} {aft : Array Edge} {a : Act} {w : World} (h : Kn KL aft a w) (j : Nat) (d : Nat) (v : Value) (hw : waits aft j = true) (hk : KL[j]? = some (.pure d v)) : a.tmps[d]? = some v := h j _ hw hk
theorem Kn.call {KL : List OpK} {aft : Array Edge} {a : Act} {w : World} (h : Kn KL aft a w) (j : Nat) (d : Nat) (G : Value → World → Prop) (hw : waits aft j = true) (hk : KL[j]? = some (.call d G)) : ∃ v, a.tmps[d]? = some v ∧ G v w := h j _ hw hk

/-- What each operation must do. -/
def OpOK (ops : Array Oper) (Q : Exit → Act → World → Prop) (KL : List OpK) (a0 : Act) (S : World → Prop) (H : Nat) (i : Nat) (aft : Array Edge) : OpK → Prop
  | .pure d v => ∀ (a : Act) (w : World) (K : Act → World → Prop), Sl (KL.filterMap OpK.dst) a0 a → Kn KL aft a w → S w → K (a.put (some d) v) w → wpOp Tryz.prog ops Q i K a w
  | .call d G => ∀ (a : Act) (w : World) (K : Act → World → Prop), Sl (KL.filterMap OpK.dst) a0 a → Kn KL aft a w → S w → H ≤ w.heap.size → (∀ v w' Bs, Kp w w' → (∀ k ∈ Bs, w.heap.size ≤ k ∧ k < w'.heap.size) → Dep Bs (G v) → G v w' → K (a.put (some d) v) w') → wpOp Tryz.prog ops Q i K a w
  | .alloc d cs T => ∀ (a : Act) (w : World) (K : Act → World → Prop), K (a.put (some d) (.pointer (some ⟨w.heap.size, 0, none⟩))) (w.alloc (.cells cs T)) → wpOp Tryz.prog ops Q i K a w
  | .store ia ic fl => ∃ da cs T dc G, KL[ia]? = some (.alloc da cs T) ∧ KL[ic]? = some (.call dc G) ∧ waits aft ia = true ∧ waits aft ic = true ∧ onlyStore KL ia i = true ∧
      ∀ (a : Act) (w : World) (K : Act → World → Prop) A v, a.tmps[da]? = some (.pointer (some ⟨A, 0, none⟩)) → a.tmps[dc]? = some v → G v w → Blk A cs T w → (∀ w', Mk A w w' → Blk A (fl v) T w' → K a w') → wpOp Tryz.prog ops Q i K a w
  | .same d j => ∃ dj G, KL[j]? = some (.call dj G) ∧ waits aft j = true ∧ ∀ (a : Act) (w : World) (K : Act → World → Prop) v, a.tmps[dj]? = some v → K (a.put (some d) v) w → wpOp Tryz.prog ops Q i K a w

/-- What is known of an operation that has come up. -/
def Item (KL : List OpK) (listed : Array Bool) (vals : Nat → Value) (addr : Nat → Nat) (gs : Nat → List Nat) (H : Nat) (a : Act) (w : World) (i : Nat) : OpK → Prop
  | .pure d v => a.tmps[d]? = some v
  | .call d G => a.tmps[d]? = some (vals i) ∧ G (vals i) w ∧ Dep (gs i) (G (vals i)) ∧ ∀ k ∈ gs i, k < w.heap.size ∧ ∀ j d cs T, KL[j]? = some (.alloc d cs T) → listed.getD j false = true → addr j ≠ k
  | .alloc d cs T => a.tmps[d]? = some (.pointer (some ⟨addr i, 0, none⟩)) ∧ H ≤ addr i ∧ addr i < w.heap.size ∧ (∀ j d cs T, j ≠ i → KL[j]? = some (.alloc d cs T) → listed.getD j false = true → addr j ≠ addr i) ∧ ((∀ s ic fl, KL[s]? = some (.store i ic fl) → listed.getD s false = false) → Blk (addr i) cs T w)
  | .store ia ic fl => ∀ d cs T, KL[ia]? = some (.alloc d cs T) → listed.getD ia false = true ∧ listed.getD ic false = true ∧ Blk (addr ia) (fl (vals ic)) T w
  | .same d j => a.tmps[d]? = some (vals j) ∧ listed.getD j false = true
/-- What is known in the end. -/
def FinI (KL : List OpK) (vals : Nat → Value) (addr : Nat → Nat) (H : Nat) (w : World) (i : Nat) : OpK → Prop
  | .pure d v => True
  | .call d G => G (vals i) w
  | .alloc d cs T => H ≤ addr i ∧ addr i < w.heap.size
  | .store ia ic fl => ∀ d cs T, KL[ia]? = some (.alloc d cs T) → Blk (addr ia) (fl (vals ic)) T w
  | .same _ _ => True
def putsL (vals : Nat → Value) (addr : Nat → Nat) : Nat → List OpK → List (Nat × Value)
  | _, [] => []
  | i, k :: ks => match k.dst with
    | some d => (d, k.val vals addr i) :: putsL vals addr (i + 1) ks
    | none => putsL vals addr (i + 1) ks
theorem putsL_mem {vals : Nat → Value} {addr : Nat → Nat} : ∀ {i0 : Nat} {ks : List OpK} {p : Nat × Value}, p ∈ putsL vals addr i0 ks → ∃ (i : Nat) (k : OpK), ks[i]? = some k ∧ k.dst = some p.1 ∧ p.2 = k.val vals addr (i0 + i)
  | _, [], _, h => by cases h
  | i0, k :: ks, p, h => by
    unfold putsL at h
    cases hd : k.dst with
    | none =>
      rw [hd] at h
      obtain ⟨i, k', h1, h2, h3⟩ := putsL_mem h
      exact ⟨i + 1, k', by rw [List.getElem?_cons_succ]; exact h1, h2, by rw [h3, Nat.add_assoc, Nat.add_comm 1 i]⟩
    | some d =>
      rw [hd] at h
      rcases List.mem_cons.1 h with rfl | h
      · exact ⟨0, k, rfl, hd, rfl⟩
      · obtain ⟨i, k', h1, h2, h3⟩ := putsL_mem h
        exact ⟨i + 1, k', by rw [List.getElem?_cons_succ]; exact h1, h2, by rw [h3, Nat.add_assoc, Nat.add_comm 1 i]⟩
theorem putsL_fst {vals : Nat → Value} {addr : Nat → Nat} : ∀ (i0 : Nat) (ks : List OpK), (putsL vals addr i0 ks).map Prod.fst = ks.filterMap OpK.dst
  | _, [] => rfl
  | i0, k :: ks => by
    unfold putsL
    cases hd : k.dst with
    | none => simp [hd, putsL_fst (i0 + 1) ks]
    | some d => simp [hd, putsL_fst (i0 + 1) ks]
theorem fold_put : ∀ (l : List (Nat × Value)) (t : Array Value), (∀ p ∈ l, p.1 < t.size) → (∀ p ∈ l, ∀ q ∈ l, p.1 = q.1 → p.2 = q.2) → ∀ k, (l.foldl (fun t p => t.setIfInBounds p.1 p.2) t)[k]? = t[k]? ∧ k ∉ l.map Prod.fst ∨ ∃ p ∈ l, p.1 = k ∧ (l.foldl (fun t p => t.setIfInBounds p.1 p.2) t)[k]? = some p.2
  | [], t, _, _, k => Or.inl ⟨rfl, by simp⟩
  | p :: l, t, hs, hf, k => by
    rcases fold_put l (t.setIfInBounds p.1 p.2) (fun q hq => by rw [Array.size_setIfInBounds]; exact hs q (List.mem_cons_of_mem _ hq)) (fun q hq r hr => hf q (List.mem_cons_of_mem _ hq) r (List.mem_cons_of_mem _ hr)) k with ⟨h1, h2⟩ | ⟨q, hq, e, h⟩
    · by_cases hk : p.1 = k
      · refine Or.inr ⟨p, List.mem_cons_self, hk, ?_⟩
        show (l.foldl _ (t.setIfInBounds p.1 p.2))[k]? = _
        rw [h1, ← hk, Array.getElem?_setIfInBounds_self_of_lt (hs p List.mem_cons_self)]
      · refine Or.inl ⟨?_, ?_⟩
        · show (l.foldl _ (t.setIfInBounds p.1 p.2))[k]? = _
          rw [h1, Array.getElem?_setIfInBounds_ne hk]
        · simp only [List.map_cons, List.mem_cons, not_or]
          exact ⟨fun e => hk e.symm, h2⟩
    · exact Or.inr ⟨q, List.mem_cons_of_mem _ hq, e, h⟩

theorem count_set : ∀ (l : List Bool) (i : Nat), l[i]? = some false → (l.set i true).count false + 1 = l.count false
  | [], _, h => by simp at h
  | b :: l, 0, h => by
    simp at h
    subst h
    simp
  | b :: l, i + 1, h => by
    have ih := count_set l i (by simpa using h)
    cases b <;> simp [List.count_cons] <;> omega
theorem count_zero {l : List Bool} (h : l.count false = 0) {i : Nat} {b : Bool} (hi : l[i]? = some b) : b = true := by
  cases b with
  | true => rfl
  | false => exact absurd (List.mem_of_getElem? hi) (List.count_eq_zero.1 h)
theorem getD_ne {l : Array Bool} {i j : Nat} {b : Bool} (h : i ≠ j) : (l.setIfInBounds i true).getD j b = l.getD j b := by
  rw [Array.getD_eq_getD_getElem?, Array.getD_eq_getD_getElem?, Array.getElem?_setIfInBounds_ne h]

def JM (KL : List OpK) (a0 : Act) (S : World → Prop) (H : Nat) (n : Nat) (listed : Array Bool) (a : Act) (w : World) : Prop :=
  listed.size = KL.length ∧ n = listed.toList.count false ∧ Sl (KL.filterMap OpK.dst) a0 a ∧ S w ∧ H ≤ w.heap.size ∧ ∃ vals addr gs, ∀ i k, KL[i]? = some k → listed.getD i false = true → Item KL listed vals addr gs H a w i k

theorem mem_dst {KL : List OpK} {i d : Nat} {k : OpK} (h : KL[i]? = some k) (hd : k.dst = some d) : d ∈ KL.filterMap OpK.dst := List.mem_filterMap.2 ⟨k, List.mem_of_getElem? h, hd⟩
theorem Item.kn {KL : List OpK} {listed : Array Bool} {vals : Nat → Value} {addr : Nat → Nat} {gs : Nat → List Nat} {H : Nat} {a : Act} {w : World} {i : Nat} {k : OpK} (h : Item KL listed vals addr gs H a w i k) : KnJ a w k := by
  cases k with
  | pure d v => exact h
  | call d G => exact ⟨_, h.1, h.2.1⟩
  | alloc d cs T => exact ⟨_, h.1⟩
  | store ia ic fl => trivial
  | same d j => exact ⟨_, h.1⟩

/-- The world has grown: what is known of the others stays. -/
theorem Item.grow {KL : List OpK} {listed : Array Bool} {vals : Nat → Value} {addr : Nat → Nat} {gs : Nat → List Nat} {H : Nat} {a : Act} {w w' : World} {i j d : Nat} {k : OpK} {v : Value} {vals' : Nat → Value} {addr' : Nat → Nat} {gs' : Nat → List Nat} {ki : OpK} (hd : apartD KL = true)
    (hi : KL[i]? = some ki) (hdi : ki.dst = some d) (hl : listed.getD i true = false) (kk : Kp w w')
    (ev : ∀ x, x ≠ i → vals' x = vals x) (ea : ∀ x, x ≠ i → addr' x = addr x) (eg : ∀ x, x ≠ i → gs' x = gs x) (ei : ∀ d cs T, ki = .alloc d cs T → w.heap.size ≤ addr' i)
    (hj : KL[j]? = some k) (hji : j ≠ i) (hlj : listed.getD j false = true) (h : Item KL listed vals addr gs H a w j k) :
    Item KL (listed.setIfInBounds i true) vals' addr' gs' H (a.put (some d) v) w' j k := by
  have ne : ∀ d', k.dst = some d' → d ≠ d' := fun d' e e' => hji (apartD_spec hd hj hi e (by rw [hdi, e']))
  have li : listed.getD i false = false := by
    cases hx : listed.getD i false with
    | false => rfl
    | true =>
      rw [Array.getD_eq_getD_getElem?] at hx hl
      cases he : listed[i]? with
      | none => rw [he] at hx; cases hx
      | some b => rw [he] at hx hl; simp at hx hl; rw [hx] at hl; cases hl
  cases k with
  | pure d' v' => exact (put_ne (ne d' rfl)).trans h
  | call d' G =>
    obtain ⟨h1, h2, h3, h4⟩ := h
    show _ ∧ _ ∧ _ ∧ _
    rw [ev j hji, eg j hji]
    refine ⟨(put_ne (ne d' rfl)).trans h1, h3 w w' (fun x hx => kk.2.2.1 x (h4 x hx).1) h2, h3, fun x hx => ⟨Nat.lt_of_lt_of_le (h4 x hx).1 kk.2.2.2, fun m d1 cs T hm hml => ?_⟩⟩
    by_cases hmi : m = i
    · subst hmi
      rw [hi] at hm
      have := ei d1 cs T (Option.some.inj hm)
      have := (h4 x hx).1
      omega
    · rw [ea m hmi]
      exact (h4 x hx).2 m d1 cs T hm (by rwa [getD_ne (Ne.symm hmi)] at hml)
  | alloc d' cs T =>
    obtain ⟨h1, h2, h3, h4, h5⟩ := h
    show _ ∧ _ ∧ _ ∧ _ ∧ _
    rw [ea j hji]
    refine ⟨(put_ne (ne d' rfl)).trans h1, h2, Nat.lt_of_lt_of_le h3 kk.2.2.2, fun m d1 cs1 T1 hmj hm hml => ?_, fun hs => Blk.kp (h5 fun s ic fl hs1 => ?_) kk⟩
    · by_cases hmi : m = i
      · subst hmi
        rw [hi] at hm
        have := ei d1 cs1 T1 (Option.some.inj hm)
        omega
      · rw [ea m hmi]
        exact h4 m d1 cs1 T1 hmj hm (by rwa [getD_ne (Ne.symm hmi)] at hml)
    · by_cases hsi : s = i
      · subst hsi; exact li
      · have := hs s ic fl hs1
        rwa [getD_ne (Ne.symm hsi)] at this
  | store ia ic fl =>
    intro d1 cs T ha
    obtain ⟨h1, h2, h3⟩ := h d1 cs T ha
    have na : ia ≠ i := fun e => by rw [e, li] at h1; cases h1
    have nc : ic ≠ i := fun e => by rw [e, li] at h2; cases h2
    rw [getD_ne (Ne.symm na), getD_ne (Ne.symm nc), ea ia na, ev ic nc]
    exact ⟨h1, h2, Blk.kp h3 kk⟩
  | same d' m =>
    obtain ⟨h1, h2⟩ := h
    have nm : m ≠ i := fun e => by rw [e, li] at h2; cases h2
    show _ ∧ _
    rw [ev m nm, getD_ne (Ne.symm nm)]
    exact ⟨(put_ne (ne d' rfl)).trans h1, h2⟩

/-- A fresh block is filled: what is known of the others stays. -/
theorem Item.fill {KL : List OpK} {listed : Array Bool} {vals : Nat → Value} {addr : Nat → Nat} {gs : Nat → List Nat} {H : Nat} {a : Act} {w w' : World} {i j ia ic : Nat} {fl : Value → Array Value} {k : OpK}
    (hi : KL[i]? = some (.store ia ic fl)) (ho : onlyStore KL ia i = true) {da : Nat} {cs : Array Value} {T : TypeId} (hia : KL[ia]? = some (.alloc da cs T)) (hla : listed.getD ia false = true) (hisz : i < listed.size) (kk : Mk (addr ia) w w')
    (hst : ∀ (j ia' ic' : Nat) (fl' : Value → Array Value), KL[j]? = some (OpK.store ia' ic' fl') → ∃ (da : Nat) (cs : Array Value) (T : TypeId), KL[ia']? = some (OpK.alloc da cs T)) (hA : Item KL listed vals addr gs H a w ia (.alloc da cs T))
    (hj : KL[j]? = some k) (hji : j ≠ i) (h : Item KL listed vals addr gs H a w j k) :
    Item KL (listed.setIfInBounds i true) vals addr gs H a w' j k := by
  have nia : ∀ m d1 cs1 T1, KL[m]? = some (.alloc d1 cs1 T1) → i ≠ m := fun m d1 cs1 T1 hm e => by rw [← e, hi] at hm; cases hm
  cases k with
  | pure d' v' => exact h
  | call d' G =>
    obtain ⟨h1, h2, h3, h4⟩ := h
    refine ⟨h1, h3 w w' (fun x hx => kk.2.2.1 x (h4 x hx).1 (Ne.symm ((h4 x hx).2 ia _ _ _ hia hla))) h2, h3, fun x hx => ⟨Nat.lt_of_lt_of_le (h4 x hx).1 kk.2.2.2, fun m d1 cs T hm hml => ?_⟩⟩
    exact (h4 x hx).2 m d1 cs T hm (by rwa [getD_ne (nia _ _ _ _ hm)] at hml)
  | alloc d' cs' T' =>
    obtain ⟨h1, h2, h3, h4, h5⟩ := h
    refine ⟨h1, h2, Nat.lt_of_lt_of_le h3 kk.2.2.2, fun m d1 cs1 T1 hmj hm hml => h4 m d1 cs1 T1 hmj hm (by rwa [getD_ne (nia _ _ _ _ hm)] at hml), fun hs => ?_⟩
    by_cases hja : j = ia
    · subst hja
      have := hs i ic fl hi
      rw [Array.getD_eq_getD_getElem?, Array.getElem?_setIfInBounds_self_of_lt hisz] at this
      cases this
    · refine Blk.mk (h5 fun s ic' fl' hs1 => ?_) kk (fun e => h4 ia _ _ _ (Ne.symm hja) hia hla e.symm)
      have := hs s ic' fl' hs1
      by_cases hsi : s = i
      · subst hsi
        rw [hi] at hs1
        cases hs1
        exact absurd rfl hja
      · rwa [getD_ne (Ne.symm hsi)] at this
  | store ia' ic' fl' =>
    intro d1 cs1 T1 ha
    obtain ⟨h1, h2, h3⟩ := h d1 cs1 T1 ha
    have na : ia' ≠ ia := fun e => by
      subst e
      exact hji (onlyStore_spec ho hj)
    refine ⟨by rwa [getD_ne (nia _ _ _ _ ha)], ?_, Blk.mk h3 kk (hA.2.2.2.1 ia' _ _ _ na ha h1)⟩
    by_cases hc : i = ic'
    · subst hc
      rw [Array.getD_eq_getD_getElem?, Array.getElem?_setIfInBounds_self_of_lt hisz]
      rfl
    · rwa [getD_ne hc]
  | same d' m =>
    obtain ⟨h1, h2⟩ := h
    refine ⟨h1, ?_⟩
    by_cases hc : i = m
    · subst hc
      rw [Array.getD_eq_getD_getElem?, Array.getElem?_setIfInBounds_self_of_lt hisz]
      rfl
    · rwa [getD_ne hc]

theorem getD_false {l : Array Bool} {i : Nat} (h : l.getD i true = false) : i < l.size ∧ l[i]? = some false := by
  rw [Array.getD_eq_getD_getElem?] at h
  cases he : l[i]? with
  | none => rw [he] at h; cases h
  | some b =>
    rw [he] at h
    simp at h
    subst h
    exact ⟨(Array.getElem?_eq_some_iff.1 he).1, rfl⟩
theorem listed_cases {l : Array Bool} {i j : Nat} (h : (l.setIfInBounds i true).getD j false = true) : j = i ∨ l.getD j false = true := by
  by_cases hj : i = j
  · exact Or.inl hj.symm
  · rw [getD_ne hj] at h
    exact Or.inr h

set_option maxHeartbeats 1000000 in
theorem regM {ops : Array Oper} {Q : Exit → Act → World → Prop} {id : Nat} {a0 : Act} {w : World} (KL : List OpK) (S : World → Prop)
    (hm : Tryz.prog.follows .mixedOrders = true) (hs : ops.size = KL.length) (hbk : backs ops = true) (hd : apartD KL = true) (hz : ∀ d ∈ KL.filterMap OpK.dst, d < a0.tmps.size)
    (hst : ∀ (j ia' ic' : Nat) (fl' : Value → Array Value), KL[j]? = some (OpK.store ia' ic' fl') → ∃ (da : Nat) (cs : Array Value) (T : TypeId), KL[ia']? = some (OpK.alloc da cs T))
    (hop : ∀ i o k, ops[i]? = some o → KL[i]? = some k → OpOK ops Q KL a0 S w.heap.size i o.after k)
    (hS : S w.drew) (hSk : ∀ a b, Kp a b → S a → S b) (hSm : ∀ A a b, w.heap.size ≤ A → Mk A a b → S a → S b)
    (fin : ∀ (vals : Nat → Value) (addr : Nat → Nat) (w' : World), S w' → w.heap.size ≤ w'.heap.size → (∀ i k, KL[i]? = some k → FinI KL vals addr w.heap.size w' i k) →
      Q .normal ⟨(putsL vals addr 0 KL).foldl (fun t p => t.setIfInBounds p.1 p.2) a0.tmps, a0.defers⟩ w') :
    (Code.region id ops true).wp Tryz.prog Q a0 w := by
  refine wp_region_any hm ?_
  refine wpAny_inv (JM KL a0 S w.heap.size) ?_ ?_ ops.size _ _ _ ?_
  · rintro listed a w1 ⟨j1, j2, sl, hx, hH, vals, addr, gs, it⟩
    have all : ∀ i k, KL[i]? = some k → listed.getD i false = true := fun i k hk => by
      have hi : i < listed.size := by rw [j1]; exact len_of hk
      have e : listed.toList[i]? = some listed[i] := by simp [hi]
      rw [Array.getD_eq_getD_getElem?, Array.getElem?_eq_getElem hi]
      exact count_zero j2.symm e
    refine ⟨?_, ?_⟩
    · apply List.eq_nil_iff_forall_not_mem.2
      intro i hi
      obtain ⟨h1, h2, _⟩ := ready_mem hi
      obtain ⟨hi', h3⟩ := getD_false h2
      have h4 := all i KL[i] (by rw [List.getElem?_eq_getElem])
      rw [Array.getD_eq_getD_getElem?, h3] at h4
      cases h4
    · have ea : a = ⟨(putsL vals addr 0 KL).foldl (fun t p => t.setIfInBounds p.1 p.2) a0.tmps, a0.defers⟩ := by
        obtain ⟨t, df⟩ := a
        obtain ⟨s1, s2, s3⟩ := sl
        have ed : df = a0.defers := s1
        subst ed
        congr 1
        apply Array.ext_getElem?
        intro x
        rcases fold_put (putsL vals addr 0 KL) a0.tmps (fun p hp => hz _ (by rw [← putsL_fst (vals := vals) (addr := addr) 0 KL]; exact List.mem_map_of_mem hp)) (fun p hp q hq e => by
          obtain ⟨i, k, h1, h2, h3⟩ := putsL_mem hp
          obtain ⟨i', k', h1', h2', h3'⟩ := putsL_mem hq
          obtain rfl := apartD_spec hd h1 h1' h2 (by rw [h2', e])
          rw [h1] at h1'
          cases h1'
          rw [h3, h3']) x with ⟨h1, h2⟩ | ⟨p, hp, rfl, h⟩
        · rw [h1]
          rw [putsL_fst] at h2
          exact s3 x h2
        · rw [h]
          obtain ⟨i, k, h1, h2, h3⟩ := putsL_mem hp
          have I := it i k h1 (all i k h1)
          rw [h3, Nat.zero_add]
          cases k with
          | pure d v => cases h2; exact I
          | call d G => cases h2; exact I.1
          | alloc d cs T => cases h2; exact I.1
          | store ia ic fl => cases h2
          | same d j => cases h2; exact I.1
      rw [ea]
      refine fin vals addr w1 hx hH fun i k hk => ?_
      have I := it i k hk (all i k hk)
      cases k with
      | pure d v => trivial
      | call d G => exact I.2.1
      | alloc d cs T => exact ⟨I.2.1, I.2.2.1⟩
      | store ia ic fl => exact fun d cs T ha => (I d cs T ha).2.2
      | same d j => trivial
  · rintro n listed a w1 ⟨j1, j2, sl, hx, hH, vals, addr, gs, it⟩
    refine ⟨?_, fun i hi => ?_⟩
    · have : ∃ i : Nat, listed.toList[i]? = some false := by
        have : false ∈ listed.toList := List.count_pos_iff.1 (by omega)
        exact List.mem_iff_getElem?.1 this
      obtain ⟨i, hi⟩ := this
      have hi' : listed[i]? = some false := by simpa using hi
      have hlt := (Array.getElem?_eq_some_iff.1 hi').1
      exact ready_ne hbk (by rw [hs, j1]) i i (Nat.le_refl _) (by omega) (by rw [Array.getD_eq_getD_getElem?, hi']; rfl)
    · obtain ⟨hi1, hl, hwt⟩ := ready_mem hi
      obtain ⟨hisz, hlf⟩ := getD_false hl
      obtain ⟨o, ho⟩ : ∃ o, ops[i]? = some o := ⟨ops[i], by simp [hi1]⟩
      obtain ⟨k, hk⟩ : ∃ k, KL[i]? = some k := ⟨KL[i], by rw [List.getElem?_eq_getElem]⟩
      have hok := hop i o k ho hk
      have kn : Kn KL o.after a w1 := fun j kj hw hkj => (it j kj hkj (ready_waits hi ho hw)).kn
      have hcount : n = (listed.setIfInBounds i true).toList.count false := by
        have := count_set listed.toList i (by simpa using hlf)
        rw [Array.toList_setIfInBounds]
        omega
      have hsz' : (listed.setIfInBounds i true).size = KL.length := by rw [Array.size_setIfInBounds, j1]
      have lnot : ∀ j, listed.getD j false = true → j ≠ i := fun j hj e => by
        subst e
        rw [Array.getD_eq_getD_getElem?, hlf] at hj
        cases hj
      cases k with
      | pure d v =>
        refine hok a w1 _ sl kn hx ⟨hsz', hcount, sl.put _ _ (mem_dst hk rfl), hx, hH, vals, addr, gs, fun j kj hkj hlj => ?_⟩
        by_cases hji : j = i
        · subst hji
          rw [hk] at hkj
          cases hkj
          exact put_same (by rw [sl.2.1]; exact hz _ (mem_dst hk rfl))
        · have hlj' := (listed_cases hlj).resolve_left hji
          exact (it j kj hkj hlj').grow hd hk rfl hl (Kp.refl _) (fun _ _ => rfl) (fun _ _ => rfl) (fun _ _ => rfl) (fun _ _ _ e => by cases e) hkj hji hlj'
      | call d G =>
        refine hok a w1 _ sl kn hx hH fun v w2 Bs kk hB hdep hG => ⟨hsz', hcount, sl.put _ _ (mem_dst hk rfl), hSk _ _ kk hx, Nat.le_trans hH kk.2.2.2, fun x => if x = i then v else vals x, addr, fun x => if x = i then Bs else gs x, fun j kj hkj hlj => ?_⟩
        by_cases hji : j = i
        · subst hji
          rw [hk] at hkj
          cases hkj
          show _ ∧ _ ∧ _ ∧ _
          simp only [if_pos]
          refine ⟨put_same (by rw [sl.2.1]; exact hz _ (mem_dst hk rfl)), hG, hdep, fun x hx => ⟨(hB x hx).2, fun m d1 cs T hm hml => ?_⟩⟩
          have hmi : m ≠ j := fun e => by subst e; rw [hk] at hm; cases hm
          have hml' := (listed_cases hml).resolve_left hmi
          have := (it m _ hm hml').2.2.1
          have := (hB x hx).1
          omega
        · have hlj' := (listed_cases hlj).resolve_left hji
          exact (it j kj hkj hlj').grow hd hk rfl hl kk (fun x hx => if_neg hx) (fun _ _ => rfl) (fun x hx => if_neg hx) (fun _ _ _ e => by cases e) hkj hji hlj'
      | alloc d cs T =>
        have kk : Kp w1 (w1.alloc (.cells cs T)) := (Kp.refl _).alloc _ _
        refine hok a w1 _ ⟨hsz', hcount, sl.put _ _ (mem_dst hk rfl), hSk _ _ kk hx, Nat.le_trans hH kk.2.2.2, vals, fun x => if x = i then w1.heap.size else addr x, gs, fun j kj hkj hlj => ?_⟩
        by_cases hji : j = i
        · subst hji
          rw [hk] at hkj
          cases hkj
          show _ ∧ _ ∧ _ ∧ _ ∧ _
          simp only [if_pos]
          refine ⟨put_same (by rw [sl.2.1]; exact hz _ (mem_dst hk rfl)), hH, by simp, fun m d1 cs1 T1 hmj hm hml => ?_, fun _ => Blk.new w1 _ _⟩
          rw [if_neg hmj]
          have := (it m _ hm ((listed_cases hml).resolve_left hmj)).2.2.1
          omega
        · have hlj' := (listed_cases hlj).resolve_left hji
          exact (it j kj hkj hlj').grow hd hk rfl hl kk (fun _ _ => rfl) (fun x hx => if_neg hx) (fun _ _ => rfl) (fun _ _ _ e => by rw [if_pos rfl]; exact Nat.le_refl _) hkj hji hlj'
      | store ia ic fl =>
        obtain ⟨da, cs, T, dc, G, h1, h2, w1', w2', h5, h6⟩ := hok
        have la := ready_waits hi ho w1'
        have lc := ready_waits hi ho w2'
        have Ia := it ia _ h1 la
        have Ic := it ic _ h2 lc
        refine h6 a w1 _ (addr ia) (vals ic) Ia.1 Ic.1 Ic.2.1 (Ia.2.2.2.2 fun s ic' fl' hs1 => ?_) fun w2 mk bl => ⟨hsz', hcount, sl, hSm _ _ _ Ia.2.1 mk hx, Nat.le_trans hH mk.2.2.2, vals, addr, gs, fun j kj hkj hlj => ?_⟩
        · obtain rfl := onlyStore_spec h5 hs1
          rw [Array.getD_eq_getD_getElem?, hlf]; rfl
        · by_cases hji : j = i
          · subst hji
            rw [hk] at hkj
            cases hkj
            intro d1 cs1 T1 ha
            rw [h1] at ha
            cases ha
            exact ⟨by rw [getD_ne (Ne.symm (lnot _ la))]; exact la, by rw [getD_ne (Ne.symm (lnot _ lc))]; exact lc, bl⟩
          · have hlj' := (listed_cases hlj).resolve_left hji
            exact Item.fill hk h5 h1 la hisz mk hst Ia hkj hji (it j kj hkj hlj')
      | same d m =>
        obtain ⟨dm, G, h1, w1', h6⟩ := hok
        have lm := ready_waits hi ho w1'
        have Im := it m _ h1 lm
        refine h6 a w1 _ (vals m) Im.1 ⟨hsz', hcount, sl.put _ _ (mem_dst hk rfl), hx, hH, vals, addr, gs, fun j kj hkj hlj => ?_⟩
        by_cases hji : j = i
        · subst hji
          rw [hk] at hkj
          cases hkj
          exact ⟨put_same (by rw [sl.2.1]; exact hz _ (mem_dst hk rfl)), by rw [getD_ne (Ne.symm (lnot _ lm))]; exact lm⟩
        · have hlj' := (listed_cases hlj).resolve_left hji
          exact (it j kj hkj hlj').grow hd hk rfl hl (Kp.refl _) (fun _ _ => rfl) (fun _ _ => rfl) (fun _ _ => rfl) (fun _ _ _ e => by cases e) hkj hji hlj'
  · refine ⟨by rw [Array.size_replicate, hs], by simp, Sl.refl _ _, hS, Nat.le_refl _, fun _ => undef, fun _ => 0, fun _ => [], fun i k hk hl => ?_⟩
    rw [Array.getD_eq_getD_getElem?] at hl
    by_cases hi : i < ops.size
    · simp [hi] at hl
    · simp [hi] at hl

end Go.Proofs.YtgahdjfkmpadoaaGreat

/- 'x, y := CopyMat(..), ..': the kinds of operations that such regions hold (RegM), and what stays beside them. -/
namespace Go.Proofs.YtgahdjfkmpadoaaGreat
open Go.RowKit Go.Shelf Go.Proofs.Wd
set_option linter.unusedVariables false
set_option linter.unusedSimpArgs false
set_option maxRecDepth 10000

def aggOf : Value → Array Value
  | .agg cs => cs
  | _ => #[]
/-- A matrix that was made; it lies beside all below H. -/
def GM (r c : Int) (n : Nat) (Z : Nat → Int) (H : Nat) (v : Value) (w : World) : Prop := ∃ ao cap, v = .agg #[.int .i64 r, .int .i64 c, .slice ao n cap] ∧ n ≤ cap ∧ Row w ao n Z ∧ ∀ U, U < H → Off U n ao
/-- A list that was made. -/
def GI (n : Nat) (Z : Nat → Int) (H : Nat) (v : Value) (w : World) : Prop := ∃ ao cap, v = .slice ao n cap ∧ n ≤ cap ∧ Row w ao n Z ∧ ∀ U, U < H → Off U n ao
theorem row_dep {ao : Option Addr} {n : Nat} {Z : Nat → Int} {w w' : World} (row : Row w' ao n Z) (off : ∀ U, U < w.heap.size → Off U n ao) : ∃ Bs : List Nat, (∀ k ∈ Bs, w.heap.size ≤ k ∧ k < w'.heap.size) ∧ Dep Bs (fun wx => Row wx ao n Z) := by
  by_cases hn : n = 0
  · exact ⟨[], fun _ h => absurd h List.not_mem_nil, fun _ _ _ _ => Or.inl hn⟩
  · rcases row with h0 | ⟨b, o, rfl, hc⟩
    · exact absurd h0 hn
    · refine ⟨[b], fun k hk => ?_, fun w1 w2 he h => ?_⟩
      · rcases List.mem_singleton.1 hk with rfl
        refine ⟨Nat.le_of_not_lt fun hlt => off k hlt (by omega) _ rfl rfl, heap_gt (hc 0 (by omega))⟩
      · rcases h with h0 | ⟨b', o', e, hc'⟩
        · exact absurd h0 hn
        · cases e
          exact Or.inr ⟨b, o, rfl, fun i hi => (World.cell?_of_block (he b (by simp))).trans (hc' i hi)⟩
theorem copyM_dep {r c : Int} {n H : Nat} {Z : Nat → Int} {w w' : World} {e : Ending} (h : CopyM r c n Z w e w') (hH : H ≤ w.heap.size) : ∃ v Bs, e = .returned v ∧ Kp w w' ∧ (∀ k ∈ Bs, w.heap.size ≤ k ∧ k < w'.heap.size) ∧ Dep Bs (GM r c n Z H v) ∧ GM r c n Z H v w' := by
  obtain ⟨ao, cap, rfl, hc, row, off, kp⟩ := h
  obtain ⟨Bs, h1, h2⟩ := row_dep row off
  refine ⟨_, Bs, rfl, kp, h1, fun w1 w2 he hg => ?_, ao, cap, rfl, hc, row, fun U hU => off U (by omega)⟩
  obtain ⟨ao', cap', e, h3, h4, h5⟩ := hg
  cases e
  exact ⟨ao, cap, rfl, h3, h2 w1 w2 he h4, h5⟩
theorem copyQ_dep {n H : Nat} {Z : Nat → Int} {w w' : World} {e : Ending} (h : CopyQ n Z w e w') (hH : H ≤ w.heap.size) : ∃ v Bs, e = .returned v ∧ Kp w w' ∧ (∀ k ∈ Bs, w.heap.size ≤ k ∧ k < w'.heap.size) ∧ Dep Bs (GI n Z H v) ∧ GI n Z H v w' := by
  obtain ⟨ao, cap, rfl, hc, row, off, kp⟩ := h
  obtain ⟨Bs, h1, h2⟩ := row_dep row off
  refine ⟨_, Bs, rfl, kp, h1, fun w1 w2 he hg => ?_, ao, cap, rfl, hc, row, fun U hU => off U (by omega)⟩
  obtain ⟨ao', cap', e, h3, h4, h5⟩ := hg
  cases e
  exact ⟨ao, cap, rfl, h3, h2 w1 w2 he h4, h5⟩

section
variable {ops : Array Oper} {Q : Exit → Act → World → Prop} {KL : List OpK} {a0 : Act} {S : World → Prop} {H i d k j : Nat} {T : TypeId} {pos : String} {aft : Array Edge}
theorem okLoad {B : Nat} {v0 v1 v2 : Value} (hi : ops[i]? = some ⟨some d, .load 24 (.tmp k), T, pos, aft, none⟩) (hk : (KL.filterMap OpK.dst).contains k = false) (g : a0.tmps[k]? = some (.pointer (some ⟨B, 0, none⟩))) (hb : ∀ w, S w → Blk B #[v0, v1, v2] 24 w) : OpOK ops Q KL a0 S H i aft (.pure d (.agg #[v0, v1, v2])) :=
  fun a w K sl kn hs h => wpOp_load hi ((sl.2.2 k (by simpa using hk)).trans g) (hb w hs) h
theorem okMove {v : Value} (hi : ops[i]? = some ⟨some d, .move (.tmp k), T, pos, aft, none⟩) (hk : (KL.filterMap OpK.dst).contains k = false) (g : a0.tmps[k]? = some v) : OpOK ops Q KL a0 S H i aft (.pure d v) := by
  intro a w K sl kn hs h
  refine wpOp_of hi rfl ?_
  have ev := (sl.2.2 k (by simpa using hk)).trans g
  unfold Oper.wp
  simp [go_sem, ev]
  exact h
theorem okCall1 {f dj : Nat} {vj : Value} {T1 : TypeId} {G : Value → World → Prop} (hi : ops[i]? = some ⟨some d, .call ⟨.value (.func f), #[.tmp dj], #[T1]⟩, T, pos, aft, none⟩) (hj : KL[j]? = some (.pure dj vj)) (hw : waits aft j = true) (hf : ∀ w, Sem.run Tryz.prog (callFunc f #[vj]) w = .ok (.enter f #[vj]) w)
    (hc : ∀ w, S w → H ≤ w.heap.size → Calls Tryz.prog f #[vj] w fun e w' => ∃ v Bs, e = .returned v ∧ Kp w w' ∧ (∀ k ∈ Bs, w.heap.size ≤ k ∧ k < w'.heap.size) ∧ Dep Bs (G v) ∧ G v w') : OpOK ops Q KL a0 S H i aft (.call d G) := by
  intro a w K sl kn hs hH h
  refine wpOp_of hi rfl ?_
  have ev := kn.pure j dj vj hw hj
  unfold Oper.wp
  simp [go_sem, ev, hf]
  refine (hc w hs hH).mono ?_
  rintro e w' ⟨v, Bs, rfl, h1, h2, h3, h4⟩
  exact h v w' Bs h1 h2 h3 h4
theorem okAlloc (hi : ops[i]? = some ⟨some d, .alloc 24, T, pos, aft, none⟩) : OpOK ops Q KL a0 S H i aft (.alloc d #[.int .i64 0, .int .i64 0, .slice none 0 0] 24) :=
  fun a w K h => wpOp_alloc hi h
theorem okStore {da dc ia ic : Nat} {r c : Int} {n H' : Nat} {Z : Nat → Int} (hi : ops[i]? = some ⟨none, .store 24 (.tmp da) (.tmp dc), T, pos, aft, none⟩) (h1 : KL[ia]? = some (.alloc da #[.int .i64 0, .int .i64 0, .slice none 0 0] 24)) (h2 : KL[ic]? = some (.call dc (GM r c n Z H'))) (w1 : waits aft ia = true) (w2 : waits aft ic = true) (ho : onlyStore KL ia i = true) : OpOK ops Q KL a0 S H i aft (.store ia ic aggOf) := by
  refine ⟨_, _, _, _, _, h1, h2, w1, w2, ho, fun a w K A v ha hv hG hB h => ?_⟩
  obtain ⟨ao, cap, rfl, _⟩ := hG
  exact wpOp_store hi ha hv hB fun w' m b => h w' (Mk.of m) b
theorem okSame {dj : Nat} {G : Value → World → Prop} (hi : ops[i]? = some ⟨some d, .assign (.tmp dj), T, pos, aft, none⟩) (hj : KL[j]? = some (.call dj G)) (hw : waits aft j = true) : OpOK ops Q KL a0 S H i aft (.same d j) := by
  refine ⟨_, _, hj, hw, fun a w K v hv h => ?_⟩
  refine wpOp_of hi rfl ?_
  unfold Oper.wp
  simp [go_sem, hv]
  exact h
end

/-- Each operation of a region, one behind the other. -/
def OpsOK (ops : Array Oper) (Q : Exit → Act → World → Prop) (KL : List OpK) (a0 : Act) (S : World → Prop) (H : Nat) : Nat → List Oper → List OpK → Prop
  | _, [], _ => True
  | _, _ :: _, [] => False
  | i, o :: os, k :: ks => OpOK ops Q KL a0 S H i o.after k ∧ OpsOK ops Q KL a0 S H (i + 1) os ks
theorem OpsOK.hop {ops : Array Oper} {Q : Exit → Act → World → Prop} {KL : List OpK} {a0 : Act} {S : World → Prop} {H : Nat} : ∀ {i0 : Nat} {os : List Oper} {ks : List OpK}, OpsOK ops Q KL a0 S H i0 os ks → ∀ (i : Nat) (o : Oper) (k : OpK), os[i]? = some o → ks[i]? = some k → OpOK ops Q KL a0 S H (i0 + i) o.after k
  | _, [], _, _, i, o, k, ho, _ => by simp at ho
  | _, _ :: _, [], h, _, _, _, _, _ => h.elim
  | i0, o' :: os, k' :: ks, h, 0, o, k, ho, hk => by
    simp at ho hk
    subst ho hk
    exact h.1
  | i0, o' :: os, k' :: ks, h, i + 1, o, k, ho, hk => by
    have := OpsOK.hop h.2 i o k (by simpa using ho) (by simpa using hk)
    rwa [show i0 + (i + 1) = i0 + 1 + i from by omega]
theorem regN {ops : Array Oper} {Q : Exit → Act → World → Prop} {id : Nat} {a0 : Act} {w : World} (KL : List OpK) (S : World → Prop)
    (hm : Tryz.prog.follows .mixedOrders = true) (hs : ops.size = KL.length) (hbk : backs ops = true) (hd : apartD KL = true) (hz : (KL.filterMap OpK.dst).all (fun d => decide (d < a0.tmps.size)) = true)
    (hst : KL.all (fun k => match k with | .store ia _ _ => (match KL[ia]? with | some (.alloc _ _ _) => true | _ => false) | _ => true) = true)
    (hop : OpsOK ops Q KL a0 S w.heap.size 0 ops.toList KL)
    (hS : S w.drew) (hSk : ∀ a b, Kp a b → S a → S b) (hSm : ∀ A a b, w.heap.size ≤ A → Mk A a b → S a → S b)
    (fin : ∀ (vals : Nat → Value) (addr : Nat → Nat) (w' : World), S w' → w.heap.size ≤ w'.heap.size → (∀ i k, KL[i]? = some k → FinI KL vals addr w.heap.size w' i k) →
      Q .normal ⟨(putsL vals addr 0 KL).foldl (fun t p => t.setIfInBounds p.1 p.2) a0.tmps, a0.defers⟩ w') :
    (Code.region id ops true).wp Tryz.prog Q a0 w := by
  refine regM KL S hm hs hbk hd (fun d hd => by simpa using List.all_eq_true.1 hz d hd) (fun j ia ic fl hj => ?_) (fun i o k ho hk => ?_) hS hSk hSm fin
  · have h := List.all_eq_true.1 hst _ (List.mem_of_getElem? hj)
    simp only at h
    cases hk : KL[ia]? with
    | none => rw [hk] at h; cases h
    | some k =>
      rw [hk] at h
      cases k with
      | alloc d cs T => exact ⟨d, cs, T, rfl⟩
      | pure _ _ => cases h
      | call _ _ => cases h
      | store _ _ _ => cases h
      | same _ _ => cases h
  · have := hop.hop i o k (by simpa using ho) hk
    rwa [Nat.zero_add] at this

/-- What stays beside: boxes and lists, and X. -/
def SL (H : Nat) (w0 : World) (E : List Nat) (bx : List (Nat × Array Value)) (rows : List (Option Addr × Nat × (Nat → Int))) (X : World → Prop) (wx : World) : Prop :=
  LS w0 E bx rows wx ∧ X wx ∧ (∀ A, H ≤ A → OffR A bx rows) ∧ (∀ e ∈ E, e < H) ∧ w0.heap.size ≤ H
section
variable {w0 a b : World} {E : List Nat} {bx : List (Nat × Array Value)} {rows : List (Option Addr × Nat × (Nat → Int))} {X : World → Prop} {H A : Nat}
theorem LS.mkOff (h : LS w0 E bx rows a) (m : Mk A a b) (hw : w0.heap.size ≤ A) (f : OffR A bx rows) : LS w0 E bx rows b :=
  ⟨h.1.mk m hw, fun e he => ⟨(h.2.1 e he).1, Nat.lt_of_lt_of_le (h.2.1 e he).2 m.2.2.2⟩, fun x hx => ⟨Blk.mk (h.2.2.1 x hx).1 m (f.1 x hx), (h.2.2.1 x hx).2⟩, fun r hr => ⟨(h.2.2.2 r hr).1.mk m (f.2 r hr), (h.2.2.2 r hr).2⟩⟩
theorem SL.of (h : LS w0 E bx rows a) (hx : X a) : SL a.heap.size w0 E bx rows X a := ⟨h, hx, fun A hA => h.fresh hA, fun e he => (h.2.1 e he).2, h.1.2.2.2⟩
theorem SL.kp (hX : ∀ a b, Kp a b → X a → X b) (k : Kp a b) (h : SL H w0 E bx rows X a) : SL H w0 E bx rows X b := ⟨h.1.kp k, hX a b k h.2.1, h.2.2⟩
theorem SL.mk (hX : ∀ A a b, H ≤ A → Mk A a b → X a → X b) (hA : H ≤ A) (m : Mk A a b) (h : SL H w0 E bx rows X a) : SL H w0 E bx rows X b := ⟨h.1.mkOff m (Nat.le_trans h.2.2.2.2 hA) (h.2.2.1 A hA), hX A a b hA m h.2.1, h.2.2⟩
theorem LS.boxA {cs : Array Value} (h : LS w0 E bx rows a) (hb : Blk A cs 24 a) (hA : A ∉ E) : LS w0 E ((A, cs) :: bx) rows a :=
  ⟨h.1, h.2.1, fun x hx => by
    rcases List.mem_cons.1 hx with rfl | hx
    · exact ⟨hb, hA⟩
    · exact h.2.2.1 x hx, h.2.2.2⟩
end

end Go.Proofs.YtgahdjfkmpadoaaGreat

/- Laws with a unit and the document's unit under way. -/
namespace Go.Proofs.YtgahdjfkmpadoaaGreat
open Go.RowKit Go.Shelf Go.Proofs.Wd
set_option linter.unusedVariables false
set_option linter.unusedSimpArgs false
set_option maxRecDepth 10000

theorem LS.nilD (w : World) : LS w [] [] [] w := ⟨Kp.refl _, fun _ h => absurd h List.not_mem_nil, fun _ h => absurd h List.not_mem_nil, fun _ h => absurd h List.not_mem_nil⟩
theorem LS.subD {w : World} {E E' : List Nat} {bx bx' : List (Nat × Array Value)} {rows rows' : List (Option Addr × Nat × (Nat → Int))} {wx : World} (h : LS w E bx rows wx) (hE : ∀ x ∈ E', x ∈ E) (hb : ∀ x ∈ bx', x ∈ bx) (hr : ∀ x ∈ rows', x ∈ rows) : LS w E' bx' rows' wx :=
  ⟨h.1, fun e he => h.2.1 e (hE e he), fun b hb' => ⟨(h.2.2.1 b (hb b hb')).1, fun he => (h.2.2.1 b (hb b hb')).2 (hE _ he)⟩, fun r hr' => ⟨(h.2.2.2 r (hr r hr')).1, fun e he => (h.2.2.2 r (hr r hr')).2 e (hE e he)⟩⟩
theorem LS.swapD {w : World} {U V : Nat} {bx : List (Nat × Array Value)} {rows : List (Option Addr × Nat × (Nat → Int))} {wx : World} (h : LS w [V, U] bx rows wx) : LS w [U, V] bx rows wx :=
  h.subD (fun x hx => by simp at hx ⊢; exact hx.symm) (fun _ h => h) (fun _ h => h)
theorem LS.cellsD {w : World} {E : List Nat} {bx : List (Nat × Array Value)} {rows : List (Option Addr × Nat × (Nat → Int))} {wx : World} (h : LS w E bx rows wx) {b : Nat} {x y z : Value} (hb : (b, #[x, y, z]) ∈ bx) : wx.cell? ⟨b, 0, none⟩ = some x ∧ wx.cell? ⟨b, 1, none⟩ = some y ∧ wx.cell? ⟨b, 2, none⟩ = some z := ⟨h.cell hb 0, h.cell hb 1, h.cell hb 2⟩
section
variable {w : World} {U V : Nat} {cu cv cu' cv' : Array Value} {tu tv : TypeId} {bx : List (Nat × Array Value)} {rows : List (Option Addr × Nat × (Nat → Int))} {wx w' : World} {r c err : Int} {len : Nat} {Z : Nat → Int} {e : Ending}
theorem TS.toldDoc (h : TS w U V cu tu cv tv bx rows wx) (m : DocP r c len Z err (fun w' => Blk V cv' tv w' ∧ Mk V wx w') wx e w') :
    ∃ ao cap, e = .returned (.tuple #[.agg #[.int .i64 r, .int .i64 c, .slice ao len cap], .int .i64 err]) ∧ len ≤ cap ∧ TS w U V cu tu cv' tv bx ((ao, len, Z) :: rows) w' := by
  obtain ⟨ao, cap, rfl, h1, h2, h3, h4, h5⟩ := m
  have t := h.mkV h5 h4
  exact ⟨ao, cap, rfl, h1, t.1, t.2.1, t.2.2.1, t.2.2.2.row h2 (fun e he => h3 e (h.2.2.2.2.1 e he).2)⟩
theorem TS.listDoc (h : TS w U V cu tu cv tv bx rows wx) (m : LiD len Z err (fun w' => Blk V cv' tv w' ∧ Mk V wx w') wx e w') :
    ∃ ao cap, e = .returned (.tuple #[.slice ao len cap, .int .i64 err]) ∧ len ≤ cap ∧ TS w U V cu tu cv' tv bx ((ao, len, Z) :: rows) w' := by
  obtain ⟨ao, cap, rfl, h1, h2, h3, h4, h5⟩ := m
  have t := h.mkV h5 h4
  exact ⟨ao, cap, rfl, h1, t.1, t.2.1, t.2.2.1, t.2.2.2.row h2 (fun e he => h3 e (h.2.2.2.2.1 e he).2)⟩
theorem TS.listU (h : TS w U V cu tu cv tv bx rows wx) (m : ListP len Z err (fun w' => Blk U cu' tu w' ∧ Mk U wx w') wx e w') :
    ∃ ao cap, e = .returned (.tuple #[.slice ao len cap, .int .i64 err]) ∧ len ≤ cap ∧ TS w U V cu' tu cv tv bx ((ao, len, Z) :: rows) w' := by
  obtain ⟨ao, cap, B, rfl, h1, h2, h3, h4, h5⟩ := m
  have t := h.mkU h5 h4
  refine ⟨ao, cap, rfl, h3, t.1, t.2.1, t.2.2.1, t.2.2.2.row ?_ (fun e he => ?_)⟩
  · rcases h2 with rfl | ⟨rfl, hb⟩
    · exact Or.inl rfl
    · exact hb.row
  · rcases h2 with rfl | ⟨rfl, hb⟩
    · exact fun hl => absurd hl (Nat.lt_irrefl _)
    · exact fun _ a ha => by cases ha; have := (h.2.2.2.2.1 e he).2; show B ≠ e; omega
end
end Go.Proofs.YtgahdjfkmpadoaaGreat

/- Laws with blocks that are written, each with what it holds; what a call has made, and what is written over. -/
namespace Go.Proofs.YtgahdjfkmpadoaaGreat
open Go.RowKit Go.Shelf Go.Proofs.Wd
set_option linter.unusedVariables false
set_option linter.unusedSimpArgs false
set_option maxRecDepth 10000

/-- es: what may be written. -/
def RS (w : World) (es : List (Nat × (World → Prop))) (bx : List (Nat × Array Value)) (rows : List (Option Addr × Nat × (Nat → Int))) (wx : World) : Prop :=
  (∀ c ∈ es, c.2 wx ∧ Dep [c.1] c.2) ∧ (es.map Prod.fst).Nodup ∧ LS w (es.map Prod.fst) bx rows wx
/-- A list of numbers that a call made, if there are any. -/
def OW (w : World) (es : List (Nat × (World → Prop))) (bx : List (Nat × Array Value)) (rows : List (Option Addr × Nat × (Nat → Int))) (B : Nat) (ao : Option Addr) (len : Nat) (Z : Nat → Int) (wx : World) : Prop :=
  len = 0 ∨ (ao = some ⟨B, 0, none⟩ ∧ Own B len Z wx ∧ w.heap.size ≤ B ∧ B ∉ es.map Prod.fst ∧ OffR B bx rows)
def TD (w : World) (es : List (Nat × (World → Prop))) (bx : List (Nat × Array Value)) (rows : List (Option Addr × Nat × (Nat → Int))) (B : Nat) (ao : Option Addr) (len : Nat) (Z : Nat → Int) (wx : World) : Prop :=
  RS w es bx rows wx ∧ OW w es bx rows B ao len Z wx
def UP (U : Nat) (c : Bool) (D : Int) (wx : World) : Prop := ∃ n, 0 ≤ n ∧ n ≤ D ∧ UC U c n wx
def RP (R : Nat) (c : Bool) (D : Int) (wx : World) : Prop := ∃ n, 0 ≤ n ∧ n ≤ D ∧ RC R c n wx
theorem blk_dep (A : Nat) (cs : Array Value) (T : TypeId) : Dep [A] (Blk A cs T) := fun w w' h k => (h A (by simp)).trans k
theorem up_dep (U : Nat) (c : Bool) (D : Int) : Dep [U] (UP U c D) := fun w w' h ⟨n, h1, h2, h3⟩ => ⟨n, h1, h2, (h U (by simp)).trans h3⟩
theorem rp_dep (R : Nat) (c : Bool) (D : Int) : Dep [R] (RP R c D) := fun w w' h ⟨n, h1, h2, h3⟩ => ⟨n, h1, h2, (h R (by simp)).trans h3⟩
theorem mid_ne {pre post : List Nat} {A x : Nat} (h : (pre ++ A :: post).Nodup) (hx : x ∈ pre ∨ x ∈ post) : x ≠ A := by
  obtain ⟨h1, h2, h3⟩ := List.nodup_append.1 h
  rcases hx with hx | hx
  · exact h3 x hx A List.mem_cons_self
  · intro e
    subst e
    exact (List.nodup_cons.1 h2).1 hx
section
variable {w : World} {es pre post : List (Nat × (World → Prop))} {bx : List (Nat × Array Value)} {rows : List (Option Addr × Nat × (Nat → Int))} {wx w' : World} {A B : Nat} {p p' : World → Prop} {ao : Option Addr} {len : Nat} {Z : Nat → Int}
theorem RS.lt (h : RS w es bx rows wx) {c : Nat × (World → Prop)} (hc : c ∈ es) : c.1 < wx.heap.size ∧ w.heap.size ≤ c.1 := ⟨(h.2.2.2.1 c.1 (List.mem_map_of_mem hc)).2, (h.2.2.2.1 c.1 (List.mem_map_of_mem hc)).1⟩
theorem RS.kp (h : RS w es bx rows wx) (k : Kp wx w') : RS w es bx rows w' :=
  ⟨fun c hc => ⟨(h.1 c hc).2 wx w' (fun q hq => by rw [List.mem_singleton.1 hq]; exact k.2.2.1 _ (h.lt hc).1) (h.1 c hc).1, (h.1 c hc).2⟩, h.2.1, h.2.2.kp k⟩
theorem RS.mk (pre : List (Nat × (World → Prop))) (h : RS w (pre ++ (A, p) :: post) bx rows wx) (m : Mk A wx w') (hp : p' w') (hd : Dep [A] p') : RS w (pre ++ (A, p') :: post) bx rows w' := by
  have hn : (pre.map Prod.fst ++ A :: post.map Prod.fst).Nodup := by have := h.2.1; rwa [List.map_append, List.map_cons] at this
  have e : (pre ++ (A, p') :: post).map Prod.fst = (pre ++ (A, p) :: post).map Prod.fst := by rw [List.map_append, List.map_append, List.map_cons, List.map_cons]
  refine ⟨fun c hc => ?_, by rw [e]; exact h.2.1, by rw [e]; exact h.2.2.mk (by simp) m⟩
  have old : ∀ c, c ∈ pre ∨ c ∈ post → c.2 w' ∧ Dep [c.1] c.2 := fun c hc => by
    have hm : c ∈ pre ++ (A, p) :: post := by
      rcases hc with hc | hc
      · exact List.mem_append_left _ hc
      · exact List.mem_append_right _ (List.mem_cons_of_mem _ hc)
    have hne : c.1 ≠ A := mid_ne hn (hc.imp (List.mem_map_of_mem) (List.mem_map_of_mem))
    exact ⟨(h.1 c hm).2 wx w' (fun q hq => by rw [List.mem_singleton.1 hq]; exact m.2.2.1 _ (h.lt hm).1 hne) (h.1 c hm).1, (h.1 c hm).2⟩
  rcases List.mem_append.1 hc with hc | hc
  · exact old c (Or.inl hc)
  · rcases List.mem_cons.1 hc with rfl | hc
    · exact ⟨hp, hd⟩
    · exact old c (Or.inr hc)
theorem RS.mkOff (h : RS w es bx rows wx) (m : Mk A wx w') (hA : A ∉ es.map Prod.fst) (hw : w.heap.size ≤ A) (f : OffR A bx rows) : RS w es bx rows w' :=
  ⟨fun c hc => ⟨(h.1 c hc).2 wx w' (fun q hq => by rw [List.mem_singleton.1 hq]; exact m.2.2.1 _ (h.lt hc).1 (fun e => hA (e ▸ List.mem_map_of_mem hc))) (h.1 c hc).1, (h.1 c hc).2⟩, h.2.1, h.2.2.mkOff m hw f⟩
theorem RS.push (h : RS w es bx rows wx) (k : Kp wx w') (hA : wx.heap.size ≤ A ∧ A < w'.heap.size) (hp : p w') (hd : Dep [A] p) : RS w ((A, p) :: es) bx rows w' := by
  have r := h.kp k
  refine ⟨fun c hc => ?_, ?_, r.2.2.1, fun e he => ?_, fun b hb => ⟨(r.2.2.2.2.1 b hb).1, fun he => ?_⟩, fun q hq => ⟨(r.2.2.2.2.2 q hq).1, fun e he => ?_⟩⟩
  · rcases List.mem_cons.1 hc with rfl | hc
    · exact ⟨hp, hd⟩
    · exact r.1 c hc
  · rw [List.map_cons]
    exact List.nodup_cons.2 ⟨fun he => by have := (h.2.2.2.1 A he).2; omega, h.2.1⟩
  · rw [List.map_cons] at he
    rcases List.mem_cons.1 he with rfl | he
    · exact ⟨Nat.le_trans h.2.2.1.2.2.2 hA.1, hA.2⟩
    · exact r.2.2.2.1 e he
  · rw [List.map_cons] at he
    rcases List.mem_cons.1 he with e | he
    · have h2 := (Blk.lt (h.2.2.2.2.1 b hb).1)
      have : b.1 = A := e
      omega
    · exact (r.2.2.2.2.1 b hb).2 he
  · rw [List.map_cons] at he
    rcases List.mem_cons.1 he with rfl | he
    · exact (h.2.2.2.2.2 q hq).1.off hA.1
    · exact (r.2.2.2.2.2 q hq).2 e he
theorem RS.box (h : RS w es bx rows wx) (cs : Array Value) : RS w es ((wx.heap.size, cs) :: bx) rows (wx.alloc (.cells cs 24)) := by
  have r := h.kp (Kp.of ((Grown.refl wx).alloc cs 24))
  exact ⟨r.1, r.2.1, h.2.2.box cs⟩
theorem RS.row (h : RS w es bx rows wx) (r : Row wx ao len Z) (ho : ∀ e ∈ es.map Prod.fst, Off e len ao) : RS w es bx ((ao, len, Z) :: rows) wx := ⟨h.1, h.2.1, h.2.2.row r ho⟩
theorem RS.cells (h : RS w es bx rows wx) {b : Nat} {x y z : Value} (hb : (b, #[x, y, z]) ∈ bx) : wx.cell? ⟨b, 0, none⟩ = some x ∧ wx.cell? ⟨b, 1, none⟩ = some y ∧ wx.cell? ⟨b, 2, none⟩ = some z := ⟨h.2.2.cell hb 0, h.2.2.cell hb 1, h.2.2.cell hb 2⟩
/-- Cells of a box that is written. -/
theorem RS.own (h : RS w es bx rows wx) {b : Nat} {x y z : Value} {T : TypeId} (hb : (b, Blk b #[x, y, z] T) ∈ es) : wx.cell? ⟨b, 0, none⟩ = some x ∧ wx.cell? ⟨b, 1, none⟩ = some y ∧ wx.cell? ⟨b, 2, none⟩ = some z := ⟨Blk.cell (h.1 _ hb).1 0, Blk.cell (h.1 _ hb).1 1, Blk.cell (h.1 _ hb).1 2⟩
theorem RS.at (h : RS w es bx rows wx) (hr : (ao, len, Z) ∈ rows) : Row wx ao len Z ∧ ∀ e, e ∈ es.map Prod.fst → Off e len ao := h.2.2.at hr
theorem RS.sub {rows' : List (Option Addr × Nat × (Nat → Int))} (h : RS w es bx rows wx) (hr : ∀ x ∈ rows', x ∈ rows) : RS w es bx rows' wx := ⟨h.1, h.2.1, h.2.2.subD (fun _ h => h) (fun _ h => h) hr⟩
theorem OffR.sub {rows' : List (Option Addr × Nat × (Nat → Int))} (h : OffR A bx rows) (hr : ∀ x ∈ rows', x ∈ rows) : OffR A bx rows' := ⟨h.1, fun r h' => h.2 r (hr r h')⟩
theorem TD.kp (h : TD w es bx rows B ao len Z wx) (k : Kp wx w') : TD w es bx rows B ao len Z w' := ⟨h.1.kp k, h.2.imp id fun ⟨h1, h2, h3⟩ => ⟨h1, h2.kp k, h3⟩⟩
theorem TD.mk (pre : List (Nat × (World → Prop))) (h : TD w (pre ++ (A, p) :: post) bx rows B ao len Z wx) (m : Mk A wx w') (hp : p' w') (hd : Dep [A] p') : TD w (pre ++ (A, p') :: post) bx rows B ao len Z w' := by
  refine ⟨h.1.mk pre m hp hd, h.2.imp id fun ⟨h1, h2, h3, h4, h5⟩ => ⟨h1, h2.mk m (fun e => h4 (by rw [e]; simp)), h3, ?_, h5⟩⟩
  rw [List.map_append, List.map_cons] at h4 ⊢
  exact h4
theorem TD.push (h : TD w es bx rows B ao len Z wx) (k : Kp wx w') (hA : wx.heap.size ≤ A ∧ A < w'.heap.size) (hp : p w') (hd : Dep [A] p) : TD w ((A, p) :: es) bx rows B ao len Z w' := by
  refine ⟨h.1.push k hA hp hd, h.2.imp id fun ⟨h1, h2, h3, h4, h5⟩ => ⟨h1, h2.kp k, h3, ?_, h5⟩⟩
  rw [List.map_cons]
  intro he
  rcases List.mem_cons.1 he with e | he
  · obtain ⟨_, b1, _⟩ := h2
    have := Blk.lt b1
    omega
  · exact h4 he
theorem TD.row {bo : Option Addr} {l2 : Nat} {Z2 : Nat → Int} {H : Nat} (h : TD w es bx rows B ao len Z wx) (r : Row wx bo l2 Z2) (ho : ∀ U, U < H → Off U l2 bo) (hE : ∀ e ∈ es.map Prod.fst, e < H) (hB : len = 0 ∨ B < H) : TD w es bx ((bo, l2, Z2) :: rows) B ao len Z wx := by
  refine ⟨h.1.row r (fun e he => ho e (hE e he)), ?_⟩
  rcases hB with hB | hB
  · exact Or.inl hB
  · refine h.2.imp id fun ⟨h1, h2, h3, h4, h5⟩ => ⟨h1, h2, h3, h4, h5.1, fun q hq => ?_⟩
    rcases List.mem_cons.1 hq with rfl | hq
    · exact ho B hB
    · exact h5.2 q hq
/-- A call of the program that tells a matrix. -/
theorem RS.callU {U F : Nat} {args : Array Value} {c : Bool} {D : Int} {q : SO} (pre : List (Nat × (World → Prop))) (D' : Int) (h : RS w (pre ++ (U, UP U c D) :: post) bx rows wx) (hD : D ≤ 1000000000) (hD' : D + 10000 ≤ D')
    (m : ∀ n0, 0 ≤ n0 ∧ n0 < 1000000000000000000 → UC U c n0 wx → Calls Tryz.prog F args wx fun e w' => SymP q.r q.c q.len q.Z q.err (UX U q.cut n0 10000 wx) wx e w') :
    Calls Tryz.prog F args wx fun e w' => ∃ ao cap B, e = .returned (.tuple #[.agg #[.int .i64 q.r, .int .i64 q.c, .slice ao q.len cap], .int .i64 q.err]) ∧ q.len ≤ cap ∧ TD w (pre ++ (U, UP U q.cut D') :: post) bx rows B ao q.len q.Z w' := by
  obtain ⟨n0, h1, h2, h3⟩ : UP U c D wx := (h.1 (U, UP U c D) (by simp)).1
  refine (m n0 ⟨h1, by omega⟩ h3).mono ?_
  rintro e w' ⟨ao, cap, B, rfl, hc, hB, ho, ⟨k, k1, k2, hu⟩, hm⟩
  have r := h.mk (p' := UP U q.cut D') pre hm ⟨k, by omega, by omega, hu⟩ (up_dep U q.cut D')
  refine ⟨ao, cap, B, rfl, hc, r, ho.imp id fun ⟨e1, e2⟩ => ⟨e1, e2, Nat.le_trans h.2.2.1.2.2.2 hB, fun he => ?_, h.2.2.fresh hB⟩⟩
  rw [List.map_append, List.map_cons] at he
  have := (h.2.2.2.1 B (by rw [List.map_append, List.map_cons]; exact he)).2
  omega
/-- A call of the document's that tells a matrix. -/
theorem TD.callR {R F : Nat} {args : Array Value} {c : Bool} {D : Int} {q : SO} (pre : List (Nat × (World → Prop))) (D' : Int) (h : TD w (pre ++ (R, RP R c D) :: post) bx rows B ao len Z wx) (hD : D ≤ 1000000000) (hD' : D + 10000 ≤ D')
    (m : ∀ n0, 0 ≤ n0 ∧ n0 < 1000000000000000000 → RC R c n0 wx → Calls Tryz.prog F args wx fun e w' => DocP q.r q.c q.len q.Z q.err (RX R q.cut n0 10000 wx) wx e w') :
    Calls Tryz.prog F args wx fun e w' => ∃ bo cap, e = .returned (.tuple #[.agg #[.int .i64 q.r, .int .i64 q.c, .slice bo q.len cap], .int .i64 q.err]) ∧ q.len ≤ cap ∧ TD w (pre ++ (R, RP R q.cut D') :: post) bx ((bo, q.len, q.Z) :: rows) B ao len Z w' := by
  obtain ⟨n0, h1, h2, h3⟩ : RP R c D wx := (h.1.1 (R, RP R c D) (by simp)).1
  refine (m n0 ⟨h1, by omega⟩ h3).mono ?_
  rintro e w' ⟨bo, cap, rfl, hc, hr, ho, ⟨k, k1, k2, hu⟩, hm⟩
  have r := h.mk (p' := RP R q.cut D') pre hm ⟨k, by omega, by omega, hu⟩ (rp_dep R q.cut D')
  refine ⟨bo, cap, rfl, hc, r.row hr ho (fun e he => ?_) (h.2.imp id fun ⟨_, ⟨_, b1, _⟩, _⟩ => Blk.lt b1)⟩
  rw [List.map_append, List.map_cons] at he
  exact (h.1.2.2.2.1 e (by rw [List.map_append, List.map_cons]; exact he)).2
/-- Numbers. -/
theorem RS.numU {U F : Nat} {args : Array Value} {c : Bool} {D : Int} {q : SO} (pre : List (Nat × (World → Prop))) (D' : Int) (h : RS w (pre ++ (U, UP U c D) :: post) bx rows wx) (hD : D ≤ 1000000000) (hD' : D + 10000 ≤ D')
    (m : ∀ n0, 0 ≤ n0 ∧ n0 < 1000000000000000000 → UC U c n0 wx → Calls Tryz.prog F args wx fun e w' => e = .returned (.tuple #[.int .i64 q.r, .int .i64 q.err]) ∧ UX U q.cut n0 10000 wx w') :
    Calls Tryz.prog F args wx fun e w' => e = .returned (.tuple #[.int .i64 q.r, .int .i64 q.err]) ∧ RS w (pre ++ (U, UP U q.cut D') :: post) bx rows w' := by
  obtain ⟨n0, h1, h2, h3⟩ : UP U c D wx := (h.1 (U, UP U c D) (by simp)).1
  refine (m n0 ⟨h1, by omega⟩ h3).mono ?_
  rintro e w' ⟨rfl, ⟨k, k1, k2, hu⟩, hm⟩
  exact ⟨rfl, h.mk (p' := UP U q.cut D') pre hm ⟨k, by omega, by omega, hu⟩ (up_dep U q.cut D')⟩
theorem RS.numR {R F : Nat} {args : Array Value} {c : Bool} {D : Int} {q : SO} (pre : List (Nat × (World → Prop))) (D' : Int) (h : RS w (pre ++ (R, RP R c D) :: post) bx rows wx) (hD : D ≤ 1000000000) (hD' : D + 10000 ≤ D')
    (m : ∀ n0, 0 ≤ n0 ∧ n0 < 1000000000000000000 → RC R c n0 wx → Calls Tryz.prog F args wx fun e w' => e = .returned (.tuple #[.int .i64 q.r, .int .i64 q.err]) ∧ RX R q.cut n0 10000 wx w') :
    Calls Tryz.prog F args wx fun e w' => e = .returned (.tuple #[.int .i64 q.r, .int .i64 q.err]) ∧ RS w (pre ++ (R, RP R q.cut D') :: post) bx rows w' := by
  obtain ⟨n0, h1, h2, h3⟩ : RP R c D wx := (h.1 (R, RP R c D) (by simp)).1
  refine (m n0 ⟨h1, by omega⟩ h3).mono ?_
  rintro e w' ⟨rfl, ⟨k, k1, k2, hu⟩, hm⟩
  exact ⟨rfl, h.mk (p' := RP R q.cut D') pre hm ⟨k, by omega, by omega, hu⟩ (rp_dep R q.cut D')⟩
/-- What was made is written over. -/
theorem TD.over {cap : Nat} (hl : len ≤ 1000000) (h : TD w es bx rows B ao len Z wx) :
    Calls Tryz.prog 33 #[.slice ao len cap] wx fun e w' => e = .returned (.tuple #[]) ∧ RS w es bx rows w' := by
  obtain ⟨h, ho⟩ := h
  rcases ho with hz | ⟨h1, h2, h3, h4, h5⟩
  · refine (kitOverI wx.heap.size ao len cap Z hl wx (Or.inl hz)).mono ?_
    rintro e w' ⟨rfl, m⟩
    exact ⟨rfl, h.kp (Mk.fresh (Mk.of m))⟩
  · refine (kitOverI B ao len cap Z hl wx (Or.inr ⟨h1, h2⟩)).mono ?_
    rintro e w' ⟨rfl, m⟩
    exact ⟨rfl, h.mkOff (Mk.of m) h4 h3 h5⟩
theorem TD.own (h : TD w es bx rows B ao len Z wx) : Row wx ao len Z := h.2.elim Or.inl fun ⟨h1, h2, _⟩ => by subst h1; exact h2.row
theorem TD.sub {rows' : List (Option Addr × Nat × (Nat → Int))} (h : TD w es bx rows B ao len Z wx) (hr : ∀ x ∈ rows', x ∈ rows) : TD w es bx rows' B ao len Z wx := ⟨h.1.sub hr, h.2.imp id fun ⟨h1, h2, h3, h4, h5⟩ => ⟨h1, h2, h3, h4, h5.sub hr⟩⟩
end

end Go.Proofs.YtgahdjfkmpadoaaGreat

/- The law's helper like. -/
namespace Go.Proofs.YtgahdjfkmpadoaaGreat
open Go.RowKit Go.Shelf Go.Proofs.Wd
set_option linter.unusedVariables false
set_option linter.unusedSimpArgs false
set_option maxRecDepth 10000

set_option maxRecDepth 20000 in
set_option maxHeartbeats 4000000 in
theorem lawLike {w : World} {es : List (Nat × (World → Prop))} {bx : List (Nat × Array Value)} {rows : List (Option Addr × Nat × (Nat → Int))} {wx : World} {Bo : Nat} {ao : Option Addr} {len : Nat} {Z : Nat → Int} {U R : Nat} {c : Bool} {D : Int} (r cc err : Int) (bo : Option Addr) (cap capb : Nat) (hl : len ≤ 144) (h : TD w es bx ((bo, len, Z) :: rows) Bo ao len Z wx) (hU : (U, UP U c D) ∈ es) (hR : (R, RP R c D) ∈ es) :
    Calls Tryz.prog 12 #[.pointer (some ⟨U, 0, none⟩), .pointer (some ⟨R, 0, none⟩), .agg #[.int .i64 r, .int .i64 cc, .slice ao len cap], .int .i64 err, .agg #[.int .i64 r, .int .i64 cc, .slice bo len capb], .int .i64 err] wx fun e w' => e = .returned (.bool true) ∧ RS w es bx rows w' := by
  have HL := hide hl
  have HE := hide (And.intro hU hR)
  have S0 : Hid (TD w es bx ((bo, len, Z) :: rows) Bo ao len Z ((wx.alloc (.cells #[.int .i64 r, .int .i64 cc, .slice ao len cap] 24)).alloc (.cells #[.int .i64 r, .int .i64 cc, .slice bo len capb] 24)) ∧ Blk wx.heap.size #[.int .i64 r, .int .i64 cc, .slice ao len cap] 24 ((wx.alloc (.cells #[.int .i64 r, .int .i64 cc, .slice ao len cap] 24)).alloc (.cells #[.int .i64 r, .int .i64 cc, .slice bo len capb] 24)) ∧ Blk (wx.heap.size + 1) #[.int .i64 r, .int .i64 cc, .slice bo len capb] 24 ((wx.alloc (.cells #[.int .i64 r, .int .i64 cc, .slice ao len cap] 24)).alloc (.cells #[.int .i64 r, .int .i64 cc, .slice bo len capb] 24))) :=
    ⟨h.kp (Kp.of (((Grown.refl _).alloc _ _).alloc _ _)), Blk.grown (Blk.new wx _ _) ((Grown.refl _).alloc _ _), blk_new2 _ _ _ _⟩
  clear h hl hU hR
  go_enter Tryz.func12, Tryz.ntmps12
  go_wp2_with fail
  generalize ((wx.alloc (.cells #[.int .i64 r, .int .i64 cc, .slice ao len cap] 24)).alloc (.cells #[.int .i64 r, .int .i64 cc, .slice bo len capb] 24)) = w0 at *
  have CW : Hid (∀ wy, Kp w0 wy → wy.cell? ⟨wx.heap.size, 0, none⟩ = some (.int .i64 r) ∧ wy.cell? ⟨wx.heap.size, 1, none⟩ = some (.int .i64 cc) ∧ wy.cell? ⟨wx.heap.size, 2, none⟩ = some (.slice ao len cap) ∧ wy.cell? ⟨wx.heap.size + 1, 0, none⟩ = some (.int .i64 r) ∧ wy.cell? ⟨wx.heap.size + 1, 1, none⟩ = some (.int .i64 cc) ∧ wy.cell? ⟨wx.heap.size + 1, 2, none⟩ = some (.slice bo len capb) ∧ wy.cell? ⟨R, 0, none⟩ = some (.bool c)) := fun wy k => by
    obtain ⟨n, _, _, hu⟩ : RP R c D wy := (((unhide S0).1.kp k).1.1 _ (unhide HE).2).1
    have b1 := Blk.kp (unhide S0).2.1 k
    have b2 := Blk.kp (unhide S0).2.2 k
    exact ⟨Blk.cell b1 0, Blk.cell b1 1, Blk.cell b1 2, Blk.cell b2 0, Blk.cell b2 1, Blk.cell b2 2, hu.c0⟩
  have SM : Hid (∀ wy, Kp w0 wy → Calls Tryz.prog 22 #[.agg #[.int .i64 r, .int .i64 cc, .slice ao len cap], .agg #[.int .i64 r, .int .i64 cc, .slice bo len capb]] wy fun e w' => e = .returned (.bool true) ∧ Kp wy w') := fun wy k =>
    kitSameM r cc ao bo len cap capb Z (by have := unhide HL; omega) wy ((unhide S0).1.kp k).own (((unhide S0).1.kp k).1.at (ao := bo) (len := len) (Z := Z) (by simp)).1
  have CU : Hid (∀ wy, Kp w0 wy → Calls Tryz.prog 19 #[.pointer (some ⟨U, 0, none⟩)] wy fun e w' => e = .returned (.bool c) ∧ w' = wy) := fun wy k => by
    obtain ⟨n, _, _, hu⟩ : UP U c D wy := (((unhide S0).1.kp k).1.1 _ (unhide HE).1).1
    exact unitCut U c n wy hu
  obtain ⟨x0, x1, x2, x3, x4, x5, x6⟩ := unhide CW w0 (Kp.refl _)
  go_region_held3 (fun w' => w'.cell? ⟨wx.heap.size, 0, none⟩ = some (.int .i64 r) ∧ w'.cell? ⟨wx.heap.size, 1, none⟩ = some (.int .i64 cc) ∧ w'.cell? ⟨wx.heap.size, 2, none⟩ = some (.slice ao len cap) ∧ w'.cell? ⟨wx.heap.size + 1, 0, none⟩ = some (.int .i64 r) ∧ w'.cell? ⟨wx.heap.size + 1, 1, none⟩ = some (.int .i64 cc) ∧ w'.cell? ⟨wx.heap.size + 1, 2, none⟩ = some (.slice bo len capb) ∧ w'.cell? ⟨R, 0, none⟩ = some (.bool c))
      (simp [go_sem, *])
      (first
        | (go_at_call 22; refine (unhide SM w0.drew (Kp.refl w0)).mono ?_; rintro e w2 ⟨rfl, k2⟩; have K2 : Hid (Kp w0 w2) := k2; obtain ⟨y0, y1, y2, y3, y4, y5, y6⟩ := unhide CW w2 (unhide K2); have CU2 := hide (unhide CU w2 (unhide K2)); clear k2 SM CU)
        | (go_at_call 19; refine (unhide CU2).mono ?_; clear CU2; rintro e w3 ⟨rfl, hw⟩; subst hw))
  have S3 := hide (((unhide S0).1.kp (unhide K2)).sub (rows' := rows) (fun x hx => List.mem_cons_of_mem _ hx))
  clear x0 x1 x2 x3 x4 x5 x6 y3 y4 y5 y6 K2 CW S0 HE
  go_wp2_with fail
  refine ((unhide S3).over (cap := cap) (by have := unhide HL; omega)).mono ?_
  rintro e w4 ⟨rfl, s4⟩
  have S4 := hide s4
  clear s4 S3 y0 y1 y2
  go_wp2
  go_ret
  exact ⟨rfl, unhide S4⟩

end Go.Proofs.YtgahdjfkmpadoaaGreat

/- The laws' helper awake of stage 8. -/
namespace Go.Proofs.YtgahdjfkmpadoaaGreat
open Go.RowKit Go.Shelf Go.Proofs.Wd
set_option linter.unusedVariables false
set_option linter.unusedSimpArgs false
set_option maxRecDepth 10000

theorem ixI64 (l : List Int) (h : ∀ x ∈ l, -9223372036854775808 ≤ x ∧ x ≤ 9223372036854775807) (n : Nat) (hn : l.length = n) : ∀ i, i < n → I64 (ix l i) := by
  intro i hi
  have : ix l i = l[i] := by simp [ix, hn, hi]
  rw [this]
  have q := h l[i] (List.getElem_mem _)
  unfold I64
  omega
theorem aw1 : ∀ i, i < 4 → evenZ (ix [1, 2, 5, 4]) 2 i = ix [1, 4, 4, 4] i := fun i hi =>
  (evenZ_q _ 2 i hi).trans ((show ∀ i, i < 4 → evQ (ix [1, 2, 5, 4]) 2 i = ix [1, 4, 4, 4] i by decide +kernel) i hi)
theorem aw1c : orC (upC (evC (ix [1, 2, 5, 4]) 2) 1 2) 4 = false := by decide +kernel
theorem aw2 : ∀ i, i < 4 → evenZ (mulZ (mulZ (ix [4294967296, 4294967296, 0, 4294967296]) (ix [4294967296, 0, 0, 4294967296]) 2 2) (turnZ (ix [4294967296, 4294967296, 0, 4294967296]) 2 2) 2 2) 2 i = ix [8589934592, 4294967296, 4294967296, 4294967296] i := fun i hi =>
  (evenZ_q _ 2 i hi).trans ((show ∀ i, i < 4 → evQ (mulZ (mulZ (ix [4294967296, 4294967296, 0, 4294967296]) (ix [4294967296, 0, 0, 4294967296]) 2 2) (turnZ (ix [4294967296, 4294967296, 0, 4294967296]) 2 2) 2 2) 2 i = ix [8589934592, 4294967296, 4294967296, 4294967296] i by decide +kernel) i hi)
theorem aw2c : (orC (mulG (ix [4294967296, 4294967296, 0, 4294967296]) (ix [4294967296, 0, 0, 4294967296]) 2 2) (2 * 2) || orC (mulG (mulZ (ix [4294967296, 4294967296, 0, 4294967296]) (ix [4294967296, 0, 0, 4294967296]) 2 2) (turnZ (ix [4294967296, 4294967296, 0, 4294967296]) 2 2) 2 2) (2 * 2) || orC (upC (evC (mulZ (mulZ (ix [4294967296, 4294967296, 0, 4294967296]) (ix [4294967296, 0, 0, 4294967296]) 2 2) (turnZ (ix [4294967296, 4294967296, 0, 4294967296]) 2 2) 2 2) 2) 1 2) (2 * 2)) = false := by decide +kernel
theorem aw3 : isB 2 2 4 (ix [1, 4, 4, 4]) = true := isB_yes (n := 2) ⟨by omega, by omega, by decide⟩ (fun a c h1 h2 => by
  obtain ⟨rfl, rfl⟩ : a = 1 ∧ c = 0 := by omega
  decide)
theorem aw4 : isB 2 2 4 (ix [1, 2, 5, 4]) = false := isB_not (n := 2) (a := 1) (c := 0) (by omega) (by omega) (by decide)


set_option maxRecDepth 20000 in
set_option maxHeartbeats 8000000 in
theorem lawSymAwake (w : World) : Calls Tryz.prog 7 #[] w fun e w' => e = .returned (.bool true) ∧ Kp w w' := by
  have N1 := hide (unitNew w)
  have hU := Nat.le_refl w.heap.size
  generalize e : w.heap.size = U at N1 hU
  replace hU : w.heap.size ≤ U := by omega
  have HE := hide hU
  clear e hU
  go_enter Tryz.func7, Tryz.ntmps7
  go_wp2_with fail
  refine (unhide N1).mono ?_
  rintro e w1 ⟨rfl, h1, g1⟩
  have S1 : Hid (KS w U (fun c => c = false) 0 [] [] w1) := KS.start (unhide HE) h1 g1 rfl
  clear h1 g1 N1
  have S2 := hide ((unhide S1).lit [1, 2, 5, 4])
  go_wp2_with fail
  generalize hw2 : w1.alloc (.cells #[.int .i64 1, .int .i64 2, .int .i64 5, .int .i64 4] 3) = w2 at *
  have S2' : Hid (KS w U (fun c => c = false) 0 [] [(some ⟨w1.heap.size, 0, none⟩, 4, ix [1, 2, 5, 4])] w2) := by rw [← hw2]; exact unhide S2
  clear hw2 S2 S1
  generalize w1.heap.size = L1 at *
  refine (lawTwo _ 4 4 w2).mono ?_
  rintro e w3 ⟨rfl, g3⟩
  have S3 := hide ((unhide S2').kp (Kp.of g3))
  clear g3 S2'
  go_wp2_with fail
  refine (KS.toldS 144 (unhide S3) (by omega) (by decide) (fun c hc => by subst hc; exact aw1c) (fun c0 n0 hn hu => evenR U 2 (by omega) 4 rfl (some ⟨L1, 0, none⟩) 4 (ix [1, 2, 5, 4]) (ixI64 _ (by simp) 4 rfl) w3 ((unhide S3).row (by simp)) c0 n0 hn hu)).mono ?_
  rintro e w4 ⟨a1, p1, rfl, hp1, S4⟩
  have S5 := hide ((S4.congr aw1).box #[.int .i64 2, .int .i64 2, .slice a1 4 p1])
  have HP1 := hide hp1
  clear S4 S3 hp1
  generalize hw5 : w4.alloc (.cells #[.int .i64 2, .int .i64 2, .slice a1 4 p1] 24) = w5 at S5
  have L5 := hide ((unhide S5).lit [4294967296, 4294967296, 0, 4294967296])
  go_wp2_with fail
  clear hw5
  generalize hw6 : w5.alloc (.cells #[.int .i64 4294967296, .int .i64 4294967296, .int .i64 0, .int .i64 4294967296] 3) = w6 at *
  have S6 : Hid (KS w U (fun c => c = false) 144 [(w4.heap.size, #[.int .i64 2, .int .i64 2, .slice a1 4 p1])] [(some ⟨w5.heap.size, 0, none⟩, 4, ix [4294967296, 4294967296, 0, 4294967296]), (a1, 4, ix [1, 4, 4, 4]), (some ⟨L1, 0, none⟩, 4, ix [1, 2, 5, 4])] w6) := by rw [← hw6]; exact unhide L5
  clear hw6 L5 S5
  refine (lawTwo _ 4 4 w6).mono ?_
  rintro e w7 ⟨rfl, g7⟩
  have S7 := hide ((unhide S6).kp (Kp.of g7))
  clear g7 S6
  have L7 := hide ((unhide S7).lit [4294967296, 0, 0, 4294967296])
  go_wp2_with fail
  generalize hw8 : w7.alloc (.cells #[.int .i64 4294967296, .int .i64 0, .int .i64 0, .int .i64 4294967296] 3) = w8 at *
  have S8 : Hid (KS w U (fun c => c = false) 144 [(w4.heap.size, #[.int .i64 2, .int .i64 2, .slice a1 4 p1])] [(some ⟨w7.heap.size, 0, none⟩, 4, ix [4294967296, 0, 0, 4294967296]), (some ⟨w5.heap.size, 0, none⟩, 4, ix [4294967296, 4294967296, 0, 4294967296]), (a1, 4, ix [1, 4, 4, 4]), (some ⟨L1, 0, none⟩, 4, ix [1, 2, 5, 4])] w8) := by rw [← hw8]; exact unhide L7
  clear hw8 L7 S7
  generalize w7.heap.size = L2 at *
  generalize w5.heap.size = L3 at *
  refine (lawTwo _ 4 4 w8).mono ?_
  rintro e w9 ⟨rfl, g9⟩
  have S9 := hide ((unhide S8).kp (Kp.of g9))
  clear g9 S8
  go_wp2_with fail
  refine (KS.toldS 10144 (unhide S9) (by omega) (by decide) (fun c hc => by subst hc; exact aw2c) (fun c0 n0 hn hu => sandR U 2 2 (by omega) (by omega) 4 4 rfl rfl (some ⟨L3, 0, none⟩) (some ⟨L2, 0, none⟩) 4 4 (by omega) (ix [4294967296, 4294967296, 0, 4294967296]) (ix [4294967296, 0, 0, 4294967296]) (ixI64 _ (by simp) 4 rfl) (ixI64 _ (by simp) 4 rfl) w9 ((unhide S9).row (by simp)) ((unhide S9).row (by simp)) c0 n0 hn hu)).mono ?_
  rintro e w10 ⟨a2, p2, rfl, hp2, S10⟩
  have S11 := hide ((S10.congr aw2).box #[.int .i64 2, .int .i64 2, .slice a2 4 p2])
  clear S10 S9 hp2
  simp only [show 2 * 2 = 4 from rfl] at S11 ⊢
  go_wp2_with fail
  generalize w10.alloc (.cells #[.int .i64 2, .int .i64 2, .slice a2 4 p2] 24) = w11 at *
  have CW : Hid (∀ wx, Kp w11 wx → wx.cell? ⟨w4.heap.size, 0, none⟩ = some (.int .i64 2) ∧ wx.cell? ⟨w4.heap.size, 1, none⟩ = some (.int .i64 2) ∧ wx.cell? ⟨w4.heap.size, 2, none⟩ = some (.slice a1 4 p1) ∧ wx.cell? ⟨w10.heap.size, 0, none⟩ = some (.int .i64 2) ∧ wx.cell? ⟨w10.heap.size, 1, none⟩ = some (.int .i64 2) ∧ wx.cell? ⟨w10.heap.size, 2, none⟩ = some (.slice a2 4 p2)) := fun wx k => by
    have h := (unhide S11).kp k
    obtain ⟨x0, x1, x2⟩ := h.cells (b := w4.heap.size) (x := .int .i64 2) (y := .int .i64 2) (z := .slice a1 4 p1) (by simp)
    exact ⟨x0, x1, x2, h.cells (b := w10.heap.size) (x := .int .i64 2) (y := .int .i64 2) (z := .slice a2 4 p2) (by simp)⟩
  have Rc : Hid (∀ wx, Kp w11 wx → Row wx a1 4 (ix [1, 4, 4, 4])) := fun wx k => (((unhide S11).kp k).row (ao := a1) (len := 4) (Z := ix [1, 4, 4, 4]) (by simp)).1
  have Rd : Hid (∀ wx, Kp w11 wx → Row wx a2 4 (ix [8589934592, 4294967296, 4294967296, 4294967296])) := fun wx k => (((unhide S11).kp k).row (ao := a2) (len := 4) (Z := ix [8589934592, 4294967296, 4294967296, 4294967296]) (by simp)).1
  obtain ⟨x1, x2, x3, x4, x5, x6⟩ := unhide CW w11 (Kp.refl _)
  have hz1 : w4.heap.size < w11.heap.size := heap_gt x1
  have hz2 : w10.heap.size < w11.heap.size := heap_gt x4
  have KD : Hid (Kp w11 (w11.alloc (.cells #[.int .i64 1, .int .i64 4, .int .i64 4, .int .i64 4] 3)).drew) := (Kp.refl w11).alloc _ _
  have RD : Hid (Row (w11.alloc (.cells #[.int .i64 1, .int .i64 4, .int .i64 4, .int .i64 4] 3)).drew (some ⟨w11.heap.size, 0, none⟩) 4 (ix [1, 4, 4, 4])) := row_lit (l := [1, 4, 4, 4]) (Blk.new w11 _ _)
  have KW := hide (unhide S11).2.1
  clear S11
  have T1 := hide (fun a n c w => lawTwo a n c w)
  have T2 := hide (fun a n c w => lawTwo a n c w)
  have T3 := hide (fun a n c w => lawTwo a n c w)
  have I1 := hide (fun w r => symIsAny 2 2 a1 4 p1 (ix [1, 4, 4, 4]) w r)
  rw [aw3] at I1
  have I2 := hide (fun b w r => symIsAny 2 2 (some ⟨b, 0, none⟩) 4 4 (ix [1, 2, 5, 4]) w r)
  rw [aw4] at I2
  go_region_held3 (fun w' => w'.cell? ⟨w4.heap.size, 0, none⟩ = some (.int .i64 2) ∧ w'.cell? ⟨w4.heap.size, 1, none⟩ = some (.int .i64 2) ∧ w'.cell? ⟨w4.heap.size, 2, none⟩ = some (.slice a1 4 p1) ∧ w'.cell? ⟨w10.heap.size, 0, none⟩ = some (.int .i64 2) ∧ w'.cell? ⟨w10.heap.size, 1, none⟩ = some (.int .i64 2) ∧ w'.cell? ⟨w10.heap.size, 2, none⟩ = some (.slice a2 4 p2))
      (simp [go_sem, *])
      (first
        | (go_at_call 24; refine (unhide T1 _ _ _ _).mono ?_; clear T1; rintro e w12 ⟨rfl, g12⟩; have K12 : Hid (Kp w11 w12) := ((unhide KD).grown g12); have R12 := hide ((unhide RD).grown g12); obtain ⟨y1, y2, y3, y4, y5, y6⟩ := unhide CW w12 (unhide K12); have hya := heap_gt y1; have hyb := heap_gt y4; clear g12 KD RD)
        | (go_at_call 25; refine (lawIs 2 2 a1 (some ⟨w11.heap.size, 0, none⟩) 4 p1 4 (ix [1, 4, 4, 4]) (by omega) _ (unhide Rc _ (unhide K12)) (unhide R12)).mono ?_; clear R12; rintro e w13 ⟨rfl, k13⟩; have K13 : Hid (Kp w11 w13) := ((unhide K12).trans k13); obtain ⟨z1, z2, z3, z4, z5, z6⟩ := unhide CW w13 (unhide K13); have hza := heap_gt z1; have hzb := heap_gt z4; have KE : Hid (Kp w11 (w13.alloc (.cells #[.int .i64 8589934592, .int .i64 4294967296, .int .i64 4294967296, .int .i64 4294967296] 3)) ∧ Row (w13.alloc (.cells #[.int .i64 8589934592, .int .i64 4294967296, .int .i64 4294967296, .int .i64 4294967296] 3)) (some ⟨w13.heap.size, 0, none⟩) 4 (ix [8589934592, 4294967296, 4294967296, 4294967296])) := ⟨(unhide K13).alloc _ _, row_lit (l := [8589934592, 4294967296, 4294967296, 4294967296]) (Blk.new w13 _ _)⟩; clear k13)
        | (go_at_call 24; refine (unhide T2 _ _ _ _).mono ?_; clear T2; rintro e w14 ⟨rfl, g14⟩; have K14 : Hid (Kp w11 w14) := ((unhide KE).1.grown g14); have R14 := hide ((unhide KE).2.grown g14); obtain ⟨v1, v2, v3, v4, v5, v6⟩ := unhide CW w14 (unhide K14); have hva := heap_gt v1; have hvb := heap_gt v4; clear g14 KE)
        | (go_at_call 25; refine (lawIs 2 2 a2 (some ⟨w13.heap.size, 0, none⟩) 4 p2 4 (ix [8589934592, 4294967296, 4294967296, 4294967296]) (by omega) _ (unhide Rd _ (unhide K14)) (unhide R14)).mono ?_; clear R14; rintro e w15 ⟨rfl, k15⟩; have K15 : Hid (Kp w11 w15) := ((unhide K14).trans k15); obtain ⟨t1, t2, t3, t4, t5, t6⟩ := unhide CW w15 (unhide K15); have hta := heap_gt t1; have htb := heap_gt t4; clear k15)
        | (go_at_call 20; refine (unhide I1 _ (unhide Rc _ (unhide K15))).mono ?_; clear I1; rintro e w16 ⟨rfl, k16⟩; have K16 : Hid (Kp w11 w16) := ((unhide K15).trans k16); obtain ⟨s1, s2, s3, s4, s5, s6⟩ := unhide CW w16 (unhide K16); have hsa := heap_gt s1; have hsb := heap_gt s4; have KF : Hid (Kp w11 (w16.alloc (.cells #[.int .i64 1, .int .i64 2, .int .i64 5, .int .i64 4] 3)) ∧ Row (w16.alloc (.cells #[.int .i64 1, .int .i64 2, .int .i64 5, .int .i64 4] 3)) (some ⟨w16.heap.size, 0, none⟩) 4 (ix [1, 2, 5, 4])) := ⟨(unhide K16).alloc _ _, row_lit (l := [1, 2, 5, 4]) (Blk.new w16 _ _)⟩; clear k16)
        | (go_at_call 24; refine (unhide T3 _ _ _ _).mono ?_; clear T3; rintro e w17 ⟨rfl, g17⟩; have K17 : Hid (Kp w11 w17) := ((unhide KF).1.grown g17); have R17 := hide ((unhide KF).2.grown g17); obtain ⟨r1, r2, r3, r4, r5, r6⟩ := unhide CW w17 (unhide K17); have hra := heap_gt r1; have hrb := heap_gt r4; clear g17 KF)
        | (go_at_call 20; refine (unhide I2 _ _ (unhide R17)).mono ?_; clear I2 R17; rintro e w18 ⟨rfl, k18⟩; have K18 : Hid (Kp w11 w18) := ((unhide K17).trans k18); obtain ⟨q1, q2, q3, q4, q5, q6⟩ := unhide CW w18 (unhide K18); have hqa := heap_gt q1; have hqb := heap_gt q4; clear k18))
  go_wp2
  go_ret
  exact ⟨rfl, (unhide KW).trans (unhide K18)⟩


end Go.Proofs.YtgahdjfkmpadoaaGreat

/- More kinds of operations that such regions hold (RegN): values that are read, calls of three. -/
namespace Go.Proofs.YtgahdjfkmpadoaaGreat
open Go.RowKit Go.Shelf Go.Proofs.Wd
set_option linter.unusedVariables false
set_option linter.unusedSimpArgs false
set_option maxRecDepth 10000

section
variable {ops : Array Oper} {Q : Exit → Act → World → Prop} {KL : List OpK} {a0 : Act} {S : World → Prop} {H i d k j : Nat} {T : TypeId} {pos : String} {aft : Array Edge}
theorem okY0 {o : Oper} {v vk : Value} (hi : ops[i]? = some o) (hd : o.dst = some d) (hg : o.guard = none) (hk : (KL.filterMap OpK.dst).contains k = false) (g : a0.tmps[k]? = some vk) (hrun : ∀ a : Act, a.tmps[k]? = some vk → ∀ w, (execOp a.eval o).run Tryz.prog w = .ok (.value v) w) : OpOK ops Q KL a0 S H i o.after (.pure d v) :=
  fun a w K sl kn hs h => YieldsIf.wpOp (S := S) (v := v) hi (Or.inl ⟨by simp [Region.wanted, hg], fun w' _ => hrun a ((sl.2.2 k (by simpa using hk)).trans g) w'⟩) hs (by rw [hd]; exact h)
theorem okYJ {o : Oper} {v vj : Value} {dj : Nat} (hi : ops[i]? = some o) (hd : o.dst = some d) (hg : o.guard = none) (hj : KL[j]? = some (.pure dj vj)) (hw : waits o.after j = true) (hrun : ∀ a : Act, a.tmps[dj]? = some vj → ∀ w, S w → (execOp a.eval o).run Tryz.prog w = .ok (.value v) w) : OpOK ops Q KL a0 S H i o.after (.pure d v) :=
  fun a w K sl kn hs h => YieldsIf.wpOp (S := S) (v := v) hi (Or.inl ⟨by simp [Region.wanted, hg], fun w' hs' => hrun a (kn.pure j dj vj hw hj) w' hs'⟩) hs (by rw [hd]; exact h)
theorem okCall3 {f d1 d2 d3 j1 j2 j3 : Nat} {v1 v2 v3 : Value} {T1 T2 T3 : TypeId} {G : Value → World → Prop} (hi : ops[i]? = some ⟨some d, .call ⟨.value (.func f), #[.tmp d1, .tmp d2, .tmp d3], #[T1, T2, T3]⟩, T, pos, aft, none⟩) (h1 : KL[j1]? = some (.pure d1 v1)) (h2 : KL[j2]? = some (.pure d2 v2)) (h3 : KL[j3]? = some (.pure d3 v3)) (w1 : waits aft j1 = true) (w2 : waits aft j2 = true) (w3 : waits aft j3 = true) (hf : ∀ w, Sem.run Tryz.prog (callFunc f #[v1, v2, v3]) w = .ok (.enter f #[v1, v2, v3]) w)
    (hc : ∀ w, S w → H ≤ w.heap.size → Calls Tryz.prog f #[v1, v2, v3] w fun e w' => ∃ v Bs, e = .returned v ∧ Kp w w' ∧ (∀ k ∈ Bs, w.heap.size ≤ k ∧ k < w'.heap.size) ∧ Dep Bs (G v) ∧ G v w') : OpOK ops Q KL a0 S H i aft (.call d G) := by
  intro a w K sl kn hs hH h
  refine wpOp_of hi rfl ?_
  have e1 := kn.pure j1 d1 v1 w1 h1
  have e2 := kn.pure j2 d2 v2 w2 h2
  have e3 := kn.pure j3 d3 v3 w3 h3
  unfold Oper.wp
  simp [go_sem, e1, e2, e3, hf]
  refine (hc w hs hH).mono ?_
  rintro e w' ⟨v, Bs, rfl, h1, h2, h3, h4⟩
  exact h v w' Bs h1 h2 h3 h4
end

end Go.Proofs.YtgahdjfkmpadoaaGreat

/- SymReckons. -/
namespace Go.Proofs.YtgahdjfkmpadoaaGreat
open Go.RowKit Go.Shelf Go.Proofs.Wd
set_option linter.unusedVariables false
set_option linter.unusedSimpArgs false
set_option maxRecDepth 10000


set_option maxRecDepth 50000 in
set_option maxHeartbeats 8000000 in
theorem lawSymReckons_not (R1 C1 R2 C2 s : Int) (hs : I64 s) (a1 a2 xo : Option Addr) (l1 p1 l2 p2 xl xc : Nat) (A B X : Nat → Int) (h1 : l1 ≤ p1) (h2 : l2 ≤ p2) (iA : ∀ i, i < l1 → I64 (A i)) (iB : ∀ i, i < l2 → I64 (B i)) (iX : ∀ i, i < xl → I64 (X i)) (z1 : a1 = none → l1 = 0 ∧ p1 = 0) (z2 : a2 = none → l2 = 0 ∧ p2 = 0) (zx : xo = none → xl = 0 ∧ xc = 0) (w : World) (ra : Row w a1 l1 A) (rb : Row w a2 l2 B) (rx : Row w xo xl X) (hc : 200 < l1 ∨ 200 < l2 ∨ 20 < xl) :
    Calls Tryz.prog 3 #[.agg #[.int .i64 R1, .int .i64 C1, .slice a1 l1 p1], .agg #[.int .i64 R2, .int .i64 C2, .slice a2 l2 p2], .slice xo xl xc, .int .i64 s] w fun e w' => e = .returned (.bool true) ∧ Kp w w' := by
  have HC := hide hc
  clear hc iA iB iX z1 z2 zx h1 h2 hs
  have L0 := hide (((((LS.nilD w).row ra (by simp)).row rb (by simp)).row rx (by simp)).box2 #[.int .i64 R1, .int .i64 C1, .slice a1 l1 p1] #[.int .i64 R2, .int .i64 C2, .slice a2 l2 p2])
  have LA := hide (fun w => lawBig R1 C1 a1 l1 p1 w)
  have LB := hide (fun w => lawBig R2 C2 a2 l2 p2 w)
  clear ra rb rx
  go_enter Tryz.func3, Tryz.ntmps3
  go_wp2_with fail
  generalize (w.alloc (.cells #[.int .i64 R1, .int .i64 C1, .slice a1 l1 p1] 24)).alloc (.cells #[.int .i64 R2, .int .i64 C2, .slice a2 l2 p2] 24) = w0 at *
  refine (unitNew w0).mono ?_
  rintro e w1 ⟨rfl, u1, g1⟩
  have L1 : Hid (RS w [(w0.heap.size, UP w0.heap.size false 0)] [(w.heap.size + 1, #[.int .i64 R2, .int .i64 C2, .slice a2 l2 p2]), (w.heap.size, #[.int .i64 R1, .int .i64 C1, .slice a1 l1 p1])] [(xo, xl, X), (a2, l2, B), (a1, l1, A)] w1) := RS.push (es := []) (wx := w0) ⟨fun _ h => absurd h List.not_mem_nil, List.nodup_nil, unhide L0⟩ (Kp.of g1) ⟨Nat.le_refl _, Blk.lt u1⟩ ⟨0, by omega, by omega, u1⟩ (up_dep _ _ _)
  clear u1 g1 L0
  go_wp2_with fail
  refine (refUNew w1).mono ?_
  rintro e w2 ⟨rfl, u2, g2⟩
  have L2 : Hid (RS w [(w1.heap.size, RP w1.heap.size false 0), (w0.heap.size, UP w0.heap.size false 0)] [(w.heap.size + 1, #[.int .i64 R2, .int .i64 C2, .slice a2 l2 p2]), (w.heap.size, #[.int .i64 R1, .int .i64 C1, .slice a1 l1 p1])] [(xo, xl, X), (a2, l2, B), (a1, l1, A)] w2) := (unhide L1).push (Kp.of g2) ⟨Nat.le_refl _, Blk.lt u2⟩ ⟨0, by omega, by omega, u2⟩ (rp_dep _ _ _)
  clear u2 g2 L1
  generalize w0.heap.size = U at *
  generalize w1.heap.size = R at *
  obtain ⟨x0, x1, x2⟩ := (unhide L2).cells (b := w.heap.size) (x := .int .i64 R1) (y := .int .i64 C1) (z := .slice a1 l1 p1) (by simp)
  obtain ⟨y0, y1, y2⟩ := (unhide L2).cells (b := w.heap.size + 1) (x := .int .i64 R2) (y := .int .i64 C2) (z := .slice a2 l2 p2) (by simp)

  by_cases q1 : 200 < l1
  · rw [decide_eq_true q1] at LA
    clear q1 HC
    go_wp2_with fail
    refine (unhide LA _).mono ?_
    rintro e w3 ⟨rfl, g3⟩
    have L3 := hide ((unhide L2).kp (Kp.of g3))
    clear x0 x1 x2 y0 y1 y2 g3 L2 LA
    obtain ⟨y0, y1, y2⟩ := (unhide L3).cells (b := w.heap.size + 1) (x := .int .i64 R2) (y := .int .i64 C2) (z := .slice a2 l2 p2) (by simp)

    go_wp2_with fail
    refine (lawSymAwake _).mono ?_
    rintro e wz ⟨rfl, kz⟩
    have LZ := hide ((unhide L3).kp kz)
    clear kz L3
    go_wp2
    go_ret
    exact ⟨rfl, (unhide LZ).2.2.1⟩

  · rw [decide_eq_false q1] at LA
    go_wp2_with fail
    refine (unhide LA _).mono ?_
    rintro e w3 ⟨rfl, g3⟩
    have L3 := hide ((unhide L2).kp (Kp.of g3))
    clear x0 x1 x2 y0 y1 y2 g3 L2 LA
    obtain ⟨y0, y1, y2⟩ := (unhide L3).cells (b := w.heap.size + 1) (x := .int .i64 R2) (y := .int .i64 C2) (z := .slice a2 l2 p2) (by simp)

    by_cases q2 : 200 < l2
    · rw [decide_eq_true q2] at LB
      clear q1 q2 HC
      go_wp2_with fail
      refine (unhide LB _).mono ?_
      rintro e w4 ⟨rfl, g4⟩
      have L4 := hide ((unhide L3).kp (Kp.of g4))
      clear g4 L3 y0 y1 y2 LB

      go_wp2_with fail
      refine (lawSymAwake _).mono ?_
      rintro e wz ⟨rfl, kz⟩
      have LZ := hide ((unhide L4).kp kz)
      clear kz L4
      go_wp2
      go_ret
      exact ⟨rfl, (unhide LZ).2.2.1⟩

    · rw [decide_eq_false q2] at LB
      have d3 : decide ((20 : Int) < (xl : Int)) = true := decide_eq_true (by have := unhide HC; omega)
      clear q1 q2 HC
      go_wp2_with fail
      refine (unhide LB _).mono ?_
      rintro e w4 ⟨rfl, g4⟩
      have L4 := hide ((unhide L3).kp (Kp.of g4))
      clear g4 L3 y0 y1 y2 LB

      go_wp2_with fail
      refine (lawSymAwake _).mono ?_
      rintro e wz ⟨rfl, kz⟩
      have LZ := hide ((unhide L4).kp kz)
      clear kz L4
      go_wp2
      go_ret
      exact ⟨rfl, (unhide LZ).2.2.1⟩



set_option maxRecDepth 50000 in
set_option maxHeartbeats 32000000 in
theorem lawSymReckons_ok (R1 C1 R2 C2 s : Int) (hs : I64 s) (a1 a2 xo : Option Addr) (l1 p1 l2 p2 xl xc : Nat) (A B X : Nat → Int) (h1 : l1 ≤ p1) (h2 : l2 ≤ p2) (iA : ∀ i, i < l1 → I64 (A i)) (iB : ∀ i, i < l2 → I64 (B i)) (iX : ∀ i, i < xl → I64 (X i)) (z1 : a1 = none → l1 = 0 ∧ p1 = 0) (z2 : a2 = none → l2 = 0 ∧ p2 = 0) (zx : xo = none → xl = 0 ∧ xc = 0) (w : World) (ra : Row w a1 l1 A) (rb : Row w a2 l2 B) (rx : Row w xo xl X) (hc : l1 ≤ 200 ∧ l2 ≤ 200 ∧ xl ≤ 20) :
    Calls Tryz.prog 3 #[.agg #[.int .i64 R1, .int .i64 C1, .slice a1 l1 p1], .agg #[.int .i64 R2, .int .i64 C2, .slice a2 l2 p2], .slice xo xl xc, .int .i64 s] w fun e w' => e = .returned (.bool true) ∧ Kp w w' := by
  have HC := hide hc
  have HA := hide (And.intro iA (And.intro iB (And.intro iX hs)))
  have HP := hide (And.intro h1 h2)
  have K1 := hide (fun w hr => kitCopyM R1 C1 a1 l1 p1 A (by omega) z1 w hr)
  have K2 := hide (fun w hr => kitCopyM R2 C2 a2 l2 p2 B (by omega) z2 w hr)
  have K3 := hide (fun w hr => kitCopyC xo xl xc X (by omega) zx w hr)
  clear hc iA iB iX z1 z2 zx h1 h2 hs
  have L0 := hide (((((LS.nilD w).row ra (by simp)).row rb (by simp)).row rx (by simp)).box2 #[.int .i64 R1, .int .i64 C1, .slice a1 l1 p1] #[.int .i64 R2, .int .i64 C2, .slice a2 l2 p2])
  have LA := hide (fun w => lawBig R1 C1 a1 l1 p1 w)
  have LB := hide (fun w => lawBig R2 C2 a2 l2 p2 w)
  clear ra rb rx
  go_enter Tryz.func3, Tryz.ntmps3
  go_wp2_with fail
  generalize (w.alloc (.cells #[.int .i64 R1, .int .i64 C1, .slice a1 l1 p1] 24)).alloc (.cells #[.int .i64 R2, .int .i64 C2, .slice a2 l2 p2] 24) = w0 at *
  refine (unitNew w0).mono ?_
  rintro e w1 ⟨rfl, u1, g1⟩
  have L1 : Hid (RS w [(w0.heap.size, UP w0.heap.size false 0)] [(w.heap.size + 1, #[.int .i64 R2, .int .i64 C2, .slice a2 l2 p2]), (w.heap.size, #[.int .i64 R1, .int .i64 C1, .slice a1 l1 p1])] [(xo, xl, X), (a2, l2, B), (a1, l1, A)] w1) := RS.push (es := []) (wx := w0) ⟨fun _ h => absurd h List.not_mem_nil, List.nodup_nil, unhide L0⟩ (Kp.of g1) ⟨Nat.le_refl _, Blk.lt u1⟩ ⟨0, by omega, by omega, u1⟩ (up_dep _ _ _)
  clear u1 g1 L0
  go_wp2_with fail
  refine (refUNew w1).mono ?_
  rintro e w2 ⟨rfl, u2, g2⟩
  have L2 : Hid (RS w [(w1.heap.size, RP w1.heap.size false 0), (w0.heap.size, UP w0.heap.size false 0)] [(w.heap.size + 1, #[.int .i64 R2, .int .i64 C2, .slice a2 l2 p2]), (w.heap.size, #[.int .i64 R1, .int .i64 C1, .slice a1 l1 p1])] [(xo, xl, X), (a2, l2, B), (a1, l1, A)] w2) := (unhide L1).push (Kp.of g2) ⟨Nat.le_refl _, Blk.lt u2⟩ ⟨0, by omega, by omega, u2⟩ (rp_dep _ _ _)
  clear u2 g2 L1
  generalize w0.heap.size = U at *
  generalize w1.heap.size = R at *
  obtain ⟨x0, x1, x2⟩ := (unhide L2).cells (b := w.heap.size) (x := .int .i64 R1) (y := .int .i64 C1) (z := .slice a1 l1 p1) (by simp)
  obtain ⟨y0, y1, y2⟩ := (unhide L2).cells (b := w.heap.size + 1) (x := .int .i64 R2) (y := .int .i64 C2) (z := .slice a2 l2 p2) (by simp)

  rw [decide_eq_false (by have := unhide HC; omega)] at LA LB
  have d3 : decide ((20 : Int) < (xl : Int)) = false := decide_eq_false (by have := unhide HC; omega)
  go_wp2_with fail
  refine (unhide LA _).mono ?_
  rintro e w3 ⟨rfl, g3⟩
  have L3 := hide ((unhide L2).kp (Kp.of g3))
  clear x0 x1 x2 y0 y1 y2 g3 L2 LA
  obtain ⟨y0, y1, y2⟩ := (unhide L3).cells (b := w.heap.size + 1) (x := .int .i64 R2) (y := .int .i64 C2) (z := .slice a2 l2 p2) (by simp)
  go_wp2_with fail
  refine (unhide LB _).mono ?_
  rintro e w4 ⟨rfl, g4⟩
  have L4 := hide ((unhide L3).kp (Kp.of g4))
  clear g4 L3 y0 y1 y2 LB
  go_wp2_with fail
  clear d3
  have XK : Hid (∀ a b, Kp a b → (fun wx => RP R false 0 wx ∧ UP U false 0 wx) a → (fun wx => RP R false 0 wx ∧ UP U false 0 wx) b) := fun a b k ⟨⟨n, n1, n2, n3⟩, ⟨m, m1, m2, m3⟩⟩ => ⟨⟨n, n1, n2, Blk.kp n3 k⟩, ⟨m, m1, m2, Blk.kp m3 k⟩⟩
  have nU : U < w4.heap.size := ((unhide L4).lt (c := (U, UP U false 0)) (by simp)).1
  have nR : R < w4.heap.size := ((unhide L4).lt (c := (R, RP R false 0)) (by simp)).1
  have XM : Hid (∀ A a b, w4.heap.size ≤ A → Mk A a b → (fun wx => RP R false 0 wx ∧ UP U false 0 wx) a → (fun wx => RP R false 0 wx ∧ UP U false 0 wx) b) := fun A a b hA mk ⟨⟨n, n1, n2, n3⟩, ⟨m, m1, m2, m3⟩⟩ => ⟨⟨n, n1, n2, Blk.mk n3 mk (by omega)⟩, ⟨m, m1, m2, Blk.mk m3 mk (by omega)⟩⟩
  clear nU nR
  refine regN (w := w4) [.pure 39 (.agg #[.int .i64 R1, .int .i64 C1, .slice a1 l1 p1]), .call 40 (GM R1 C1 l1 A w4.heap.size), .pure 41 (.agg #[.int .i64 R2, .int .i64 C2, .slice a2 l2 p2]), .call 42 (GM R2 C2 l2 B w4.heap.size), .pure 43 (.slice xo xl xc), .call 44 (GI xl X w4.heap.size), .alloc 11 #[.int .i64 0, .int .i64 0, .slice none 0 0] 24, .alloc 12 #[.int .i64 0, .int .i64 0, .slice none 0 0] 24, .store 6 1 aggOf, .store 7 3 aggOf, .same 13 5] (SL w4.heap.size w [R, U] [(w.heap.size + 1, #[.int .i64 R2, .int .i64 C2, .slice a2 l2 p2]), (w.heap.size, #[.int .i64 R1, .int .i64 C1, .slice a1 l1 p1])] [(xo, xl, X), (a2, l2, B), (a1, l1, A)] (fun wx => RP R false 0 wx ∧ UP U false 0 wx)) (by kernel_rfl) rfl (by kernel_rfl) (by kernel_rfl) (by kernel_rfl) (by kernel_rfl) ?_ (SL.of (X := (fun wx => RP R false 0 wx ∧ UP U false 0 wx)) (unhide L4).2.2 ⟨((unhide L4).1 (R, RP R false 0) (by simp)).1, ((unhide L4).1 (U, UP U false 0) (by simp)).1⟩) (fun a b k h => SL.kp (unhide XK) k h) (fun A a b hA m h => SL.mk (unhide XM) hA m h) ?_
  · refine And.intro (okLoad (B := w.heap.size) rfl (by kernel_rfl) rfl (fun wx h => (h.1.2.2.1 (w.heap.size, #[.int .i64 R1, .int .i64 C1, .slice a1 l1 p1]) (by simp)).1)) ?_
    refine And.intro (okCall1 (j := 0) rfl rfl (by kernel_rfl) (fun w => enters_of Tryz.func8 (by kernel_rfl) rfl _ w) (fun wx h hH => (unhide K1 wx (h.1.2.2.2 (a1, l1, A) (by simp)).1).mono (fun e w' hc => copyM_dep hc hH))) ?_
    refine And.intro (okLoad (B := w.heap.size + 1) rfl (by kernel_rfl) rfl (fun wx h => (h.1.2.2.1 (w.heap.size + 1, #[.int .i64 R2, .int .i64 C2, .slice a2 l2 p2]) (by simp)).1)) ?_
    refine And.intro (okCall1 (j := 2) rfl rfl (by kernel_rfl) (fun w => enters_of Tryz.func8 (by kernel_rfl) rfl _ w) (fun wx h hH => (unhide K2 wx (h.1.2.2.2 (a2, l2, B) (by simp)).1).mono (fun e w' hc => copyM_dep hc hH))) ?_
    refine And.intro (okMove (k := 2) rfl (by kernel_rfl) rfl) ?_
    refine And.intro (okCall1 (j := 4) rfl rfl (by kernel_rfl) (fun w => enters_of Tryz.func9 (by kernel_rfl) rfl _ w) (fun wx h hH => (unhide K3 wx (h.1.2.2.2 (xo, xl, X) (by simp)).1).mono (fun e w' hc => copyQ_dep hc hH))) ?_
    refine And.intro (okAlloc rfl) (And.intro (okAlloc rfl) ?_)
    refine And.intro (okStore (ia := 6) (ic := 1) rfl rfl rfl (by kernel_rfl) (by kernel_rfl) (by kernel_rfl)) ?_
    refine And.intro (okStore (ia := 7) (ic := 3) rfl rfl rfl (by kernel_rfl) (by kernel_rfl) (by kernel_rfl)) ?_
    exact And.intro (okSame (j := 5) rfl rfl (by kernel_rfl)) trivial
  intro vals addr w5 hS hsz fin
  obtain ⟨aa, pa, ea, hpa, r5, o5⟩ : GM R1 C1 l1 A w4.heap.size (vals 1) w5 := fin 1 _ rfl
  obtain ⟨ab, pb, eb, hpb, r6, o6⟩ : GM R2 C2 l2 B w4.heap.size (vals 3) w5 := fin 3 _ rfl
  obtain ⟨xa, pc, ec, hpc, r7, o7⟩ : GI xl X w4.heap.size (vals 5) w5 := fin 5 _ rfl
  have f6 : w4.heap.size ≤ addr 6 ∧ addr 6 < w5.heap.size := fin 6 _ rfl
  have f7 : w4.heap.size ≤ addr 7 ∧ addr 7 < w5.heap.size := fin 7 _ rfl
  have f8 : Blk (addr 6) (aggOf (vals 1)) 24 w5 := fin 8 _ rfl _ _ _ rfl
  have f9 : Blk (addr 7) (aggOf (vals 3)) 24 w5 := fin 9 _ rfl _ _ _ rfl
  simp only [putsL, OpK.dst, OpK.val, List.foldl]
  rw [ea] at f8
  rw [eb] at f9
  rw [ea, eb, ec]
  generalize addr 6 = A1 at *
  generalize addr 7 = A2 at *
  have L5 : Hid (RS w [(R, RP R false 0), (U, UP U false 0)] [(A2, #[.int .i64 R2, .int .i64 C2, .slice ab l2 pb]), (A1, #[.int .i64 R1, .int .i64 C1, .slice aa l1 pa]), (w.heap.size + 1, #[.int .i64 R2, .int .i64 C2, .slice a2 l2 p2]), (w.heap.size, #[.int .i64 R1, .int .i64 C1, .slice a1 l1 p1])] [(xa, xl, X), (ab, l2, B), (aa, l1, A), (xo, xl, X), (a2, l2, B), (a1, l1, A)] w5) := by
    have nU : U < w4.heap.size := ((unhide L4).lt (c := (U, UP U false 0)) (by simp)).1
    have nR : R < w4.heap.size := ((unhide L4).lt (c := (R, RP R false 0)) (by simp)).1
    have oE : ∀ (n : Nat) (ao : Option Addr), (∀ U, U < w4.heap.size → Off U n ao) → ∀ e ∈ [R, U], Off e n ao := fun n ao h e he => by
      simp only [List.mem_cons, List.not_mem_nil, or_false] at he
      rcases he with rfl | rfl
      · exact h _ nR
      · exact h _ nU
    refine ⟨fun c hc => ?_, (unhide L4).2.1, ((((hS.1.boxA f8 ?_).boxA f9 ?_).row r5 (oE _ _ o5)).row r6 (oE _ _ o6)).row r7 (oE _ _ o7)⟩
    · simp only [List.mem_cons, List.not_mem_nil, or_false] at hc
      rcases hc with rfl | rfl
      · exact ⟨hS.2.1.1, rp_dep _ _ _⟩
      · exact ⟨hS.2.1.2, up_dep _ _ _⟩
    · simp; omega
    · simp; omega
  have HP5 := hide hpa
  clear hS hsz fin ea eb ec r5 r6 r7 o5 o6 o7 f6 f7 f8 f9 L4 K1 K2 K3 hpa hpb hpc XK XM
  simp only [List.setIfInBounds_toArray, List.set_cons_zero, List.set_cons_succ]
  obtain ⟨q1, hq1⟩ : ∃ q, evenO R2 C2 l2 B false = q := ⟨_, rfl⟩
  obtain ⟨q2, hq2⟩ : ∃ q, sandO R1 C1 R2 C2 l1 l2 A B q1.cut = q := ⟨_, rfl⟩
  obtain ⟨q3, hq3⟩ : ∃ q, rankO R2 C2 l2 xl B X s q2.cut = q := ⟨_, rfl⟩
  obtain ⟨q4, hq4⟩ : ∃ q, traceO R2 C2 l2 B q3.cut = q := ⟨_, rfl⟩
  have HQ := hide (And.intro hq1 (And.intro hq2 (And.intro hq3 hq4)))
  have HB := hide (And.intro (evenO_len hq1) (And.intro (sandO_len hq2) (rankO_len hq3)))
  clear hq1 hq2 hq3 hq4
  obtain ⟨k0, k1, k2⟩ := (unhide L5).cells (b := A2) (x := .int .i64 R2) (y := .int .i64 C2) (z := .slice ab l2 pb) (by simp)
  go_wp2_with fail
  refine (RS.callU (q := q1) [(R, RP R false 0)] 10000 (unhide L5) (by omega) (by omega) (fun n0 hn hu => symEvenAny U false n0 hn R2 C2 ab l2 pb B (unhide HA).2.1 _ hu ((unhide L5).at (ao := ab) (len := l2) (Z := B) (by simp)).1 (((unhide L5).at (ao := ab) (len := l2) (Z := B) (by simp)).2 U (by simp)) q1 (unhide HQ).1)).mono ?_
  rintro e v1 ⟨s1, t1, B1, rfl, hc1, T1⟩
  have L6 : Hid (TD w [(v1.heap.size, Blk v1.heap.size #[.int .i64 q1.r, .int .i64 q1.c, .slice s1 q1.len t1] 24), (R, RP R false 0), (U, UP U q1.cut 10000)] [(A2, #[.int .i64 R2, .int .i64 C2, .slice ab l2 pb]), (A1, #[.int .i64 R1, .int .i64 C1, .slice aa l1 pa]), (w.heap.size + 1, #[.int .i64 R2, .int .i64 C2, .slice a2 l2 p2]), (w.heap.size, #[.int .i64 R1, .int .i64 C1, .slice a1 l1 p1])] [(xa, xl, X), (ab, l2, B), (aa, l1, A), (xo, xl, X), (a2, l2, B), (a1, l1, A)] B1 s1 q1.len q1.Z (v1.alloc (.cells #[.int .i64 q1.r, .int .i64 q1.c, .slice s1 q1.len t1] 24))) := T1.push (Kp.of ((Grown.refl _).alloc _ _)) ⟨Nat.le_refl _, Blk.lt (Blk.new v1 _ _)⟩ (Blk.new v1 _ _) (blk_dep _ _ _)
  clear T1 hc1 L5 k0 k1 k2
  generalize hv2 : v1.alloc (.cells #[.int .i64 q1.r, .int .i64 q1.c, .slice s1 q1.len t1] 24) = v2 at L6
  obtain ⟨k0, k1, k2⟩ := (unhide L6).1.cells (b := w.heap.size + 1) (x := .int .i64 R2) (y := .int .i64 C2) (z := .slice a2 l2 p2) (by simp)
  go_wp2_with fail
  clear hv2
  generalize v1.heap.size = A3 at *
  refine (TD.callR (q := q1) [(A3, Blk A3 #[.int .i64 q1.r, .int .i64 q1.c, .slice s1 q1.len t1] 24)] 10000 (unhide L6) (by omega) (by omega) (fun n0 hn hu => refEvenAny R false n0 hn R2 C2 a2 l2 p2 B (unhide HA).2.1 _ hu ((unhide L6).1.at (ao := a2) (len := l2) (Z := B) (by simp)).1 (((unhide L6).1.at (ao := a2) (len := l2) (Z := B) (by simp)).2 R (by simp)) q1 (unhide HQ).1)).mono ?_
  rintro e v3 ⟨s2, t2, rfl, hc2, T2⟩
  have L7 : Hid (TD w [(v3.heap.size, Blk v3.heap.size #[.int .i64 q1.r, .int .i64 q1.c, .slice s2 q1.len t2] 24), (A3, Blk A3 #[.int .i64 q1.r, .int .i64 q1.c, .slice s1 q1.len t1] 24), (R, RP R q1.cut 10000), (U, UP U q1.cut 10000)] [(A2, #[.int .i64 R2, .int .i64 C2, .slice ab l2 pb]), (A1, #[.int .i64 R1, .int .i64 C1, .slice aa l1 pa]), (w.heap.size + 1, #[.int .i64 R2, .int .i64 C2, .slice a2 l2 p2]), (w.heap.size, #[.int .i64 R1, .int .i64 C1, .slice a1 l1 p1])] ((s2, q1.len, q1.Z) :: [(xa, xl, X), (ab, l2, B), (aa, l1, A), (xo, xl, X), (a2, l2, B), (a1, l1, A)]) B1 s1 q1.len q1.Z (v3.alloc (.cells #[.int .i64 q1.r, .int .i64 q1.c, .slice s2 q1.len t2] 24))) := T2.push (Kp.of ((Grown.refl _).alloc _ _)) ⟨Nat.le_refl _, Blk.lt (Blk.new v3 _ _)⟩ (Blk.new v3 _ _) (blk_dep _ _ _)
  clear T2 hc2 L6 k0 k1 k2
  generalize hv4 : v3.alloc (.cells #[.int .i64 q1.r, .int .i64 q1.c, .slice s2 q1.len t2] 24) = v4 at L7
  obtain ⟨k0, k1, k2⟩ := (unhide L7).1.own (b := A3) (x := .int .i64 q1.r) (y := .int .i64 q1.c) (z := .slice s1 q1.len t1) (T := 24) (by simp)
  obtain ⟨j0, j1, j2⟩ := (unhide L7).1.own (b := v3.heap.size) (x := .int .i64 q1.r) (y := .int .i64 q1.c) (z := .slice s2 q1.len t2) (T := 24) (by simp)
  go_wp2_with fail
  clear hv4
  generalize v3.heap.size = A4 at *
  refine (lawLike (c := q1.cut) (D := 10000) q1.r q1.c q1.err s2 t1 t2 (unhide HB).1 (unhide L7) (by simp) (by simp)).mono ?_
  rintro e v5 ⟨rfl, T3⟩
  have L8 := hide T3
  clear T3 L7 k0 k1 k2 j0 j1 j2
  obtain ⟨k0, k1, k2⟩ := (unhide L8).cells (b := A1) (x := .int .i64 R1) (y := .int .i64 C1) (z := .slice aa l1 pa) (by simp)
  obtain ⟨j0, j1, j2⟩ := (unhide L8).cells (b := A2) (x := .int .i64 R2) (y := .int .i64 C2) (z := .slice ab l2 pb) (by simp)
  go_wp2_with fail
  refine (RS.callU (q := q2) [(A4, Blk A4 #[.int .i64 q1.r, .int .i64 q1.c, .slice s2 q1.len t2] 24), (A3, Blk A3 #[.int .i64 q1.r, .int .i64 q1.c, .slice s1 q1.len t1] 24), (R, RP R q1.cut 10000)] 20000 (unhide L8) (by omega) (by omega) (fun n0 hn hu => symSandAny U q1.cut n0 hn R1 C1 aa l1 pa A (unhide HA).1 _ hu (unhide HP5) R2 C2 ab l2 pb B (unhide HA).2.1 ((unhide L8).at (ao := aa) (len := l1) (Z := A) (by simp)).1 (((unhide L8).at (ao := aa) (len := l1) (Z := A) (by simp)).2 U (by simp)) ((unhide L8).at (ao := ab) (len := l2) (Z := B) (by simp)).1 (((unhide L8).at (ao := ab) (len := l2) (Z := B) (by simp)).2 U (by simp)) q2 (unhide HQ).2.1)).mono ?_
  rintro e v6 ⟨s3, t3, B3, rfl, hc, T⟩
  have e0 : v6.cell? ⟨A3, 0, none⟩ = some (.int .i64 q1.r) := (T.1.own (b := A3) (x := .int .i64 q1.r) (y := .int .i64 q1.c) (z := .slice s1 q1.len t1) (T := 24) (by simp)).1
  have e1 : v6.cell? ⟨A3, 1, none⟩ = some (.int .i64 q1.c) := (T.1.own (b := A3) (x := .int .i64 q1.r) (y := .int .i64 q1.c) (z := .slice s1 q1.len t1) (T := 24) (by simp)).2.1
  have e2 : v6.cell? ⟨A3, 2, none⟩ = some (.slice s1 q1.len t1) := (T.1.own (b := A3) (x := .int .i64 q1.r) (y := .int .i64 q1.c) (z := .slice s1 q1.len t1) (T := 24) (by simp)).2.2
  have b3 : Blk A3 #[.int .i64 q1.r, .int .i64 q1.c, .slice s1 q1.len t1] 24 v6 := (T.1.1 (A3, Blk A3 #[.int .i64 q1.r, .int .i64 q1.c, .slice s1 q1.len t1] 24) (by simp)).1
  have ff := Blk.free b3
  have PM := putM b3 (.int .i64 q2.r) (.int .i64 q2.c) (.slice s3 q2.len t3)
  have La : Hid (TD w [(A4, Blk A4 #[.int .i64 q1.r, .int .i64 q1.c, .slice s2 q1.len t2] 24), (A3, Blk A3 #[.int .i64 q2.r, .int .i64 q2.c, .slice s3 q2.len t3] 24), (R, RP R q1.cut 10000), (U, UP U q2.cut 20000)] [(A2, #[.int .i64 R2, .int .i64 C2, .slice ab l2 pb]), (A1, #[.int .i64 R1, .int .i64 C1, .slice aa l1 pa]), (w.heap.size + 1, #[.int .i64 R2, .int .i64 C2, .slice a2 l2 p2]), (w.heap.size, #[.int .i64 R1, .int .i64 C1, .slice a1 l1 p1])] [(xa, xl, X), (ab, l2, B), (aa, l1, A), (xo, xl, X), (a2, l2, B), (a1, l1, A)] B3 s3 q2.len q2.Z (((v6.setCell ⟨A3, 0, none⟩ (.int .i64 q2.r)).setCell ⟨A3, 1, none⟩ (.int .i64 q2.c)).setCell ⟨A3, 2, none⟩ (.slice s3 q2.len t3))) := T.mk [(A4, Blk A4 #[.int .i64 q1.r, .int .i64 q1.c, .slice s2 q1.len t2] 24)] (Mk.of PM.2) PM.1 (blk_dep _ _ _)
  clear T hc L8 PM b3 k0 k1 k2 j0 j1 j2
  generalize hv : (((v6.setCell ⟨A3, 0, none⟩ (.int .i64 q2.r)).setCell ⟨A3, 1, none⟩ (.int .i64 q2.c)).setCell ⟨A3, 2, none⟩ (.slice s3 q2.len t3)) = v7 at La
  obtain ⟨k0, k1, k2⟩ := (unhide La).1.cells (b := w.heap.size) (x := .int .i64 R1) (y := .int .i64 C1) (z := .slice a1 l1 p1) (by simp)
  obtain ⟨j0, j1, j2⟩ := (unhide La).1.cells (b := w.heap.size + 1) (x := .int .i64 R2) (y := .int .i64 C2) (z := .slice a2 l2 p2) (by simp)
  go_wp2_with fail
  clear hv e0 e1 e2 ff
  refine (TD.callR (q := q2) [(A4, Blk A4 #[.int .i64 q1.r, .int .i64 q1.c, .slice s2 q1.len t2] 24), (A3, Blk A3 #[.int .i64 q2.r, .int .i64 q2.c, .slice s3 q2.len t3] 24)] 20000 (unhide La) (by omega) (by omega) (fun n0 hn hu => refSandAny R q1.cut n0 hn R1 C1 a1 l1 p1 A (unhide HA).1 _ hu (unhide HP).1 R2 C2 a2 l2 p2 B (unhide HA).2.1 ((unhide La).1.at (ao := a1) (len := l1) (Z := A) (by simp)).1 (((unhide La).1.at (ao := a1) (len := l1) (Z := A) (by simp)).2 R (by simp)) ((unhide La).1.at (ao := a2) (len := l2) (Z := B) (by simp)).1 (((unhide La).1.at (ao := a2) (len := l2) (Z := B) (by simp)).2 R (by simp)) q2 (unhide HQ).2.1)).mono ?_
  rintro e v8 ⟨s4, t4, rfl, hc, T⟩
  have e0 : v8.cell? ⟨A4, 0, none⟩ = some (.int .i64 q1.r) := (T.1.own (b := A4) (x := .int .i64 q1.r) (y := .int .i64 q1.c) (z := .slice s2 q1.len t2) (T := 24) (by simp)).1
  have e1 : v8.cell? ⟨A4, 1, none⟩ = some (.int .i64 q1.c) := (T.1.own (b := A4) (x := .int .i64 q1.r) (y := .int .i64 q1.c) (z := .slice s2 q1.len t2) (T := 24) (by simp)).2.1
  have e2 : v8.cell? ⟨A4, 2, none⟩ = some (.slice s2 q1.len t2) := (T.1.own (b := A4) (x := .int .i64 q1.r) (y := .int .i64 q1.c) (z := .slice s2 q1.len t2) (T := 24) (by simp)).2.2
  have b4 : Blk A4 #[.int .i64 q1.r, .int .i64 q1.c, .slice s2 q1.len t2] 24 v8 := (T.1.1 (A4, Blk A4 #[.int .i64 q1.r, .int .i64 q1.c, .slice s2 q1.len t2] 24) (by simp)).1
  have ff := Blk.free b4
  have PM := putM b4 (.int .i64 q2.r) (.int .i64 q2.c) (.slice s4 q2.len t4)
  have Lb : Hid (TD w [(A4, Blk A4 #[.int .i64 q2.r, .int .i64 q2.c, .slice s4 q2.len t4] 24), (A3, Blk A3 #[.int .i64 q2.r, .int .i64 q2.c, .slice s3 q2.len t3] 24), (R, RP R q2.cut 20000), (U, UP U q2.cut 20000)] [(A2, #[.int .i64 R2, .int .i64 C2, .slice ab l2 pb]), (A1, #[.int .i64 R1, .int .i64 C1, .slice aa l1 pa]), (w.heap.size + 1, #[.int .i64 R2, .int .i64 C2, .slice a2 l2 p2]), (w.heap.size, #[.int .i64 R1, .int .i64 C1, .slice a1 l1 p1])] ((s4, q2.len, q2.Z) :: [(xa, xl, X), (ab, l2, B), (aa, l1, A), (xo, xl, X), (a2, l2, B), (a1, l1, A)]) B3 s3 q2.len q2.Z (((v8.setCell ⟨A4, 0, none⟩ (.int .i64 q2.r)).setCell ⟨A4, 1, none⟩ (.int .i64 q2.c)).setCell ⟨A4, 2, none⟩ (.slice s4 q2.len t4))) := T.mk [] (Mk.of PM.2) PM.1 (blk_dep _ _ _)
  clear T hc La PM b4 k0 k1 k2 j0 j1 j2
  generalize hv : (((v8.setCell ⟨A4, 0, none⟩ (.int .i64 q2.r)).setCell ⟨A4, 1, none⟩ (.int .i64 q2.c)).setCell ⟨A4, 2, none⟩ (.slice s4 q2.len t4)) = v9 at Lb
  obtain ⟨k0, k1, k2⟩ := (unhide Lb).1.own (b := A3) (x := .int .i64 q2.r) (y := .int .i64 q2.c) (z := .slice s3 q2.len t3) (T := 24) (by simp)
  obtain ⟨j0, j1, j2⟩ := (unhide Lb).1.own (b := A4) (x := .int .i64 q2.r) (y := .int .i64 q2.c) (z := .slice s4 q2.len t4) (T := 24) (by simp)
  go_wp2_with fail
  clear hv e0 e1 e2 ff
  refine (lawLike (c := q2.cut) (D := 20000) q2.r q2.c q2.err s4 t3 t4 (unhide HB).2.1 (unhide Lb) (by simp) (by simp)).mono ?_
  rintro e v10 ⟨rfl, T⟩
  have L9 := hide T
  clear T Lb k0 k1 k2 j0 j1 j2
  obtain ⟨k0, k1, k2⟩ := (unhide L9).cells (b := A1) (x := .int .i64 R1) (y := .int .i64 C1) (z := .slice aa l1 pa) (by simp)
  obtain ⟨j0, j1, j2⟩ := (unhide L9).cells (b := A2) (x := .int .i64 R2) (y := .int .i64 C2) (z := .slice ab l2 pb) (by simp)
  go_wp2_with fail
  refine (RS.callU (q := q3) [(A4, Blk A4 #[.int .i64 q2.r, .int .i64 q2.c, .slice s4 q2.len t4] 24), (A3, Blk A3 #[.int .i64 q2.r, .int .i64 q2.c, .slice s3 q2.len t3] 24), (R, RP R q2.cut 20000)] 30000 (unhide L9) (by omega) (by omega) (fun n0 hn hu => symRankAny U q2.cut n0 hn R2 C2 ab l2 pb B (unhide HA).2.1 _ hu ((unhide L9).at (ao := ab) (len := l2) (Z := B) (by simp)).1 (((unhide L9).at (ao := ab) (len := l2) (Z := B) (by simp)).2 U (by simp)) xa xl pc X s (unhide HA).2.2.2 (unhide HA).2.2.1 ((unhide L9).at (ao := xa) (len := xl) (Z := X) (by simp)).1 (((unhide L9).at (ao := xa) (len := xl) (Z := X) (by simp)).2 U (by simp)) q3 (unhide HQ).2.2.1)).mono ?_
  rintro e v11 ⟨s5, t5, B5, rfl, hc, T⟩
  have e0 : v11.cell? ⟨A3, 0, none⟩ = some (.int .i64 q2.r) := (T.1.own (b := A3) (x := .int .i64 q2.r) (y := .int .i64 q2.c) (z := .slice s3 q2.len t3) (T := 24) (by simp)).1
  have e1 : v11.cell? ⟨A3, 1, none⟩ = some (.int .i64 q2.c) := (T.1.own (b := A3) (x := .int .i64 q2.r) (y := .int .i64 q2.c) (z := .slice s3 q2.len t3) (T := 24) (by simp)).2.1
  have e2 : v11.cell? ⟨A3, 2, none⟩ = some (.slice s3 q2.len t3) := (T.1.own (b := A3) (x := .int .i64 q2.r) (y := .int .i64 q2.c) (z := .slice s3 q2.len t3) (T := 24) (by simp)).2.2
  have b3 : Blk A3 #[.int .i64 q2.r, .int .i64 q2.c, .slice s3 q2.len t3] 24 v11 := (T.1.1 (A3, Blk A3 #[.int .i64 q2.r, .int .i64 q2.c, .slice s3 q2.len t3] 24) (by simp)).1
  have ff := Blk.free b3
  have PM := putM b3 (.int .i64 q3.r) (.int .i64 q3.c) (.slice s5 q3.len t5)
  have La : Hid (TD w [(A4, Blk A4 #[.int .i64 q2.r, .int .i64 q2.c, .slice s4 q2.len t4] 24), (A3, Blk A3 #[.int .i64 q3.r, .int .i64 q3.c, .slice s5 q3.len t5] 24), (R, RP R q2.cut 20000), (U, UP U q3.cut 30000)] [(A2, #[.int .i64 R2, .int .i64 C2, .slice ab l2 pb]), (A1, #[.int .i64 R1, .int .i64 C1, .slice aa l1 pa]), (w.heap.size + 1, #[.int .i64 R2, .int .i64 C2, .slice a2 l2 p2]), (w.heap.size, #[.int .i64 R1, .int .i64 C1, .slice a1 l1 p1])] [(xa, xl, X), (ab, l2, B), (aa, l1, A), (xo, xl, X), (a2, l2, B), (a1, l1, A)] B5 s5 q3.len q3.Z (((v11.setCell ⟨A3, 0, none⟩ (.int .i64 q3.r)).setCell ⟨A3, 1, none⟩ (.int .i64 q3.c)).setCell ⟨A3, 2, none⟩ (.slice s5 q3.len t5))) := T.mk [(A4, Blk A4 #[.int .i64 q2.r, .int .i64 q2.c, .slice s4 q2.len t4] 24)] (Mk.of PM.2) PM.1 (blk_dep _ _ _)
  clear T hc L9 PM b3 k0 k1 k2 j0 j1 j2
  generalize hv : (((v11.setCell ⟨A3, 0, none⟩ (.int .i64 q3.r)).setCell ⟨A3, 1, none⟩ (.int .i64 q3.c)).setCell ⟨A3, 2, none⟩ (.slice s5 q3.len t5)) = v12 at La
  obtain ⟨k0, k1, k2⟩ := (unhide La).1.cells (b := w.heap.size) (x := .int .i64 R1) (y := .int .i64 C1) (z := .slice a1 l1 p1) (by simp)
  obtain ⟨j0, j1, j2⟩ := (unhide La).1.cells (b := w.heap.size + 1) (x := .int .i64 R2) (y := .int .i64 C2) (z := .slice a2 l2 p2) (by simp)
  go_wp2_with fail
  clear hv e0 e1 e2 ff
  refine (TD.callR (q := q3) [(A4, Blk A4 #[.int .i64 q2.r, .int .i64 q2.c, .slice s4 q2.len t4] 24), (A3, Blk A3 #[.int .i64 q3.r, .int .i64 q3.c, .slice s5 q3.len t5] 24)] 30000 (unhide La) (by omega) (by omega) (fun n0 hn hu => refRankAny R q2.cut n0 hn R2 C2 a2 l2 p2 B (unhide HA).2.1 _ hu ((unhide La).1.at (ao := a2) (len := l2) (Z := B) (by simp)).1 (((unhide La).1.at (ao := a2) (len := l2) (Z := B) (by simp)).2 R (by simp)) xo xl xc X s (unhide HA).2.2.2 (unhide HA).2.2.1 ((unhide La).1.at (ao := xo) (len := xl) (Z := X) (by simp)).1 (((unhide La).1.at (ao := xo) (len := xl) (Z := X) (by simp)).2 R (by simp)) q3 (unhide HQ).2.2.1)).mono ?_
  rintro e v13 ⟨s6, t6, rfl, hc, T⟩
  have e0 : v13.cell? ⟨A4, 0, none⟩ = some (.int .i64 q2.r) := (T.1.own (b := A4) (x := .int .i64 q2.r) (y := .int .i64 q2.c) (z := .slice s4 q2.len t4) (T := 24) (by simp)).1
  have e1 : v13.cell? ⟨A4, 1, none⟩ = some (.int .i64 q2.c) := (T.1.own (b := A4) (x := .int .i64 q2.r) (y := .int .i64 q2.c) (z := .slice s4 q2.len t4) (T := 24) (by simp)).2.1
  have e2 : v13.cell? ⟨A4, 2, none⟩ = some (.slice s4 q2.len t4) := (T.1.own (b := A4) (x := .int .i64 q2.r) (y := .int .i64 q2.c) (z := .slice s4 q2.len t4) (T := 24) (by simp)).2.2
  have b4 : Blk A4 #[.int .i64 q2.r, .int .i64 q2.c, .slice s4 q2.len t4] 24 v13 := (T.1.1 (A4, Blk A4 #[.int .i64 q2.r, .int .i64 q2.c, .slice s4 q2.len t4] 24) (by simp)).1
  have ff := Blk.free b4
  have PM := putM b4 (.int .i64 q3.r) (.int .i64 q3.c) (.slice s6 q3.len t6)
  have Lb : Hid (TD w [(A4, Blk A4 #[.int .i64 q3.r, .int .i64 q3.c, .slice s6 q3.len t6] 24), (A3, Blk A3 #[.int .i64 q3.r, .int .i64 q3.c, .slice s5 q3.len t5] 24), (R, RP R q3.cut 30000), (U, UP U q3.cut 30000)] [(A2, #[.int .i64 R2, .int .i64 C2, .slice ab l2 pb]), (A1, #[.int .i64 R1, .int .i64 C1, .slice aa l1 pa]), (w.heap.size + 1, #[.int .i64 R2, .int .i64 C2, .slice a2 l2 p2]), (w.heap.size, #[.int .i64 R1, .int .i64 C1, .slice a1 l1 p1])] ((s6, q3.len, q3.Z) :: [(xa, xl, X), (ab, l2, B), (aa, l1, A), (xo, xl, X), (a2, l2, B), (a1, l1, A)]) B5 s5 q3.len q3.Z (((v13.setCell ⟨A4, 0, none⟩ (.int .i64 q3.r)).setCell ⟨A4, 1, none⟩ (.int .i64 q3.c)).setCell ⟨A4, 2, none⟩ (.slice s6 q3.len t6))) := T.mk [] (Mk.of PM.2) PM.1 (blk_dep _ _ _)
  clear T hc La PM b4 k0 k1 k2 j0 j1 j2
  generalize hv : (((v13.setCell ⟨A4, 0, none⟩ (.int .i64 q3.r)).setCell ⟨A4, 1, none⟩ (.int .i64 q3.c)).setCell ⟨A4, 2, none⟩ (.slice s6 q3.len t6)) = v14 at Lb
  obtain ⟨k0, k1, k2⟩ := (unhide Lb).1.own (b := A3) (x := .int .i64 q3.r) (y := .int .i64 q3.c) (z := .slice s5 q3.len t5) (T := 24) (by simp)
  obtain ⟨j0, j1, j2⟩ := (unhide Lb).1.own (b := A4) (x := .int .i64 q3.r) (y := .int .i64 q3.c) (z := .slice s6 q3.len t6) (T := 24) (by simp)
  go_wp2_with fail
  clear hv e0 e1 e2 ff
  refine (lawLike (c := q3.cut) (D := 30000) q3.r q3.c q3.err s6 t5 t6 (unhide HB).2.2 (unhide Lb) (by simp) (by simp)).mono ?_
  rintro e v15 ⟨rfl, T⟩
  have M1 := hide T
  clear T Lb k0 k1 k2 j0 j1 j2
  obtain ⟨k0, k1, k2⟩ := (unhide M1).cells (b := A1) (x := .int .i64 R1) (y := .int .i64 C1) (z := .slice aa l1 pa) (by simp)
  obtain ⟨j0, j1, j2⟩ := (unhide M1).cells (b := A2) (x := .int .i64 R2) (y := .int .i64 C2) (z := .slice ab l2 pb) (by simp)
  go_wp2_with fail
  refine (RS.numU (q := q4) [(A4, Blk A4 #[.int .i64 q3.r, .int .i64 q3.c, .slice s6 q3.len t6] 24), (A3, Blk A3 #[.int .i64 q3.r, .int .i64 q3.c, .slice s5 q3.len t5] 24), (R, RP R q3.cut 30000)] 40000 (unhide M1) (by omega) (by omega) (fun n0 hn hu => symTraceAny U q3.cut n0 hn R2 C2 ab l2 pb B (unhide HA).2.1 _ hu ((unhide M1).at (ao := ab) (len := l2) (Z := B) (by simp)).1 (((unhide M1).at (ao := ab) (len := l2) (Z := B) (by simp)).2 U (by simp)) q4 (unhide HQ).2.2.2)).mono ?_
  rintro e v16 ⟨rfl, T⟩
  have M2 := hide T
  clear T M1 k0 k1 k2 j0 j1 j2
  obtain ⟨k0, k1, k2⟩ := (unhide M2).cells (b := w.heap.size) (x := .int .i64 R1) (y := .int .i64 C1) (z := .slice a1 l1 p1) (by simp)
  obtain ⟨j0, j1, j2⟩ := (unhide M2).cells (b := w.heap.size + 1) (x := .int .i64 R2) (y := .int .i64 C2) (z := .slice a2 l2 p2) (by simp)
  go_wp2_with fail
  refine (RS.numR (q := q4) [(A4, Blk A4 #[.int .i64 q3.r, .int .i64 q3.c, .slice s6 q3.len t6] 24), (A3, Blk A3 #[.int .i64 q3.r, .int .i64 q3.c, .slice s5 q3.len t5] 24)] 40000 (unhide M2) (by omega) (by omega) (fun n0 hn hu => refTraceAny R q3.cut n0 hn R2 C2 a2 l2 p2 B (unhide HA).2.1 _ hu ((unhide M2).at (ao := a2) (len := l2) (Z := B) (by simp)).1 (((unhide M2).at (ao := a2) (len := l2) (Z := B) (by simp)).2 R (by simp)) q4 (unhide HQ).2.2.2)).mono ?_
  rintro e v17 ⟨rfl, T⟩
  have M3 : Hid (RS w [(A4, Blk A4 #[.int .i64 q3.r, .int .i64 q3.c, .slice s6 q3.len t6] 24), (A3, Blk A3 #[.int .i64 q3.r, .int .i64 q3.c, .slice s5 q3.len t5] 24), (R, RP R q4.cut 40000), (U, UP U q4.cut 40000)] [(A2, #[.int .i64 R2, .int .i64 C2, .slice ab l2 pb]), (A1, #[.int .i64 R1, .int .i64 C1, .slice aa l1 pa]), (w.heap.size + 1, #[.int .i64 R2, .int .i64 C2, .slice a2 l2 p2]), (w.heap.size, #[.int .i64 R1, .int .i64 C1, .slice a1 l1 p1])] [(xa, xl, X), (ab, l2, B), (aa, l1, A), (xo, xl, X), (a2, l2, B), (a1, l1, A)] v17) := T
  clear T M2 k0 k1 k2 j0 j1 j2
  have CW : Hid (∀ wy, Kp v17 wy → wy.cell? ⟨A1, 0, none⟩ = some (.int .i64 R1) ∧ wy.cell? ⟨A1, 1, none⟩ = some (.int .i64 C1) ∧ wy.cell? ⟨A1, 2, none⟩ = some (.slice aa l1 pa) ∧ wy.cell? ⟨A2, 0, none⟩ = some (.int .i64 R2) ∧ wy.cell? ⟨A2, 1, none⟩ = some (.int .i64 C2) ∧ wy.cell? ⟨A2, 2, none⟩ = some (.slice ab l2 pb) ∧ wy.cell? ⟨w.heap.size, 0, none⟩ = some (.int .i64 R1) ∧ wy.cell? ⟨w.heap.size, 1, none⟩ = some (.int .i64 C1) ∧ wy.cell? ⟨w.heap.size, 2, none⟩ = some (.slice a1 l1 p1) ∧ wy.cell? ⟨w.heap.size + 1, 0, none⟩ = some (.int .i64 R2) ∧ wy.cell? ⟨w.heap.size + 1, 1, none⟩ = some (.int .i64 C2) ∧ wy.cell? ⟨w.heap.size + 1, 2, none⟩ = some (.slice a2 l2 p2) ∧ wy.cell? ⟨R, 0, none⟩ = some (.bool q4.cut)) := fun wy kk => by
    have m := (unhide M3).kp kk
    obtain ⟨n, _, _, hu⟩ : RP R q4.cut 40000 wy := (m.1 (R, RP R q4.cut 40000) (by simp)).1
    obtain ⟨z0, z1, z2⟩ := m.cells (b := A1) (x := .int .i64 R1) (y := .int .i64 C1) (z := .slice aa l1 pa) (by simp)
    obtain ⟨z3, z4, z5⟩ := m.cells (b := A2) (x := .int .i64 R2) (y := .int .i64 C2) (z := .slice ab l2 pb) (by simp)
    obtain ⟨z6, z7, z8⟩ := m.cells (b := w.heap.size) (x := .int .i64 R1) (y := .int .i64 C1) (z := .slice a1 l1 p1) (by simp)
    obtain ⟨z9, z10, z11⟩ := m.cells (b := w.heap.size + 1) (x := .int .i64 R2) (y := .int .i64 C2) (z := .slice a2 l2 p2) (by simp)
    exact ⟨z0, z1, z2, z3, z4, z5, z6, z7, z8, z9, z10, z11, hu.c0⟩
  obtain ⟨i1, hi1⟩ : ∃ q, isB R1 C1 l1 A = q := ⟨_, rfl⟩
  obtain ⟨i2, hi2⟩ : ∃ q, isB R2 C2 l2 B = q := ⟨_, rfl⟩
  have SI1 : Hid (∀ wy, Kp v17 wy → Calls Tryz.prog 20 #[.agg #[.int .i64 R1, .int .i64 C1, .slice aa l1 pa]] wy fun e w' => e = .returned (.bool i1) ∧ Kp wy w') := fun wy kk => by rw [← hi1]; exact symIsAny R1 C1 aa l1 pa A wy (((unhide M3).kp kk).at (ao := aa) (len := l1) (Z := A) (by simp)).1
  have SI2 : Hid (∀ wy, Kp v17 wy → Calls Tryz.prog 20 #[.agg #[.int .i64 R2, .int .i64 C2, .slice ab l2 pb]] wy fun e w' => e = .returned (.bool i2) ∧ Kp wy w') := fun wy kk => by rw [← hi2]; exact symIsAny R2 C2 ab l2 pb B wy (((unhide M3).kp kk).at (ao := ab) (len := l2) (Z := B) (by simp)).1
  have RI1 : Hid (∀ wy, Kp v17 wy → Calls Tryz.prog 21 #[.agg #[.int .i64 R1, .int .i64 C1, .slice a1 l1 p1]] wy fun e w' => e = .returned (.bool i1) ∧ Kp wy w') := fun wy kk => by rw [← hi1]; exact refIsAny R1 C1 a1 l1 p1 A wy (((unhide M3).kp kk).at (ao := a1) (len := l1) (Z := A) (by simp)).1
  have RI2 : Hid (∀ wy, Kp v17 wy → Calls Tryz.prog 21 #[.agg #[.int .i64 R2, .int .i64 C2, .slice a2 l2 p2]] wy fun e w' => e = .returned (.bool i2) ∧ Kp wy w') := fun wy kk => by rw [← hi2]; exact refIsAny R2 C2 a2 l2 p2 B wy (((unhide M3).kp kk).at (ao := a2) (len := l2) (Z := B) (by simp)).1
  have CU : Hid (∀ wy, Kp v17 wy → Calls Tryz.prog 19 #[.pointer (some ⟨U, 0, none⟩)] wy fun e w' => e = .returned (.bool q4.cut) ∧ w' = wy) := fun wy kk => by
    obtain ⟨n, _, _, hu⟩ : UP U q4.cut 40000 wy := (((unhide M3).kp kk).1 (U, UP U q4.cut 40000) (by simp)).1
    exact unitCut U q4.cut n wy hu
  clear hi1 hi2
  obtain ⟨x0, x1, x2, x3, x4, x5, x6, x7, x8, x9, x10, x11, x12⟩ := unhide CW v17 (Kp.refl _)
  go_wp2_with fail
  go_region_held3 (fun w' => w'.cell? ⟨A1, 0, none⟩ = some (.int .i64 R1) ∧ w'.cell? ⟨A1, 1, none⟩ = some (.int .i64 C1) ∧ w'.cell? ⟨A1, 2, none⟩ = some (.slice aa l1 pa) ∧ w'.cell? ⟨A2, 0, none⟩ = some (.int .i64 R2) ∧ w'.cell? ⟨A2, 1, none⟩ = some (.int .i64 C2) ∧ w'.cell? ⟨A2, 2, none⟩ = some (.slice ab l2 pb) ∧ w'.cell? ⟨w.heap.size, 0, none⟩ = some (.int .i64 R1) ∧ w'.cell? ⟨w.heap.size, 1, none⟩ = some (.int .i64 C1) ∧ w'.cell? ⟨w.heap.size, 2, none⟩ = some (.slice a1 l1 p1) ∧ w'.cell? ⟨w.heap.size + 1, 0, none⟩ = some (.int .i64 R2) ∧ w'.cell? ⟨w.heap.size + 1, 1, none⟩ = some (.int .i64 C2) ∧ w'.cell? ⟨w.heap.size + 1, 2, none⟩ = some (.slice a2 l2 p2) ∧ w'.cell? ⟨R, 0, none⟩ = some (.bool q4.cut))
      (simp [go_sem, *])
      (first
        | (go_at_call 19; refine (unhide CU v17.drew (Kp.refl v17)).mono ?_; clear CU; rintro e w3 ⟨rfl, hw⟩; subst hw)
        | (go_at_call 20; refine (unhide SI1 v17.drew (Kp.refl v17)).mono ?_; clear SI1; rintro e v18 ⟨rfl, k18⟩; have K18 : Hid (Kp v17 v18) := k18; obtain ⟨y0, y1, y2, y3, y4, y5, y6, y7, y8, y9, y10, y11, y12⟩ := unhide CW v18 (unhide K18); clear k18)
        | (go_at_call 21; refine (unhide RI1 v18 (unhide K18)).mono ?_; clear RI1; rintro e v19 ⟨rfl, k19⟩; have K19 : Hid (Kp v17 v19) := (unhide K18).trans k19; obtain ⟨z0, z1, z2, z3, z4, z5, z6, z7, z8, z9, z10, z11, z12⟩ := unhide CW v19 (unhide K19); clear k19)
        | (go_at_call 20; refine (unhide SI2 v19 (unhide K19)).mono ?_; clear SI2; rintro e v20 ⟨rfl, k20⟩; have K20 : Hid (Kp v17 v20) := (unhide K19).trans k20; obtain ⟨t0, t1, t2, t3, t4, t5, t6, t7, t8, t9, t10, t11, t12⟩ := unhide CW v20 (unhide K20); clear k20)
        | (go_at_call 21; refine (unhide RI2 v20 (unhide K20)).mono ?_; clear RI2; rintro e v21 ⟨rfl, k21⟩; have K21 : Hid (Kp v17 v21) := (unhide K20).trans k21; obtain ⟨u0, u1, u2, u3, u4, u5, u6, u7, u8, u9, u10, u11, u12⟩ := unhide CW v21 (unhide K21); clear k21))
  have M4 := hide ((unhide M3).kp (unhide K21))
  clear M3 CW x0 x1 x2 x3 x4 x5 x6 x7 x8 x9 x10 x11 x12 u0 u1 u2 u3 u4 u5 u6 u7 u8 u9 u10 u11 u12 K21
  obtain ⟨k0, k1, k2⟩ := (unhide M4).cells (b := A1) (x := .int .i64 R1) (y := .int .i64 C1) (z := .slice aa l1 pa) (by simp)
  obtain ⟨j0, j1, j2⟩ := (unhide M4).cells (b := w.heap.size) (x := .int .i64 R1) (y := .int .i64 C1) (z := .slice a1 l1 p1) (by simp)
  go_wp2_with fail
  refine (kitSameM R1 C1 aa a1 l1 pa p1 A (by have := unhide HC; omega) _ ((unhide M4).at (ao := aa) (len := l1) (Z := A) (by simp)).1 ((unhide M4).at (ao := a1) (len := l1) (Z := A) (by simp)).1).mono ?_
  rintro e z31 ⟨rfl, kk⟩
  have M5 := hide ((unhide M4).kp kk)
  clear kk M4 k0 k1 k2 j0 j1 j2
  obtain ⟨k0, k1, k2⟩ := (unhide M5).cells (b := A2) (x := .int .i64 R2) (y := .int .i64 C2) (z := .slice ab l2 pb) (by simp)
  obtain ⟨j0, j1, j2⟩ := (unhide M5).cells (b := w.heap.size + 1) (x := .int .i64 R2) (y := .int .i64 C2) (z := .slice a2 l2 p2) (by simp)
  go_wp2_with fail
  refine (kitSameM R2 C2 ab a2 l2 pb p2 B (by have := unhide HC; omega) _ ((unhide M5).at (ao := ab) (len := l2) (Z := B) (by simp)).1 ((unhide M5).at (ao := a2) (len := l2) (Z := B) (by simp)).1).mono ?_
  rintro e z32 ⟨rfl, kk⟩
  have M6 := hide ((unhide M5).kp kk)
  clear kk M5 k0 k1 k2 j0 j1 j2
  go_wp2_with fail
  refine (kitSameQ xa xo xl pc xc X (by have := unhide HC; omega) _ ((unhide M6).at (ao := xa) (len := xl) (Z := X) (by simp)).1 ((unhide M6).at (ao := xo) (len := xl) (Z := X) (by simp)).1).mono ?_
  rintro e z33 ⟨rfl, nz, rfl⟩
  have M7 := hide ((unhide M6).kp (w' := World.drewN _ nz) (Kp.refl _))
  clear M6
  go_wp2_with fail
  refine (lawSymAwake _).mono ?_
  rintro e wz ⟨rfl, kz⟩
  have LZ := hide ((unhide M7).kp kz)
  clear kz M7
  go_wp2
  go_ret
  exact ⟨rfl, (unhide LZ).2.2.1⟩

theorem lawSymReckons (R1 C1 R2 C2 s : Int) (hs : I64 s) (a1 a2 xo : Option Addr) (l1 p1 l2 p2 xl xc : Nat) (A B X : Nat → Int) (h1 : l1 ≤ p1) (h2 : l2 ≤ p2) (iA : ∀ i, i < l1 → I64 (A i)) (iB : ∀ i, i < l2 → I64 (B i)) (iX : ∀ i, i < xl → I64 (X i)) (z1 : a1 = none → l1 = 0 ∧ p1 = 0) (z2 : a2 = none → l2 = 0 ∧ p2 = 0) (zx : xo = none → xl = 0 ∧ xc = 0) (w : World) (ra : Row w a1 l1 A) (rb : Row w a2 l2 B) (rx : Row w xo xl X) : Calls Tryz.prog 3 #[.agg #[.int .i64 R1, .int .i64 C1, .slice a1 l1 p1], .agg #[.int .i64 R2, .int .i64 C2, .slice a2 l2 p2], .slice xo xl xc, .int .i64 s] w fun e w' => e = .returned (.bool true) ∧ Kp w w' := by
  by_cases h : 200 < l1 ∨ 200 < l2 ∨ 20 < xl
  · exact lawSymReckons_not R1 C1 R2 C2 s hs a1 a2 xo l1 p1 l2 p2 xl xc A B X h1 h2 iA iB iX z1 z2 zx w ra rb rx h
  · exact lawSymReckons_ok R1 C1 R2 C2 s hs a1 a2 xo l1 p1 l2 p2 xl xc A B X h1 h2 iA iB iX z1 z2 zx w ra rb rx (by omega)


end Go.Proofs.YtgahdjfkmpadoaaGreat

/- How matrices that are handed in lie in memory. -/
namespace Go.Proofs.YtgahdjfkmpadoaaGreat
open Go.ChangeShapes Go.WideShapes Go.ChangeAt Go.RowKit Go.Joins Go.Proofs.Wd Go.Deep
set_option linter.unusedVariables false
set_option linter.unusedSimpArgs false
set_option maxRecDepth 10000

set_option maxRecDepth 20000 in
theorem open_mat {H : Type} {enc : TypeId × Value → H} {W : World} {n : Nat} {cs : List Value} {y : DataW H × List MemPlace} (h : DataW.trod enc Tryz.prog W 0 (fun _ => true) true n 24 cs = some y) :
    ∃ (R C : Int) (ao : Option Addr) (ln lc : Nat) (Z : Nat → Int), cs = [.int .i64 R, .int .i64 C, .slice ao ln lc] ∧ I64 R ∧ I64 C ∧ ln ≤ lc ∧ lc ≤ 9223372036854775807 ∧ Row W ao ln Z ∧ (∀ i, i < ln → I64 (Z i)) ∧ (ao = none → ln = 0 ∧ lc = 0) := by
  obtain ⟨xs, m, _, _, hlen, hxl, hf⟩ := DataW.trod_struct Tryz.underlying24 h
  rw [show Tryz.prog.cellsOf 24 = 3 by kernel_rfl] at hlen
  match cs, hlen with
  | [v0, v1, v2], _ =>
  match xs, hxl with
  | [x0, x1, x2], _ =>
  have f0 : DataW.trod enc Tryz.prog W 0 (fun _ => true) true m 3 (([v0, v1, v2].drop 0).take (Tryz.prog.cellsOf 3)) = some x0 := hf 0 _ rfl
  rw [cellsInt] at f0
  have f1 : DataW.trod enc Tryz.prog W 0 (fun _ => true) true m 3 (([v0, v1, v2].drop 1).take (Tryz.prog.cellsOf 3)) = some x1 := hf 1 _ rfl
  rw [cellsInt] at f1
  have f2 : DataW.trod enc Tryz.prog W 0 (fun _ => true) true m 22 (([v0, v1, v2].drop 2).take (Tryz.prog.cellsOf 22)) = some x2 := hf 2 _ rfl
  rw [cellsInts] at f2
  obtain ⟨R, e0, _, w0⟩ := DataW.trod_int Tryz.underlying3 f0
  obtain ⟨C, e1, _, w1⟩ := DataW.trod_int Tryz.underlying3 f1
  obtain ⟨lo, ln, lc, lz, rfl, l1, l2, l3, l4, l5⟩ := open_row0 f2
  simp at e0 e1
  subst e0 e1
  exact ⟨R, C, lo, ln, lc, lz, rfl, i64_wf w0, i64_wf w1, l1, l2, l3, l4, l5⟩

end Go.Proofs.YtgahdjfkmpadoaaGreat

/- The statement SymReckons holds for every input: the law returns true, and its arguments read afterwards as before. No condition. -/
namespace Go.Proofs.YtgahdjfkmpadoaaGreat.symReckons
open Go.ChangeShapes Go.WideShapes Go.ChangeAt Go.RowKit Go.Joins Go.Proofs.Wd
set_option linter.unusedVariables false
set_option linter.unusedSimpArgs false
set_option maxRecDepth 10000

theorem own : ownKnob Tryz.prog.godebug = none := by kernel_rfl

set_option maxRecDepth 100000 in
theorem lifted (os : Os) (started : os.Started) (H : Type) (enc : TypeId × Value → H) :
    ReturnsInHanded {} Tryz.checked os 3 .any (Rows.symReckonsSpec.pre6 enc Tryz.prog Tryz.f3 Rows.symReckonsRow.domain false) (Rows.symReckonsSpec.post enc Tryz.prog Tryz.f3 false true false false) := by
  refine returnsInHanded_of_change (C := Tryz.checked) own started (by kernel_rfl) Tryz.func3
    (ChangeSpec.witness6 (enc := enc) (C := Tryz.checked) false ⟨#[], #[.agg #[.int .i64 0, .int .i64 0, .slice none 0 0], .agg #[.int .i64 0, .int .i64 0, .slice none 0 0], .slice none 0 0, .int .i64 0], []⟩ 8 (by kernel_rfl) (by kernel_rfl) (by kernel_rfl) (by kernel_rfl)) ?_
  intro W base args ds gs before hval0 hW hcnd _
  have hval : ∀ (j : Nat) t v, Tryz.f3.params[j]? = some t → args[j]? = some v → Value.okWide Tryz.prog W .any base t v := hval0
  have hW' := hW
  obtain ⟨p, q, hA0, hV, rfl, hfz, hnd⟩ := hW
  have hA : DataW.TrodAll enc Tryz.prog W 0 (fun _ => true) true Tryz.f3.params.toList args.toList ds p := hA0
  rw [Tryz.params3] at hA hval
  obtain ⟨v0, vs0, d0, ds0, p0, q0, hargs, rfl, rfl, h0, r0⟩ := trodAll_cons hA
  obtain ⟨v1, vs1, d1, ds1, p1, q1, rfl, rfl, rfl, h1, r1⟩ := trodAll_cons r0
  obtain ⟨v2, vs2, d2, ds2, p2, q2, rfl, rfl, rfl, h2, r2⟩ := trodAll_cons r1
  obtain ⟨v3, vs3, d3, ds3, p3, q3, rfl, rfl, rfl, h3, r3⟩ := trodAll_cons r2
  obtain ⟨rfl, rfl, rfl⟩ := trodAll_nil r3
  obtain rfl : args = #[v0, v1, v2, v3] := by cases args; simp_all
  obtain ⟨rfl, rfl⟩ := trodVars_none hV
  have hlt := hW'.lt
  have k0 := h0
  obtain ⟨fuel0, t0⟩ := h0
  obtain ⟨cs0, rfl, _⟩ := okWide_struct Tryz.underlying24 (hval 0 24 v0 rfl rfl)
  obtain ⟨R0, C0, ao0, ln0, lc0, Z0, e0, iR0, iC0, le0, lm0, row0, num0, nil0⟩ := open_mat t0
  obtain rfl : cs0 = #[.int .i64 R0, .int .i64 C0, .slice ao0 ln0 lc0] := Array.ext' (by simpa [Value.cells] using e0)
  have k1 := h1
  obtain ⟨fuel1, t1⟩ := h1
  obtain ⟨cs1, rfl, _⟩ := okWide_struct Tryz.underlying24 (hval 1 24 v1 rfl rfl)
  obtain ⟨R1, C1, ao1, ln1, lc1, Z1, e1, iR1, iC1, le1, lm1, row1, num1, nil1⟩ := open_mat t1
  obtain rfl : cs1 = #[.int .i64 R1, .int .i64 C1, .slice ao1 ln1 lc1] := Array.ext' (by simpa [Value.cells] using e1)
  have k2 := h2
  obtain ⟨fuel2, t2⟩ := h2
  obtain ⟨ao2, ln2, lc2, rfl⟩ := okWide_slice Tryz.underlying22 (hval 2 22 v2 rfl rfl)
  obtain ⟨ya2, yl2, yc2, Z2, e2, le2, lm2, row2, num2, nil2⟩ := open_row0 t2
  cases e2
  obtain ⟨a3, rfl, rfl, rfl, wa3⟩ := open_int Tryz.underlying3 (hval 3 3 v3 rfl rfl) h3
  clear hA0 hval0
  refine (lawSymReckons R0 C0 R1 C1 a3 (i64_wf wa3) ao0 ao1 ao2 ln0 lc0 ln1 lc1 ln2 lc2 Z0 Z1 Z2 le0 le1 num0 num1 num2 nil0 nil1 nil2 W row0 row1 row2).mono fun e W' ⟨he, hg⟩ => ?_
  subst he
  exact ⟨_, rfl, post_of_kp (pa := p0 ++ (p1 ++ (p2 ++ ([] ++ ([]))))) (pv := []) hW' (fun _ => (trodAll_cons_mk (shut_bool Tryz.underlying4 _) trodAll_mk0)) (trodAll_cons_mk (WideElems.Trod_stays laid (by kernel_rfl) (of_decide_eq_true (by kernel_rfl)) k0 (fun x hx => hg.same (hlt x (by simp [hx]))) (fun x hx => by simpa using hlt x (by simp [hx]))) (trodAll_cons_mk (WideElems.Trod_stays laid (by kernel_rfl) (of_decide_eq_true (by kernel_rfl)) k1 (fun x hx => hg.same (hlt x (by simp [hx]))) (fun x hx => by simpa using hlt x (by simp [hx]))) (trodAll_cons_mk (WideElems.Trod_stays laid (by kernel_rfl) (of_decide_eq_true (by kernel_rfl)) k2 (fun x hx => hg.same (hlt x (by simp [hx]))) (fun x hx => by simpa using hlt x (by simp [hx]))) (trodAll_cons_mk (shut_int Tryz.underlying3 wa3) trodAll_mk0)))) rfl hg⟩

end Go.Proofs.YtgahdjfkmpadoaaGreat.symReckons
namespace Go.Proofs.YtgahdjfkmpadoaaGreat
theorem symReckons_holds : Rows.SymReckonsSaid :=
  OpenClaim.holds_of_wide 3 Tryz.f3 rfl rfl rfl rfl rfl rfl rfl ⟨rfl, rfl, rfl, rfl, rfl⟩ rfl rfl rfl rfl rfl (by kernel_rfl) Tryz.func3 (by kernel_rfl)
    (of_decide_eq_true (by kernel_rfl)) (by unfold Func.isWrapper; first | (rw [if_pos (by decide +kernel)]; kernel_rfl) | (rw [if_neg (by decide +kernel)]; exact ⟨rfl, rfl⟩))
    (fun os started H enc _ => symReckons.lifted os started H enc)
#print axioms symReckons_holds
end Go.Proofs.YtgahdjfkmpadoaaGreat
