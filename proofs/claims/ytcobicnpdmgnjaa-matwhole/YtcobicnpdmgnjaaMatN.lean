/- The laws' helper of. -/
import Derived.Test.YtcobicnpdmgnjaaMatM
import Derived.Test.YtcobicnpdmgnjaaAppA
namespace Go.Proofs.Ytcobicnpdmgnjaa
open Go.RowKit Go.Shelf Go.Proofs.Wd
set_option linter.unusedVariables false
set_option linter.unusedSimpArgs false

/-- A matrix that is gathered: its cells, the list so far. -/
def OfI (w : World) (r c : Int) (Z : Nat → Int) (k : Nat) (v : Value) (wr : World) : Prop :=
  wr.ownsRow (w.heap.size + 1 + 1) 3 1 v k (intL k Z) ∧ Blk w.heap.size #[.int .i64 0, .int .i64 0, .slice none 0 0] 24 wr ∧ Blk (w.heap.size + 1) #[.int .i64 r, .int .i64 c, v] 24 wr ∧ Kp w wr ∧ w.heap.size + 1 + 1 ≤ wr.heap.size
theorem OfI.app {w wr wa w4 : World} {r c : Int} {Z : Nat → Int} {k : Nat} {v v' : Value} (h : OfI w r c Z k v wr) (g : Grown wr wa) (ha : wa.ownsRow (w.heap.size + 1 + 1) 3 1 v k (intL k Z)) (hg : w4.ownsRow (w.heap.size + 1 + 1) 3 1 v' (k + 1) (intL (k + 1) Z) ∧ wa.grownBy w4 v.ownBlock) :
    Blk (w.heap.size + 1) #[.int .i64 r, .int .i64 c, v] 24 w4 ∧ OfI w r c Z (k + 1) v' (w4.setCell ⟨w.heap.size + 1, 2, none⟩ v') := by
  obtain ⟨h1, h2, h3, h4, h5⟩ := h
  have lt := ha.lt
  have far : ∀ j, j < w.heap.size + 1 + 1 → some j ≠ v.ownBlock := fun j hj e => by have := (lt _ e.symm).1; omega
  have b2 := Blk.by (Blk.grown h2 g) hg.2 (far _ (by omega))
  have b3 := Blk.by (Blk.grown h3 g) hg.2 (far _ (by omega))
  have q : Mod (w.heap.size + 1) w4 (w4.setCell ⟨w.heap.size + 1, 2, none⟩ v') := (Mod.refl _ _).setCell 2 _
  refine ⟨b3, owns_mod hg.1 q (by omega), Blk.keep b2 q (by omega), Blk.set b3 2 _, ((h4.grown g).by hg.2 (fun j e => by have := (lt j e).1; omega)).mod q (by omega), ?_⟩
  have := hg.2.size
  have := g.2.2
  have := q.2.2.2.2
  omega

set_option maxRecDepth 20000 in
set_option maxHeartbeats 4000000 in
theorem lawOf (r c : Int) (ao : Option Addr) (n cap : Nat) (L : Nat → Int) (hn : n ≤ 1000000) (hL : Hid (∀ i, i < n → -1000000 ≤ L i ∧ L i ≤ 1000000)) (w : World) (hr : Row w ao n L) :
    Calls Try.prog 33 #[.int .i64 r, .int .i64 c, .slice ao n cap] w fun e w' => CopyM r c n (fun i => L i * 4294967296) w e w' := by
  obtain ⟨Z, hZ⟩ : ∃ Z, Z = fun i => L i * 4294967296 := ⟨_, rfl⟩
  rw [← hZ]
  have EZ : Hid (∀ i, Z i = L i * 4294967296) := fun i => by rw [hZ]
  have G : Grown w ((w.alloc (.cells #[.int .i64 0, .int .i64 0, .slice none 0 0] 24)).alloc (.cells #[.int .i64 r, .int .i64 c, .slice none 0 0] 24)) := ((Grown.refl _).alloc _ _).alloc _ _
  have ST : Hid (OfI w r c Z 0 (.slice none 0 0) ((w.alloc (.cells #[.int .i64 0, .int .i64 0, .slice none 0 0] 24)).alloc (.cells #[.int .i64 r, .int .i64 c, .slice none 0 0] 24))) :=
    ⟨World.ownsRow_nil _ _ _ _, Blk.grown (Blk.new w _ _) ((Grown.refl _).alloc _ _), blk_new2 w _ _ _, Kp.of G, by simp⟩
  have HR := hide hr
  clear hZ G hr
  go_enter Try.func33, Try.ntmps33
  go_wp2_with fail
  generalize (w.alloc (.cells #[.int .i64 0, .int .i64 0, .slice none 0 0] 24)).alloc (.cells #[.int .i64 r, .int .i64 c, .slice none 0 0] 24) = w1 at *
  go_loopw [8] (fun i wr => ∃ k : Nat, k ≤ n ∧ i = .int .i64 k ∧ Hid (∃ v, OfI w r c Z k v wr)) (fun i _ => n - (intOf i).toNat)
  case atStart => exact ⟨0, Nat.zero_le _, rfl, _, unhide ST⟩
  case round =>
    obtain ⟨k, hk, rfl, HI⟩ := hrel
    by_cases hlt : k < n
    · obtain ⟨v, hI⟩ := unhide HI
      obtain ⟨b, o, rfl, hc0⟩ := ((unhide HR).kp hI.2.2.2.1).at hlt
      obtain ⟨x, ex⟩ : ∃ x, L k = x := ⟨_, rfl⟩
      rw [ex] at hc0
      have xb := unhide hL k hlt
      rw [ex] at xb
      have EK : Hid (Z k = x * 4294967296) := by rw [← ex]; exact unhide EZ k
      have wx : IntKind.i64.wrap (x * 4294967296) = x * 4294967296 := by rw [IntKind.wrap_i64]; omega
      have y2 : wr.cell? ⟨w.heap.size + 1, 2, none⟩ = some v := Blk.cell hI.2.2.1 2
      have GA : Hid (Grown wr.drew (wr.drew.alloc (.cells #[.int .i64 (x * 4294967296)] 3))) := (Grown.refl _).alloc _ _
      have A2 : Hid ((wr.drew.alloc (.cells #[.int .i64 (x * 4294967296)] 3)).ownsRow (w.heap.size + 1 + 1) 3 1 v k (intL k Z) ∧ (wr.drew.alloc (.cells #[.int .i64 (x * 4294967296)] 3)).cell? ⟨wr.heap.size, 0, none⟩ = some (.int .i64 (x * 4294967296)) ∧ w.heap.size + 1 + 1 ≤ (wr.drew.alloc (.cells #[.int .i64 (x * 4294967296)] 3)).heap.size) := by
        refine ⟨(show wr.drew.ownsRow _ _ _ _ _ _ from hI.1).alloc _, Blk.cell (Blk.new wr.drew _ _) 0, ?_⟩
        have := hI.2.2.2.2
        simp
        omega
      have HH : Hid (OfI w r c Z k v wr.drew) := hI
      have hk1 : k ≤ 1000000 := by omega
      have i0 : (0 : Int) ≤ (k : Int) := by omega
      have i1 : (k : Int) < (n : Int) := by omega
      have hz1 : b < wr.heap.size := heap_gt hc0
      have hz2 : w.heap.size + 1 < wr.heap.size := heap_gt y2
      have hz3 : b ≠ w.heap.size + 1 ∨ True := Or.inr trivial
      clear hI HI ex xb hz3
      go_wp2
      go_region_law (refine step_append_one rfl (.tmp 19) (.tmp 25) rfl (w.heap.size + 1 + 1) k v Z (x * 4294967296) (unhide EK) wr.heap.size (by first | rfl | simp [Act.eval, Act.put]) (by first | rfl | simp [Act.eval, Act.put]) (unhide A2).1 (unhide A2).2.1 hk1 (unhide A2).2.2 ?_; intro v' w4 hg4; obtain ⟨g', cap', rfl⟩ := ownsRow_succ (unhide hg4).1; have P := OfI.app (unhide HH) (unhide GA) (unhide A2).1 (unhide hg4); have q2 : w4.cell? ⟨w.heap.size + 1, 2, none⟩ = some v := (Blk.cell P.1 2); have q3 := Blk.free P.1 2; have HP := hide P.2; clear P hg4)
      all_goals go_wp2
      all_goals go_roundw
      all_goals first | exact ⟨k + 1, by omega, by go_num, _, unhide HP⟩ | (simp [intOf]; omega)
    · obtain rfl : k = n := by omega
      obtain ⟨v, h0, h2, hM, h5, h6⟩ := unhide HI
      obtain ⟨ao2, cap2, rfl, h1, h3, h4⟩ := owns_rowC h0
      have y0 : wr.cell? ⟨w.heap.size + 1, 0, none⟩ = some (.int .i64 r) := Blk.cell hM 0
      have y1 : wr.cell? ⟨w.heap.size + 1, 1, none⟩ = some (.int .i64 c) := Blk.cell hM 1
      have y2 : wr.cell? ⟨w.heap.size + 1, 2, none⟩ = some (.slice ao2 k cap2) := Blk.cell hM 2
      have e0 : wr.cell? ⟨w.heap.size, 0, none⟩ = some (.int .i64 0) := Blk.cell h2 0
      have e1 : wr.cell? ⟨w.heap.size, 1, none⟩ = some (.int .i64 0) := Blk.cell h2 1
      have e2 : wr.cell? ⟨w.heap.size, 2, none⟩ = some (.slice none 0 0) := Blk.cell h2 2
      have f := Blk.free h2
      have R := hide (And.intro h2 (And.intro h1 (And.intro h3 (And.intro h4 h5))))
      clear h0 h2 hM h1 h3 h4 h5 h6 HI
      go_wp2
      obtain ⟨h2, h1, h3, h4, h5⟩ := unhide R
      have P := putM h2 (.int .i64 r) (.int .i64 c) (.slice ao2 k cap2)
      generalize (((wr.setCell ⟨w.heap.size, 0, none⟩ (.int .i64 r)).setCell ⟨w.heap.size, 1, none⟩ (.int .i64 c)).setCell ⟨w.heap.size, 2, none⟩ (.slice ao2 k cap2)) = wE at *
      have c0 : wE.cell? ⟨w.heap.size, 0, none⟩ = some (.int .i64 r) := Blk.cell P.1 0
      have c1 : wE.cell? ⟨w.heap.size, 1, none⟩ = some (.int .i64 c) := Blk.cell P.1 1
      have c2 : wE.cell? ⟨w.heap.size, 2, none⟩ = some (.slice ao2 k cap2) := Blk.cell P.1 2
      refine bodyPost_ret (v := .agg #[.int .i64 r, .int .i64 c, .slice ao2 k cap2]) (by simp [results, Try.results33, go_sem, c0, c1, c2]) rfl ?_
      exact ⟨_, _, rfl, h1, h3.mod P.2 (h4 _ (by omega)), fun U hU => h4 U (by omega), h5.mod P.2 (Nat.le_refl _)⟩

end Go.Proofs.Ytcobicnpdmgnjaa
