/- The walk of UnitNone. -/
import Derived.Test.YtecelkneiffceaaUnitG
namespace Go.Proofs.Ytecelkneiffceaa
open Go.RowKit Go.Proofs.Wd
set_option linter.unusedVariables false
set_option linter.unusedSimpArgs false
attribute [local go_sem ↓] Go.wp_at_zero Go.wp_at_succ

theorem acts_one {w : World} {b : Nat} {x : ActV} {t : TypeId} (h : Blk b x.cells t w) : Acts w (some ⟨b, 0, none⟩) 1 (fun _ => x) := by
  refine Or.inr ⟨b, 0, rfl, fun i hi j hj => ?_⟩
  obtain rfl : i = 0 := by omega
  rw [show 0 + 0 * 6 + j = j by omega]
  exact Blk.cell h j

set_option maxHeartbeats 400000 in
theorem noneActAll (x : ActV) (p : Option Addr) (U : Nat) (c : Bool) (hi : x.nums) (hp : (p = none ∧ x.kind ≠ 8 ∧ x.kind ≠ 9) ∨ p = some ⟨U, 0, none⟩) (w : World) (h : NB U c w) :
    Calls Try.prog 9 #[.pointer p, .agg x.cells] w fun e w' => e = .returned (.tuple #[.int .i64 0, .int .i64 (noneE x.kind)]) ∧ (∃ c, NB U c w') ∧ Mod U w w' := by
  rcases hp with ⟨rfl, k8, k9⟩ | rfl
  · exact (noneAct x none hi k8 k9 w (Or.inl rfl)).mono fun e w' ⟨h1, h2⟩ => ⟨h1, ⟨c, Blk.grown h h2⟩, Mod.of h2⟩
  · by_cases k : x.kind = 8 ∨ x.kind = 9
    · have e7 : noneE x.kind = 0 := by unfold noneE; rw [if_neg (by omega)]
      rw [e7]
      refine (unmadeAct x U c k w h).mono fun e w' ⟨h1, h2, h3⟩ => ⟨h1, ?_, h3⟩
      rcases h2 with h2 | ⟨V, d, h2, h4⟩
      · cases h2
      · cases h2
        exact ⟨d, h4⟩
    · exact (noneAct x _ hi (by omega) (by omega) w (Or.inr ⟨U, c, rfl, h⟩)).mono fun e w' ⟨h1, h2⟩ => ⟨h1, ⟨c, Blk.grown h h2⟩, Mod.of h2⟩

set_option maxRecDepth 100000 in
set_option maxHeartbeats 8000000 in
theorem lawUnitNone (x : ActV) (hx : x.ln ≤ 9223372036854775807 ∧ x.kn ≤ 9223372036854775807) (hi : x.nums) (w : World) :
    Calls Try.prog 3 #[.agg x.cells] w fun e w' => e = .returned (.bool true) ∧ Grown w w' := by
  have HI := hide hi
  have L1 := hide (fun (w : World) h => lawLong (some ⟨w.heap.size + 1, 0, none⟩) 1 1 (fun _ => x) (by omega) (fun _ _ => hx) ((w.alloc (.cells x.cells 24)).alloc (.cells x.cells 24)) h)
  clear hi hx
  obtain ⟨kind, a, b, lo, ln, lc, ko, kn, kc, is, lz, kz⟩ := x
  show Calls Try.prog 3 #[.agg #[.int .i64 kind, .int .i64 a, .int .i64 b, .slice lo ln lc, .slice ko kn kc, .bool is]] w _
  go_enter Try.func3, Try.ntmps3
  go_wp2_with fail
  refine (unhide L1 w (acts_one (blk_new2 _ _ _ _))).mono ?_
  clear L1
  rintro e w1 hp
  obtain ⟨r, rfl, e1, -⟩ := hp
  have G1 : Hid (Grown w w1) := by rw [e1]; exact ((Grown.refl _).alloc _ _).alloc _ _
  have B1 : Hid (Blk w.heap.size #[.int .i64 kind, .int .i64 a, .int .i64 b, .slice lo ln lc, .slice ko kn kc, .bool is] 24 w1) := by rw [e1]; exact Blk.grown (heap_alloc_new w _) ((Grown.refl _).alloc _ _)
  clear e1
  have hz : w.heap.size < w1.heap.size := Blk.lt (unhide B1)
  have HZ : Hid (w.heap.size ≤ w1.heap.size) := Nat.le_of_lt hz
  generalize w.heap.size = xb at B1 hz ⊢
  cases r with
  | true =>
    go_wp2_with fail
    refine (lawAwake _).mono ?_
    rintro e w2 ⟨rfl, g2⟩
    have G2 := hide (gtrans (unhide G1) g2)
    clear g2
    go_wp2
    go_ret
    exact ⟨rfl, unhide G2⟩
  | false =>
    go_wp2
    go_loopw [4] (fun i wr => ∃ k : Nat, k ≤ 2 ∧ i = .int .i64 k ∧ Hid (Blk xb #[.int .i64 kind, .int .i64 a, .int .i64 b, .slice lo ln lc, .slice ko kn kc, .bool is] 24 wr ∧ (∃ c, NB w1.heap.size c wr) ∧ Blk (w1.heap.size + 1) #[.pointer none, .pointer (some ⟨w1.heap.size, 0, none⟩)] 28 wr ∧ Grown w wr)) (fun i _ => 2 - (intOf i).toNat)
    case atStart => exact ⟨0, by omega, rfl, Blk.grown (unhide B1) (((Grown.refl _).alloc _ _).alloc _ _), ⟨false, Blk.grown (heap_alloc_new w1 _) ((Grown.refl _).alloc _ _)⟩, blk_new2 _ _ _ _, ((unhide G1).alloc _ _).alloc _ _⟩
    case round =>
      obtain ⟨k, hk, rfl, HB⟩ := hrel
      clear B1 G1
      have q0 : wr.cell? ⟨xb, 0, none⟩ = some (.int .i64 kind) := Blk.cell (unhide HB).1 0
      rcases (show k = 0 ∨ k = 1 ∨ k = 2 by omega) with rfl | rfl | rfl
      · by_cases k8 : kind = 8
        · subst k8
          go_wp2
          go_roundw
          case rel => exact ⟨1, by omega, rfl, unhide HB⟩
          case measure => simp [intOf]
        by_cases k9 : kind = 9
        · subst k9
          go_wp2
          go_roundw
          case rel => exact ⟨1, by omega, rfl, unhide HB⟩
          case measure => simp [intOf]
        clear q0
        by_cases k7 : kind = 7
        · subst k7
          clear k8 k9
          obtain ⟨cc, hnb⟩ := (unhide HB).2.1
          have NB1 := hide hnb
          clear hnb
          have ACT := hide (fun w (h : NB w1.heap.size cc w) => noneActAll ⟨7, a, b, lo, ln, lc, ko, kn, kc, is, lz, kz⟩ none w1.heap.size cc (unhide HI) (Or.inl ⟨rfl, by show (7 : Int) ≠ 8; decide, by show (7 : Int) ≠ 9; decide⟩) w h)
          change Hid (∀ w, NB w1.heap.size cc w → Calls Try.prog 9 #[.pointer none, .agg #[.int .i64 7, .int .i64 a, .int .i64 b, .slice lo ln lc, .slice ko kn kc, .bool is]] w fun e w' => e = .returned (.tuple #[.int .i64 0, .int .i64 (noneE 7)]) ∧ (∃ c, NB w1.heap.size c w') ∧ Mod w1.heap.size w w') at ACT
          rw [show noneE 7 = 1 by decide] at ACT
          have c0 := Blk.cell (unhide HB).1 0
          have c1 := Blk.cell (unhide HB).1 1
          have c2 := Blk.cell (unhide HB).1 2
          have c3 := Blk.cell (unhide HB).1 3
          have c4 := Blk.cell (unhide HB).1 4
          have c5 := Blk.cell (unhide HB).1 5
          have cp := Blk.cell (unhide HB).2.2.1 0
          simp only [List.getElem?_toArray, List.getElem?_cons_zero, List.getElem?_cons_succ] at c0 c1 c2 c3 c4 c5 cp
          go_wp2
          go_region_held3 (fun w' => w'.cell? ⟨xb, 0, none⟩ = some (.int .i64 7) ∧ w'.cell? ⟨xb, 1, none⟩ = some (.int .i64 a) ∧ w'.cell? ⟨xb, 2, none⟩ = some (.int .i64 b) ∧ w'.cell? ⟨xb, 3, none⟩ = some (.slice lo ln lc) ∧ w'.cell? ⟨xb, 4, none⟩ = some (.slice ko kn kc) ∧ w'.cell? ⟨xb, 5, none⟩ = some (.bool is) ∧ w'.cell? ⟨w1.heap.size + 1, 0, none⟩ = some (.pointer none)) (simp [go_sem, *])
            ((go_at_call 9; refine (unhide ACT _ (by exact unhide NB1)).mono ?_; rintro e w2 ⟨rfl, h2, m2⟩; have HB2 : Hid (Blk xb #[.int .i64 7, .int .i64 a, .int .i64 b, .slice lo ln lc, .slice ko kn kc, .bool is] 24 w2 ∧ (∃ c, NB w1.heap.size c w2) ∧ Blk (w1.heap.size + 1) #[.pointer none, .pointer (some ⟨w1.heap.size, 0, none⟩)] 28 w2 ∧ Grown w w2) := ⟨Blk.keep (unhide HB).1 (by exact m2) (Nat.ne_of_lt hz), h2, Blk.keep (unhide HB).2.2.1 (by exact m2) (by omega), Mod.grown (by exact Grown.drew (unhide HB).2.2.2) (by exact m2) (unhide HZ)⟩; have d0 := Blk.cell (unhide HB2).1 0; have d1 := Blk.cell (unhide HB2).1 1; have d2 := Blk.cell (unhide HB2).1 2; have d3 := Blk.cell (unhide HB2).1 3; have d4 := Blk.cell (unhide HB2).1 4; have d5 := Blk.cell (unhide HB2).1 5; have dp := Blk.cell (unhide HB2).2.2.1 0; simp only [List.getElem?_toArray, List.getElem?_cons_zero, List.getElem?_cons_succ] at d0 d1 d2 d3 d4 d5 dp; clear h2 m2))
          clear HB NB1 c0 c1 c2 c3 c4 c5 cp ACT
          obtain ⟨cd, hnd⟩ := (unhide HB2).2.1
          have ND : Hid (NU none w2) := Or.inl rfl
          clear hnd
          go_wp2_with fail
          refine (noneCount none _ (unhide ND)).mono ?_
          rintro e w3 ⟨rfl, rfl⟩
          go_wp2
          go_roundw
          case rel => exact ⟨1, by omega, rfl, unhide HB2⟩
          case measure => simp [intOf]
        · obtain ⟨cc, hnb⟩ := (unhide HB).2.1
          have NB1 := hide hnb
          clear hnb
          have ACT := hide (fun w (h : NB w1.heap.size cc w) => noneActAll ⟨kind, a, b, lo, ln, lc, ko, kn, kc, is, lz, kz⟩ none w1.heap.size cc (unhide HI) (Or.inl ⟨rfl, k8, k9⟩) w h)
          change Hid (∀ w, NB w1.heap.size cc w → Calls Try.prog 9 #[.pointer none, .agg #[.int .i64 kind, .int .i64 a, .int .i64 b, .slice lo ln lc, .slice ko kn kc, .bool is]] w fun e w' => e = .returned (.tuple #[.int .i64 0, .int .i64 (noneE kind)]) ∧ (∃ c, NB w1.heap.size c w') ∧ Mod w1.heap.size w w') at ACT
          rw [show noneE kind = 0 by unfold noneE; rw [if_neg k7]] at ACT
          have c0 := Blk.cell (unhide HB).1 0
          have c1 := Blk.cell (unhide HB).1 1
          have c2 := Blk.cell (unhide HB).1 2
          have c3 := Blk.cell (unhide HB).1 3
          have c4 := Blk.cell (unhide HB).1 4
          have c5 := Blk.cell (unhide HB).1 5
          have cp := Blk.cell (unhide HB).2.2.1 0
          simp only [List.getElem?_toArray, List.getElem?_cons_zero, List.getElem?_cons_succ] at c0 c1 c2 c3 c4 c5 cp
          have b8 : (kind == 8) = false := by simpa using k8
          have b9 : (kind == 9) = false := by simpa using k9
          go_wp2
          go_region_held3 (fun w' => w'.cell? ⟨xb, 0, none⟩ = some (.int .i64 kind) ∧ w'.cell? ⟨xb, 1, none⟩ = some (.int .i64 a) ∧ w'.cell? ⟨xb, 2, none⟩ = some (.int .i64 b) ∧ w'.cell? ⟨xb, 3, none⟩ = some (.slice lo ln lc) ∧ w'.cell? ⟨xb, 4, none⟩ = some (.slice ko kn kc) ∧ w'.cell? ⟨xb, 5, none⟩ = some (.bool is) ∧ w'.cell? ⟨w1.heap.size + 1, 0, none⟩ = some (.pointer none)) (simp [go_sem, *])
            ((go_at_call 9; refine (unhide ACT _ (by exact unhide NB1)).mono ?_; rintro e w2 ⟨rfl, h2, m2⟩; have HB2 : Hid (Blk xb #[.int .i64 kind, .int .i64 a, .int .i64 b, .slice lo ln lc, .slice ko kn kc, .bool is] 24 w2 ∧ (∃ c, NB w1.heap.size c w2) ∧ Blk (w1.heap.size + 1) #[.pointer none, .pointer (some ⟨w1.heap.size, 0, none⟩)] 28 w2 ∧ Grown w w2) := ⟨Blk.keep (unhide HB).1 (by exact m2) (Nat.ne_of_lt hz), h2, Blk.keep (unhide HB).2.2.1 (by exact m2) (by omega), Mod.grown (by exact Grown.drew (unhide HB).2.2.2) (by exact m2) (unhide HZ)⟩; have d0 := Blk.cell (unhide HB2).1 0; have d1 := Blk.cell (unhide HB2).1 1; have d2 := Blk.cell (unhide HB2).1 2; have d3 := Blk.cell (unhide HB2).1 3; have d4 := Blk.cell (unhide HB2).1 4; have d5 := Blk.cell (unhide HB2).1 5; have dp := Blk.cell (unhide HB2).2.2.1 0; simp only [List.getElem?_toArray, List.getElem?_cons_zero, List.getElem?_cons_succ] at d0 d1 d2 d3 d4 d5 dp; clear h2 m2))
          clear HB NB1 c0 c1 c2 c3 c4 c5 cp ACT
          obtain ⟨cd, hnd⟩ := (unhide HB2).2.1
          have ND : Hid (NU none w2) := Or.inl rfl
          clear hnd
          go_wp2_with fail
          refine (noneCount none _ (unhide ND)).mono ?_
          rintro e w3 ⟨rfl, rfl⟩
          go_wp2
          go_roundw
          case rel => exact ⟨1, by omega, rfl, unhide HB2⟩
          case measure => simp [intOf]
      · clear q0
        by_cases k8 : kind = 8
        · subst k8
          obtain ⟨cc, hnb⟩ := (unhide HB).2.1
          have NB1 := hide hnb
          clear hnb
          have ACT := hide (fun w (h : NB w1.heap.size cc w) => noneActAll ⟨8, a, b, lo, ln, lc, ko, kn, kc, is, lz, kz⟩ (some ⟨w1.heap.size, 0, none⟩) w1.heap.size cc (unhide HI) (Or.inr rfl) w h)
          change Hid (∀ w, NB w1.heap.size cc w → Calls Try.prog 9 #[.pointer (some ⟨w1.heap.size, 0, none⟩), .agg #[.int .i64 8, .int .i64 a, .int .i64 b, .slice lo ln lc, .slice ko kn kc, .bool is]] w fun e w' => e = .returned (.tuple #[.int .i64 0, .int .i64 (noneE 8)]) ∧ (∃ c, NB w1.heap.size c w') ∧ Mod w1.heap.size w w') at ACT
          rw [show noneE 8 = 0 by decide] at ACT
          have c0 := Blk.cell (unhide HB).1 0
          have c1 := Blk.cell (unhide HB).1 1
          have c2 := Blk.cell (unhide HB).1 2
          have c3 := Blk.cell (unhide HB).1 3
          have c4 := Blk.cell (unhide HB).1 4
          have c5 := Blk.cell (unhide HB).1 5
          have cp := Blk.cell (unhide HB).2.2.1 1
          simp only [List.getElem?_toArray, List.getElem?_cons_zero, List.getElem?_cons_succ] at c0 c1 c2 c3 c4 c5 cp
          go_wp2
          go_region_held3 (fun w' => w'.cell? ⟨xb, 0, none⟩ = some (.int .i64 8) ∧ w'.cell? ⟨xb, 1, none⟩ = some (.int .i64 a) ∧ w'.cell? ⟨xb, 2, none⟩ = some (.int .i64 b) ∧ w'.cell? ⟨xb, 3, none⟩ = some (.slice lo ln lc) ∧ w'.cell? ⟨xb, 4, none⟩ = some (.slice ko kn kc) ∧ w'.cell? ⟨xb, 5, none⟩ = some (.bool is) ∧ w'.cell? ⟨w1.heap.size + 1, 1, none⟩ = some (.pointer (some ⟨w1.heap.size, 0, none⟩))) (simp [go_sem, *])
            ((go_at_call 9; refine (unhide ACT _ (by exact unhide NB1)).mono ?_; rintro e w2 ⟨rfl, h2, m2⟩; have HB2 : Hid (Blk xb #[.int .i64 8, .int .i64 a, .int .i64 b, .slice lo ln lc, .slice ko kn kc, .bool is] 24 w2 ∧ (∃ c, NB w1.heap.size c w2) ∧ Blk (w1.heap.size + 1) #[.pointer none, .pointer (some ⟨w1.heap.size, 0, none⟩)] 28 w2 ∧ Grown w w2) := ⟨Blk.keep (unhide HB).1 (by exact m2) (Nat.ne_of_lt hz), h2, Blk.keep (unhide HB).2.2.1 (by exact m2) (by omega), Mod.grown (by exact Grown.drew (unhide HB).2.2.2) (by exact m2) (unhide HZ)⟩; have d0 := Blk.cell (unhide HB2).1 0; have d1 := Blk.cell (unhide HB2).1 1; have d2 := Blk.cell (unhide HB2).1 2; have d3 := Blk.cell (unhide HB2).1 3; have d4 := Blk.cell (unhide HB2).1 4; have d5 := Blk.cell (unhide HB2).1 5; have dp := Blk.cell (unhide HB2).2.2.1 1; simp only [List.getElem?_toArray, List.getElem?_cons_zero, List.getElem?_cons_succ] at d0 d1 d2 d3 d4 d5 dp; clear h2 m2))
          clear HB NB1 c0 c1 c2 c3 c4 c5 cp ACT
          obtain ⟨cd, hnd⟩ := (unhide HB2).2.1
          have ND : Hid (NU (some ⟨w1.heap.size, 0, none⟩) w2) := Or.inr ⟨_, cd, rfl, hnd⟩
          clear hnd
          go_wp2_with fail
          refine (noneCount (some ⟨w1.heap.size, 0, none⟩) _ (unhide ND)).mono ?_
          rintro e w3 ⟨rfl, rfl⟩
          go_wp2
          go_roundw
          case rel => exact ⟨2, by omega, rfl, unhide HB2⟩
          case measure => simp [intOf]
        by_cases k9 : kind = 9
        · subst k9
          clear k8
          obtain ⟨cc, hnb⟩ := (unhide HB).2.1
          have NB1 := hide hnb
          clear hnb
          have ACT := hide (fun w (h : NB w1.heap.size cc w) => noneActAll ⟨9, a, b, lo, ln, lc, ko, kn, kc, is, lz, kz⟩ (some ⟨w1.heap.size, 0, none⟩) w1.heap.size cc (unhide HI) (Or.inr rfl) w h)
          change Hid (∀ w, NB w1.heap.size cc w → Calls Try.prog 9 #[.pointer (some ⟨w1.heap.size, 0, none⟩), .agg #[.int .i64 9, .int .i64 a, .int .i64 b, .slice lo ln lc, .slice ko kn kc, .bool is]] w fun e w' => e = .returned (.tuple #[.int .i64 0, .int .i64 (noneE 9)]) ∧ (∃ c, NB w1.heap.size c w') ∧ Mod w1.heap.size w w') at ACT
          rw [show noneE 9 = 0 by decide] at ACT
          have c0 := Blk.cell (unhide HB).1 0
          have c1 := Blk.cell (unhide HB).1 1
          have c2 := Blk.cell (unhide HB).1 2
          have c3 := Blk.cell (unhide HB).1 3
          have c4 := Blk.cell (unhide HB).1 4
          have c5 := Blk.cell (unhide HB).1 5
          have cp := Blk.cell (unhide HB).2.2.1 1
          simp only [List.getElem?_toArray, List.getElem?_cons_zero, List.getElem?_cons_succ] at c0 c1 c2 c3 c4 c5 cp
          go_wp2
          go_region_held3 (fun w' => w'.cell? ⟨xb, 0, none⟩ = some (.int .i64 9) ∧ w'.cell? ⟨xb, 1, none⟩ = some (.int .i64 a) ∧ w'.cell? ⟨xb, 2, none⟩ = some (.int .i64 b) ∧ w'.cell? ⟨xb, 3, none⟩ = some (.slice lo ln lc) ∧ w'.cell? ⟨xb, 4, none⟩ = some (.slice ko kn kc) ∧ w'.cell? ⟨xb, 5, none⟩ = some (.bool is) ∧ w'.cell? ⟨w1.heap.size + 1, 1, none⟩ = some (.pointer (some ⟨w1.heap.size, 0, none⟩))) (simp [go_sem, *])
            ((go_at_call 9; refine (unhide ACT _ (by exact unhide NB1)).mono ?_; rintro e w2 ⟨rfl, h2, m2⟩; have HB2 : Hid (Blk xb #[.int .i64 9, .int .i64 a, .int .i64 b, .slice lo ln lc, .slice ko kn kc, .bool is] 24 w2 ∧ (∃ c, NB w1.heap.size c w2) ∧ Blk (w1.heap.size + 1) #[.pointer none, .pointer (some ⟨w1.heap.size, 0, none⟩)] 28 w2 ∧ Grown w w2) := ⟨Blk.keep (unhide HB).1 (by exact m2) (Nat.ne_of_lt hz), h2, Blk.keep (unhide HB).2.2.1 (by exact m2) (by omega), Mod.grown (by exact Grown.drew (unhide HB).2.2.2) (by exact m2) (unhide HZ)⟩; have d0 := Blk.cell (unhide HB2).1 0; have d1 := Blk.cell (unhide HB2).1 1; have d2 := Blk.cell (unhide HB2).1 2; have d3 := Blk.cell (unhide HB2).1 3; have d4 := Blk.cell (unhide HB2).1 4; have d5 := Blk.cell (unhide HB2).1 5; have dp := Blk.cell (unhide HB2).2.2.1 1; simp only [List.getElem?_toArray, List.getElem?_cons_zero, List.getElem?_cons_succ] at d0 d1 d2 d3 d4 d5 dp; clear h2 m2))
          clear HB NB1 c0 c1 c2 c3 c4 c5 cp ACT
          obtain ⟨cd, hnd⟩ := (unhide HB2).2.1
          have ND : Hid (NU (some ⟨w1.heap.size, 0, none⟩) w2) := Or.inr ⟨_, cd, rfl, hnd⟩
          clear hnd
          go_wp2_with fail
          refine (noneCount (some ⟨w1.heap.size, 0, none⟩) _ (unhide ND)).mono ?_
          rintro e w3 ⟨rfl, rfl⟩
          go_wp2
          go_roundw
          case rel => exact ⟨2, by omega, rfl, unhide HB2⟩
          case measure => simp [intOf]
        by_cases k7 : kind = 7
        · subst k7
          clear k8 k9
          obtain ⟨cc, hnb⟩ := (unhide HB).2.1
          have NB1 := hide hnb
          clear hnb
          have ACT := hide (fun w (h : NB w1.heap.size cc w) => noneActAll ⟨7, a, b, lo, ln, lc, ko, kn, kc, is, lz, kz⟩ (some ⟨w1.heap.size, 0, none⟩) w1.heap.size cc (unhide HI) (Or.inr rfl) w h)
          change Hid (∀ w, NB w1.heap.size cc w → Calls Try.prog 9 #[.pointer (some ⟨w1.heap.size, 0, none⟩), .agg #[.int .i64 7, .int .i64 a, .int .i64 b, .slice lo ln lc, .slice ko kn kc, .bool is]] w fun e w' => e = .returned (.tuple #[.int .i64 0, .int .i64 (noneE 7)]) ∧ (∃ c, NB w1.heap.size c w') ∧ Mod w1.heap.size w w') at ACT
          rw [show noneE 7 = 1 by decide] at ACT
          have c0 := Blk.cell (unhide HB).1 0
          have c1 := Blk.cell (unhide HB).1 1
          have c2 := Blk.cell (unhide HB).1 2
          have c3 := Blk.cell (unhide HB).1 3
          have c4 := Blk.cell (unhide HB).1 4
          have c5 := Blk.cell (unhide HB).1 5
          have cp := Blk.cell (unhide HB).2.2.1 1
          simp only [List.getElem?_toArray, List.getElem?_cons_zero, List.getElem?_cons_succ] at c0 c1 c2 c3 c4 c5 cp
          go_wp2
          go_region_held3 (fun w' => w'.cell? ⟨xb, 0, none⟩ = some (.int .i64 7) ∧ w'.cell? ⟨xb, 1, none⟩ = some (.int .i64 a) ∧ w'.cell? ⟨xb, 2, none⟩ = some (.int .i64 b) ∧ w'.cell? ⟨xb, 3, none⟩ = some (.slice lo ln lc) ∧ w'.cell? ⟨xb, 4, none⟩ = some (.slice ko kn kc) ∧ w'.cell? ⟨xb, 5, none⟩ = some (.bool is) ∧ w'.cell? ⟨w1.heap.size + 1, 1, none⟩ = some (.pointer (some ⟨w1.heap.size, 0, none⟩))) (simp [go_sem, *])
            ((go_at_call 9; refine (unhide ACT _ (by exact unhide NB1)).mono ?_; rintro e w2 ⟨rfl, h2, m2⟩; have HB2 : Hid (Blk xb #[.int .i64 7, .int .i64 a, .int .i64 b, .slice lo ln lc, .slice ko kn kc, .bool is] 24 w2 ∧ (∃ c, NB w1.heap.size c w2) ∧ Blk (w1.heap.size + 1) #[.pointer none, .pointer (some ⟨w1.heap.size, 0, none⟩)] 28 w2 ∧ Grown w w2) := ⟨Blk.keep (unhide HB).1 (by exact m2) (Nat.ne_of_lt hz), h2, Blk.keep (unhide HB).2.2.1 (by exact m2) (by omega), Mod.grown (by exact Grown.drew (unhide HB).2.2.2) (by exact m2) (unhide HZ)⟩; have d0 := Blk.cell (unhide HB2).1 0; have d1 := Blk.cell (unhide HB2).1 1; have d2 := Blk.cell (unhide HB2).1 2; have d3 := Blk.cell (unhide HB2).1 3; have d4 := Blk.cell (unhide HB2).1 4; have d5 := Blk.cell (unhide HB2).1 5; have dp := Blk.cell (unhide HB2).2.2.1 1; simp only [List.getElem?_toArray, List.getElem?_cons_zero, List.getElem?_cons_succ] at d0 d1 d2 d3 d4 d5 dp; clear h2 m2))
          clear HB NB1 c0 c1 c2 c3 c4 c5 cp ACT
          obtain ⟨cd, hnd⟩ := (unhide HB2).2.1
          have ND : Hid (NU (some ⟨w1.heap.size, 0, none⟩) w2) := Or.inr ⟨_, cd, rfl, hnd⟩
          clear hnd
          go_wp2_with fail
          refine (noneCount (some ⟨w1.heap.size, 0, none⟩) _ (unhide ND)).mono ?_
          rintro e w3 ⟨rfl, rfl⟩
          go_wp2
          go_roundw
          case rel => exact ⟨2, by omega, rfl, unhide HB2⟩
          case measure => simp [intOf]
        · obtain ⟨cc, hnb⟩ := (unhide HB).2.1
          have NB1 := hide hnb
          clear hnb
          have ACT := hide (fun w (h : NB w1.heap.size cc w) => noneActAll ⟨kind, a, b, lo, ln, lc, ko, kn, kc, is, lz, kz⟩ (some ⟨w1.heap.size, 0, none⟩) w1.heap.size cc (unhide HI) (Or.inr rfl) w h)
          change Hid (∀ w, NB w1.heap.size cc w → Calls Try.prog 9 #[.pointer (some ⟨w1.heap.size, 0, none⟩), .agg #[.int .i64 kind, .int .i64 a, .int .i64 b, .slice lo ln lc, .slice ko kn kc, .bool is]] w fun e w' => e = .returned (.tuple #[.int .i64 0, .int .i64 (noneE kind)]) ∧ (∃ c, NB w1.heap.size c w') ∧ Mod w1.heap.size w w') at ACT
          rw [show noneE kind = 0 by unfold noneE; rw [if_neg k7]] at ACT
          have c0 := Blk.cell (unhide HB).1 0
          have c1 := Blk.cell (unhide HB).1 1
          have c2 := Blk.cell (unhide HB).1 2
          have c3 := Blk.cell (unhide HB).1 3
          have c4 := Blk.cell (unhide HB).1 4
          have c5 := Blk.cell (unhide HB).1 5
          have cp := Blk.cell (unhide HB).2.2.1 1
          simp only [List.getElem?_toArray, List.getElem?_cons_zero, List.getElem?_cons_succ] at c0 c1 c2 c3 c4 c5 cp
          go_wp2
          go_region_held3 (fun w' => w'.cell? ⟨xb, 0, none⟩ = some (.int .i64 kind) ∧ w'.cell? ⟨xb, 1, none⟩ = some (.int .i64 a) ∧ w'.cell? ⟨xb, 2, none⟩ = some (.int .i64 b) ∧ w'.cell? ⟨xb, 3, none⟩ = some (.slice lo ln lc) ∧ w'.cell? ⟨xb, 4, none⟩ = some (.slice ko kn kc) ∧ w'.cell? ⟨xb, 5, none⟩ = some (.bool is) ∧ w'.cell? ⟨w1.heap.size + 1, 1, none⟩ = some (.pointer (some ⟨w1.heap.size, 0, none⟩))) (simp [go_sem, *])
            ((go_at_call 9; refine (unhide ACT _ (by exact unhide NB1)).mono ?_; rintro e w2 ⟨rfl, h2, m2⟩; have HB2 : Hid (Blk xb #[.int .i64 kind, .int .i64 a, .int .i64 b, .slice lo ln lc, .slice ko kn kc, .bool is] 24 w2 ∧ (∃ c, NB w1.heap.size c w2) ∧ Blk (w1.heap.size + 1) #[.pointer none, .pointer (some ⟨w1.heap.size, 0, none⟩)] 28 w2 ∧ Grown w w2) := ⟨Blk.keep (unhide HB).1 (by exact m2) (Nat.ne_of_lt hz), h2, Blk.keep (unhide HB).2.2.1 (by exact m2) (by omega), Mod.grown (by exact Grown.drew (unhide HB).2.2.2) (by exact m2) (unhide HZ)⟩; have d0 := Blk.cell (unhide HB2).1 0; have d1 := Blk.cell (unhide HB2).1 1; have d2 := Blk.cell (unhide HB2).1 2; have d3 := Blk.cell (unhide HB2).1 3; have d4 := Blk.cell (unhide HB2).1 4; have d5 := Blk.cell (unhide HB2).1 5; have dp := Blk.cell (unhide HB2).2.2.1 1; simp only [List.getElem?_toArray, List.getElem?_cons_zero, List.getElem?_cons_succ] at d0 d1 d2 d3 d4 d5 dp; clear h2 m2))
          clear HB NB1 c0 c1 c2 c3 c4 c5 cp ACT
          obtain ⟨cd, hnd⟩ := (unhide HB2).2.1
          have ND : Hid (NU (some ⟨w1.heap.size, 0, none⟩) w2) := Or.inr ⟨_, cd, rfl, hnd⟩
          clear hnd
          go_wp2_with fail
          refine (noneCount (some ⟨w1.heap.size, 0, none⟩) _ (unhide ND)).mono ?_
          rintro e w3 ⟨rfl, rfl⟩
          go_wp2
          go_roundw
          case rel => exact ⟨2, by omega, rfl, unhide HB2⟩
          case measure => simp [intOf]
      · clear q0
        have G2 := hide (unhide HB).2.2.2
        clear HB
        go_wp2_with fail
        refine (nilSet true _).mono ?_
        rintro e w3 ⟨rfl, rfl⟩
        go_wp2_with fail
        refine (nilClear _).mono ?_
        rintro e w4 ⟨rfl, rfl⟩
        go_wp2_with fail
        refine (nilCut _).mono ?_
        rintro e w5 ⟨rfl, rfl⟩
        go_wp2_with fail
        refine (lawAwake _).mono ?_
        rintro e w6 ⟨rfl, g6⟩
        have G6 := hide (gtrans (unhide G2) g6)
        clear g6
        go_wp2
        go_ret
        exact ⟨rfl, unhide G6⟩

end Go.Proofs.Ytecelkneiffceaa
