/- PolyP PolyB PolyC PolyD PolyK0 PolyK1, one after another. -/
import Derived.Test.YtopaakjildmjcaaGreatPolyBase
import Derived.Test.YtopaakjildmjcaaGreatMatAll
import Derived.Deep.RegionHeld3
import Derived.Deep.DrawnRows
/- Package poly: polynomial, by slices.ContainsFunc. -/
namespace Go.Proofs.YtopaakjildmjcaaGreat
open Go.RowKit Go.Shelf Go.Proofs.Wd
set_option linter.unusedVariables false
set_option linter.unusedSimpArgs false
set_option maxRecDepth 10000

theorem wpOp_wantP {P : Program} {ops : Array Oper} {Q : Exit → Act → World → Prop} {i : Nat} {K : Act → World → Prop} {a : Act} {w : World} {o : Oper} (hi : ops[i]? = some o) (hw : Region.wanted o (yielded ops a.tmps) = true) (h : o.wp P a w K Q) : wpOp P ops Q i K a w := by
  unfold wpOp
  rw [hi]
  simp only
  rw [if_pos hw]
  exact Or.inl h
/-- A matrix of these rows and columns. -/
def likeM (R C : Int) (len : Nat) (R0 C0 : Int) : Prop := okM R C len ∧ R = R0 ∧ C = C0
open Classical in
noncomputable def badM (R C : Int) (len : Nat) (R0 C0 : Int) : Bool := decide (¬ likeM R C len R0 C0)
theorem badM_yes {R C R0 C0 : Int} {len : Nat} (h : ¬ likeM R C len R0 C0) : badM R C len R0 C0 = true := by classical exact decide_eq_true h
theorem badM_no {R C R0 C0 : Int} {len : Nat} (h : likeM R C len R0 C0) : badM R C len R0 C0 = false := by classical exact decide_eq_false (fun k => k h)

set_option maxRecDepth 50000 in
set_option maxHeartbeats 4000000 in
theorem polyn1_bad (R C R0 C0 : Int) (ao : Option Addr) (len cap pb b o n pc : Nat) (hn : 1 ≤ n) (hb : ¬ okM R C len) (w : World) (hp : w.cell? ⟨pb, 0, none⟩ = some (.slice (some ⟨b, o, none⟩) n pc)) (h0 : w.cell? ⟨b, o, none⟩ = some (.int .i64 R0)) (h1 : w.cell? ⟨b, o + 1, none⟩ = some (.int .i64 C0)) :
    Calls Tryz.prog 58 #[.agg #[.int .i64 R, .int .i64 C, .slice ao len cap], .pointer (some ⟨pb, 0, none⟩)] w fun e w' => e = .returned (.bool true) ∧ Grown w w' := by
  have CK := hide (fun w => matCheck R C ao len cap w)
  rw [chk_bad hb] at CK
  have g1 : Grown w (w.alloc (.cells #[.int .i64 R, .int .i64 C, .slice ao len cap] 24)) := (Grown.refl _).alloc _ _
  have b1 := Blk.new w #[.int .i64 R, .int .i64 C, .slice ao len cap] 24
  have HH : Hid ((fun w' => w'.cell? ⟨w.heap.size, 0, none⟩ = some (.int .i64 R) ∧ w'.cell? ⟨w.heap.size, 1, none⟩ = some (.int .i64 C) ∧ w'.cell? ⟨w.heap.size, 2, none⟩ = some (.slice ao len cap) ∧ w'.cell? ⟨pb, 0, none⟩ = some (.slice (some ⟨b, o, none⟩) n pc) ∧ w'.cell? ⟨b, o, none⟩ = some (.int .i64 R0) ∧ w'.cell? ⟨b, o + 1, none⟩ = some (.int .i64 C0)) (w.alloc (.cells #[.int .i64 R, .int .i64 C, .slice ao len cap] 24))) := ⟨Blk.cell b1 0, Blk.cell b1 1, Blk.cell b1 2, gat g1 hp, gat g1 h0, gat g1 h1⟩
  have HG := hide g1
  have i0 : (0 : Int) < (n : Int) := by omega
  clear g1 b1 hp h0 h1 hb
  go_enter Tryz.func58, Tryz.ntmps58
  go_wp2_with fail
  generalize w.alloc (.cells #[.int .i64 R, .int .i64 C, .slice ao len cap] 24) = w1 at *
  have HH2 : Hid ((fun w' => w'.cell? ⟨w.heap.size, 0, none⟩ = some (.int .i64 R) ∧ w'.cell? ⟨w.heap.size, 1, none⟩ = some (.int .i64 C) ∧ w'.cell? ⟨w.heap.size, 2, none⟩ = some (.slice ao len cap) ∧ w'.cell? ⟨pb, 0, none⟩ = some (.slice (some ⟨b, o, none⟩) n pc) ∧ w'.cell? ⟨b, o, none⟩ = some (.int .i64 R0) ∧ w'.cell? ⟨b, o + 1, none⟩ = some (.int .i64 C0)) w1.drew) := unhide HH
  clear HH
  have HH := HH2
  clear HH2
  refine region_G (fun w' => w'.cell? ⟨w.heap.size, 0, none⟩ = some (.int .i64 R) ∧ w'.cell? ⟨w.heap.size, 1, none⟩ = some (.int .i64 C) ∧ w'.cell? ⟨w.heap.size, 2, none⟩ = some (.slice ao len cap) ∧ w'.cell? ⟨pb, 0, none⟩ = some (.slice (some ⟨b, o, none⟩) n pc) ∧ w'.cell? ⟨b, o, none⟩ = some (.int .i64 R0) ∧ w'.cell? ⟨b, o + 1, none⟩ = some (.int .i64 C0)) 21 (by kernel_rfl) (unhide HH) (fun hHeld => ?_)
  refine take_G (i := 0) (d := 4) (v := .agg #[.int .i64 R, .int .i64 C, .slice ao len cap]) rfl rfl (by kernel_rfl) (by kernel_rfl) (by kernel_rfl) (by kernel_rfl) (by kernel_rfl) (Or.inl ⟨by rfl, ?_⟩) hHeld ?_
  · intro wS hSw
    obtain ⟨z0, z1, z2, z3, z4, z5⟩ := hSw
    clear hHeld
    go_simp
    (try (intro hz; omega))
  (try simp only [Act.put, List.setIfInBounds_toArray, List.set_cons_zero, List.set_cons_succ])
  refine step_G (i := 1) (by kernel_rfl) (fun K hK => ?_)
  refine wpOp_wantP rfl (by rfl) ?_
  unfold Oper.wp
  go_simp
  refine (unhide CK _).mono ?_
  rintro e w3 ⟨rfl, g3⟩
  have hHeld : (fun w' => w'.cell? ⟨w.heap.size, 0, none⟩ = some (.int .i64 R) ∧ w'.cell? ⟨w.heap.size, 1, none⟩ = some (.int .i64 C) ∧ w'.cell? ⟨w.heap.size, 2, none⟩ = some (.slice ao len cap) ∧ w'.cell? ⟨pb, 0, none⟩ = some (.slice (some ⟨b, o, none⟩) n pc) ∧ w'.cell? ⟨b, o, none⟩ = some (.int .i64 R0) ∧ w'.cell? ⟨b, o + 1, none⟩ = some (.int .i64 C0)) w3 := ⟨gat g3 (unhide HH).1, gat g3 (unhide HH).2.1, gat g3 (unhide HH).2.2.1, gat g3 (unhide HH).2.2.2.1, gat g3 (unhide HH).2.2.2.2.1, gat g3 (unhide HH).2.2.2.2.2⟩
  have GG := hide (gtrans (unhide HG) g3)
  clear g3 HG
  refine hK _ _ (fun _ => hHeld) ?_
  clear hK K
  (try simp only [Act.put, List.setIfInBounds_toArray, List.set_cons_zero, List.set_cons_succ])
  refine take_G (i := 2) (d := 6) (v := .bool true) rfl rfl (by kernel_rfl) (by kernel_rfl) (by kernel_rfl) (by kernel_rfl) (by kernel_rfl) (Or.inl ⟨by rfl, ?_⟩) hHeld ?_
  · intro wS hSw
    obtain ⟨z0, z1, z2, z3, z4, z5⟩ := hSw
    clear hHeld
    go_simp
    (try (intro hz; omega))
  (try simp only [Act.put, List.setIfInBounds_toArray, List.set_cons_zero, List.set_cons_succ])
  refine take_G (i := 3) (d := 7) (v := .bool true) rfl rfl (by kernel_rfl) (by kernel_rfl) (by kernel_rfl) (by kernel_rfl) (by kernel_rfl) (Or.inl ⟨by rfl, ?_⟩) hHeld ?_
  · intro wS hSw
    obtain ⟨z0, z1, z2, z3, z4, z5⟩ := hSw
    clear hHeld
    go_simp
    (try (intro hz; omega))
  (try simp only [Act.put, List.setIfInBounds_toArray, List.set_cons_zero, List.set_cons_succ])
  refine take_G (i := 4) (d := 8) (v := undef) rfl rfl (by kernel_rfl) (by kernel_rfl) (by kernel_rfl) (by kernel_rfl) (by kernel_rfl) (Or.inr ⟨by rfl, rfl⟩) hHeld ?_
  (try simp only [Act.put, List.setIfInBounds_toArray, List.set_cons_zero, List.set_cons_succ])
  refine take_G (i := 5) (d := 9) (v := undef) rfl rfl (by kernel_rfl) (by kernel_rfl) (by kernel_rfl) (by kernel_rfl) (by kernel_rfl) (Or.inr ⟨by rfl, rfl⟩) hHeld ?_
  (try simp only [Act.put, List.setIfInBounds_toArray, List.set_cons_zero, List.set_cons_succ])
  refine take_G (i := 6) (d := 10) (v := undef) rfl rfl (by kernel_rfl) (by kernel_rfl) (by kernel_rfl) (by kernel_rfl) (by kernel_rfl) (Or.inr ⟨by rfl, rfl⟩) hHeld ?_
  (try simp only [Act.put, List.setIfInBounds_toArray, List.set_cons_zero, List.set_cons_succ])
  refine take_G (i := 7) (d := 11) (v := undef) rfl rfl (by kernel_rfl) (by kernel_rfl) (by kernel_rfl) (by kernel_rfl) (by kernel_rfl) (Or.inr ⟨by rfl, rfl⟩) hHeld ?_
  (try simp only [Act.put, List.setIfInBounds_toArray, List.set_cons_zero, List.set_cons_succ])
  refine take_G (i := 8) (d := 12) (v := undef) rfl rfl (by kernel_rfl) (by kernel_rfl) (by kernel_rfl) (by kernel_rfl) (by kernel_rfl) (Or.inr ⟨by rfl, rfl⟩) hHeld ?_
  (try simp only [Act.put, List.setIfInBounds_toArray, List.set_cons_zero, List.set_cons_succ])
  refine take_G (i := 9) (d := 13) (v := undef) rfl rfl (by kernel_rfl) (by kernel_rfl) (by kernel_rfl) (by kernel_rfl) (by kernel_rfl) (Or.inr ⟨by rfl, rfl⟩) hHeld ?_
  (try simp only [Act.put, List.setIfInBounds_toArray, List.set_cons_zero, List.set_cons_succ])
  refine take_G (i := 10) (d := 14) (v := undef) rfl rfl (by kernel_rfl) (by kernel_rfl) (by kernel_rfl) (by kernel_rfl) (by kernel_rfl) (Or.inr ⟨by rfl, rfl⟩) hHeld ?_
  (try simp only [Act.put, List.setIfInBounds_toArray, List.set_cons_zero, List.set_cons_succ])
  refine take_G (i := 11) (d := 15) (v := .bool true) rfl rfl (by kernel_rfl) (by kernel_rfl) (by kernel_rfl) (by kernel_rfl) (by kernel_rfl) (Or.inl ⟨by rfl, ?_⟩) hHeld ?_
  · intro wS hSw
    obtain ⟨z0, z1, z2, z3, z4, z5⟩ := hSw
    clear hHeld
    go_simp
    (try (intro hz; omega))
  (try simp only [Act.put, List.setIfInBounds_toArray, List.set_cons_zero, List.set_cons_succ])
  refine take_G (i := 12) (d := 16) (v := .bool true) rfl rfl (by kernel_rfl) (by kernel_rfl) (by kernel_rfl) (by kernel_rfl) (by kernel_rfl) (Or.inl ⟨by rfl, ?_⟩) hHeld ?_
  · intro wS hSw
    obtain ⟨z0, z1, z2, z3, z4, z5⟩ := hSw
    clear hHeld
    go_simp
    (try (intro hz; omega))
  (try simp only [Act.put, List.setIfInBounds_toArray, List.set_cons_zero, List.set_cons_succ])
  refine take_G (i := 13) (d := 17) (v := undef) rfl rfl (by kernel_rfl) (by kernel_rfl) (by kernel_rfl) (by kernel_rfl) (by kernel_rfl) (Or.inr ⟨by rfl, rfl⟩) hHeld ?_
  (try simp only [Act.put, List.setIfInBounds_toArray, List.set_cons_zero, List.set_cons_succ])
  refine take_G (i := 14) (d := 18) (v := undef) rfl rfl (by kernel_rfl) (by kernel_rfl) (by kernel_rfl) (by kernel_rfl) (by kernel_rfl) (Or.inr ⟨by rfl, rfl⟩) hHeld ?_
  (try simp only [Act.put, List.setIfInBounds_toArray, List.set_cons_zero, List.set_cons_succ])
  refine take_G (i := 15) (d := 19) (v := undef) rfl rfl (by kernel_rfl) (by kernel_rfl) (by kernel_rfl) (by kernel_rfl) (by kernel_rfl) (Or.inr ⟨by rfl, rfl⟩) hHeld ?_
  (try simp only [Act.put, List.setIfInBounds_toArray, List.set_cons_zero, List.set_cons_succ])
  refine take_G (i := 16) (d := 20) (v := undef) rfl rfl (by kernel_rfl) (by kernel_rfl) (by kernel_rfl) (by kernel_rfl) (by kernel_rfl) (Or.inr ⟨by rfl, rfl⟩) hHeld ?_
  (try simp only [Act.put, List.setIfInBounds_toArray, List.set_cons_zero, List.set_cons_succ])
  refine take_G (i := 17) (d := 21) (v := undef) rfl rfl (by kernel_rfl) (by kernel_rfl) (by kernel_rfl) (by kernel_rfl) (by kernel_rfl) (Or.inr ⟨by rfl, rfl⟩) hHeld ?_
  (try simp only [Act.put, List.setIfInBounds_toArray, List.set_cons_zero, List.set_cons_succ])
  refine take_G (i := 18) (d := 22) (v := undef) rfl rfl (by kernel_rfl) (by kernel_rfl) (by kernel_rfl) (by kernel_rfl) (by kernel_rfl) (Or.inr ⟨by rfl, rfl⟩) hHeld ?_
  (try simp only [Act.put, List.setIfInBounds_toArray, List.set_cons_zero, List.set_cons_succ])
  refine take_G (i := 19) (d := 23) (v := undef) rfl rfl (by kernel_rfl) (by kernel_rfl) (by kernel_rfl) (by kernel_rfl) (by kernel_rfl) (Or.inr ⟨by rfl, rfl⟩) hHeld ?_
  (try simp only [Act.put, List.setIfInBounds_toArray, List.set_cons_zero, List.set_cons_succ])
  refine take_G (i := 20) (d := 24) (v := .bool true) rfl rfl (by kernel_rfl) (by kernel_rfl) (by kernel_rfl) (by kernel_rfl) (by kernel_rfl) (Or.inl ⟨by rfl, ?_⟩) hHeld ?_
  · intro wS hSw
    obtain ⟨z0, z1, z2, z3, z4, z5⟩ := hSw
    clear hHeld
    go_simp
    (try (intro hz; omega))
  (try simp only [Act.put, List.setIfInBounds_toArray, List.set_cons_zero, List.set_cons_succ])
  clear hHeld
  refine step_G (i := 21) (by kernel_rfl) (fun K hK => ?_)
  refine wpOp_wantP rfl (by rfl) ?_
  unfold Oper.wp
  go_simp
  refine hK _ _ (fun h => absurd rfl h) ?_
  clear hK K
  (try simp only [Act.put, List.setIfInBounds_toArray, List.set_cons_zero, List.set_cons_succ])
  refine done_G (by kernel_rfl) ?_
  refine noPanic_normalE ?_
  go_wp2
  go_ret
  exact ⟨rfl, unhide GG⟩

set_option maxRecDepth 50000 in
set_option maxHeartbeats 4000000 in
theorem polyn1_R (R C R0 C0 : Int) (ao : Option Addr) (len cap pb b o n pc : Nat) (hn : 1 ≤ n) (hb : okM R C len) (hr : R ≠ R0) (w : World) (hp : w.cell? ⟨pb, 0, none⟩ = some (.slice (some ⟨b, o, none⟩) n pc)) (h0 : w.cell? ⟨b, o, none⟩ = some (.int .i64 R0)) (h1 : w.cell? ⟨b, o + 1, none⟩ = some (.int .i64 C0)) :
    Calls Tryz.prog 58 #[.agg #[.int .i64 R, .int .i64 C, .slice ao len cap], .pointer (some ⟨pb, 0, none⟩)] w fun e w' => e = .returned (.bool true) ∧ Grown w w' := by
  have CK := hide (fun w => matCheck R C ao len cap w)
  rw [chk_ok hb] at CK
  have g1 : Grown w (w.alloc (.cells #[.int .i64 R, .int .i64 C, .slice ao len cap] 24)) := (Grown.refl _).alloc _ _
  have b1 := Blk.new w #[.int .i64 R, .int .i64 C, .slice ao len cap] 24
  have HH : Hid ((fun w' => w'.cell? ⟨w.heap.size, 0, none⟩ = some (.int .i64 R) ∧ w'.cell? ⟨w.heap.size, 1, none⟩ = some (.int .i64 C) ∧ w'.cell? ⟨w.heap.size, 2, none⟩ = some (.slice ao len cap) ∧ w'.cell? ⟨pb, 0, none⟩ = some (.slice (some ⟨b, o, none⟩) n pc) ∧ w'.cell? ⟨b, o, none⟩ = some (.int .i64 R0) ∧ w'.cell? ⟨b, o + 1, none⟩ = some (.int .i64 C0)) (w.alloc (.cells #[.int .i64 R, .int .i64 C, .slice ao len cap] 24))) := ⟨Blk.cell b1 0, Blk.cell b1 1, Blk.cell b1 2, gat g1 hp, gat g1 h0, gat g1 h1⟩
  have HG := hide g1
  have i0 : (0 : Int) < (n : Int) := by omega
  have b2 : (R != R0) = true := by simpa using hr
  clear g1 b1 hp h0 h1 hb hr
  go_enter Tryz.func58, Tryz.ntmps58
  go_wp2_with fail
  generalize w.alloc (.cells #[.int .i64 R, .int .i64 C, .slice ao len cap] 24) = w1 at *
  have HH2 : Hid ((fun w' => w'.cell? ⟨w.heap.size, 0, none⟩ = some (.int .i64 R) ∧ w'.cell? ⟨w.heap.size, 1, none⟩ = some (.int .i64 C) ∧ w'.cell? ⟨w.heap.size, 2, none⟩ = some (.slice ao len cap) ∧ w'.cell? ⟨pb, 0, none⟩ = some (.slice (some ⟨b, o, none⟩) n pc) ∧ w'.cell? ⟨b, o, none⟩ = some (.int .i64 R0) ∧ w'.cell? ⟨b, o + 1, none⟩ = some (.int .i64 C0)) w1.drew) := unhide HH
  clear HH
  have HH := HH2
  clear HH2
  refine region_G (fun w' => w'.cell? ⟨w.heap.size, 0, none⟩ = some (.int .i64 R) ∧ w'.cell? ⟨w.heap.size, 1, none⟩ = some (.int .i64 C) ∧ w'.cell? ⟨w.heap.size, 2, none⟩ = some (.slice ao len cap) ∧ w'.cell? ⟨pb, 0, none⟩ = some (.slice (some ⟨b, o, none⟩) n pc) ∧ w'.cell? ⟨b, o, none⟩ = some (.int .i64 R0) ∧ w'.cell? ⟨b, o + 1, none⟩ = some (.int .i64 C0)) 21 (by kernel_rfl) (unhide HH) (fun hHeld => ?_)
  refine take_G (i := 0) (d := 4) (v := .agg #[.int .i64 R, .int .i64 C, .slice ao len cap]) rfl rfl (by kernel_rfl) (by kernel_rfl) (by kernel_rfl) (by kernel_rfl) (by kernel_rfl) (Or.inl ⟨by rfl, ?_⟩) hHeld ?_
  · intro wS hSw
    obtain ⟨z0, z1, z2, z3, z4, z5⟩ := hSw
    clear hHeld
    go_simp
    (try (intro hz; omega))
  (try simp only [Act.put, List.setIfInBounds_toArray, List.set_cons_zero, List.set_cons_succ])
  refine step_G (i := 1) (by kernel_rfl) (fun K hK => ?_)
  refine wpOp_wantP rfl (by rfl) ?_
  unfold Oper.wp
  go_simp
  refine (unhide CK _).mono ?_
  rintro e w3 ⟨rfl, g3⟩
  have hHeld : (fun w' => w'.cell? ⟨w.heap.size, 0, none⟩ = some (.int .i64 R) ∧ w'.cell? ⟨w.heap.size, 1, none⟩ = some (.int .i64 C) ∧ w'.cell? ⟨w.heap.size, 2, none⟩ = some (.slice ao len cap) ∧ w'.cell? ⟨pb, 0, none⟩ = some (.slice (some ⟨b, o, none⟩) n pc) ∧ w'.cell? ⟨b, o, none⟩ = some (.int .i64 R0) ∧ w'.cell? ⟨b, o + 1, none⟩ = some (.int .i64 C0)) w3 := ⟨gat g3 (unhide HH).1, gat g3 (unhide HH).2.1, gat g3 (unhide HH).2.2.1, gat g3 (unhide HH).2.2.2.1, gat g3 (unhide HH).2.2.2.2.1, gat g3 (unhide HH).2.2.2.2.2⟩
  have GG := hide (gtrans (unhide HG) g3)
  clear g3 HG
  refine hK _ _ (fun _ => hHeld) ?_
  clear hK K
  (try simp only [Act.put, List.setIfInBounds_toArray, List.set_cons_zero, List.set_cons_succ])
  refine take_G (i := 2) (d := 6) (v := .bool false) rfl rfl (by kernel_rfl) (by kernel_rfl) (by kernel_rfl) (by kernel_rfl) (by kernel_rfl) (Or.inl ⟨by rfl, ?_⟩) hHeld ?_
  · intro wS hSw
    obtain ⟨z0, z1, z2, z3, z4, z5⟩ := hSw
    clear hHeld
    go_simp
    (try (intro hz; omega))
  (try simp only [Act.put, List.setIfInBounds_toArray, List.set_cons_zero, List.set_cons_succ])
  refine take_G (i := 3) (d := 7) (v := .bool false) rfl rfl (by kernel_rfl) (by kernel_rfl) (by kernel_rfl) (by kernel_rfl) (by kernel_rfl) (Or.inl ⟨by rfl, ?_⟩) hHeld ?_
  · intro wS hSw
    obtain ⟨z0, z1, z2, z3, z4, z5⟩ := hSw
    clear hHeld
    go_simp
    (try (intro hz; omega))
  (try simp only [Act.put, List.setIfInBounds_toArray, List.set_cons_zero, List.set_cons_succ])
  refine take_G (i := 4) (d := 8) (v := .pointer (some ⟨w.heap.size, 0, none⟩)) rfl rfl (by kernel_rfl) (by kernel_rfl) (by kernel_rfl) (by kernel_rfl) (by kernel_rfl) (Or.inl ⟨by rfl, ?_⟩) hHeld ?_
  · intro wS hSw
    obtain ⟨z0, z1, z2, z3, z4, z5⟩ := hSw
    clear hHeld
    go_simp
    (try (intro hz; omega))
  (try simp only [Act.put, List.setIfInBounds_toArray, List.set_cons_zero, List.set_cons_succ])
  refine take_G (i := 5) (d := 9) (v := .int .i64 R) rfl rfl (by kernel_rfl) (by kernel_rfl) (by kernel_rfl) (by kernel_rfl) (by kernel_rfl) (Or.inl ⟨by rfl, ?_⟩) hHeld ?_
  · intro wS hSw
    obtain ⟨z0, z1, z2, z3, z4, z5⟩ := hSw
    clear hHeld
    go_simp
    (try (intro hz; omega))
  (try simp only [Act.put, List.setIfInBounds_toArray, List.set_cons_zero, List.set_cons_succ])
  refine take_G (i := 6) (d := 10) (v := .slice (some ⟨b, o, none⟩) n pc) rfl rfl (by kernel_rfl) (by kernel_rfl) (by kernel_rfl) (by kernel_rfl) (by kernel_rfl) (Or.inl ⟨by rfl, ?_⟩) hHeld ?_
  · intro wS hSw
    obtain ⟨z0, z1, z2, z3, z4, z5⟩ := hSw
    clear hHeld
    go_simp
    (try (intro hz; omega))
  (try simp only [Act.put, List.setIfInBounds_toArray, List.set_cons_zero, List.set_cons_succ])
  refine take_G (i := 7) (d := 11) (v := .pointer (some ⟨b, o, none⟩)) rfl rfl (by kernel_rfl) (by kernel_rfl) (by kernel_rfl) (by kernel_rfl) (by kernel_rfl) (Or.inl ⟨by rfl, ?_⟩) hHeld ?_
  · intro wS hSw
    obtain ⟨z0, z1, z2, z3, z4, z5⟩ := hSw
    clear hHeld
    go_simp
    (try (intro hz; omega))
  (try simp only [Act.put, List.setIfInBounds_toArray, List.set_cons_zero, List.set_cons_succ])
  refine take_G (i := 8) (d := 12) (v := .pointer (some ⟨b, o, none⟩)) rfl rfl (by kernel_rfl) (by kernel_rfl) (by kernel_rfl) (by kernel_rfl) (by kernel_rfl) (Or.inl ⟨by rfl, ?_⟩) hHeld ?_
  · intro wS hSw
    obtain ⟨z0, z1, z2, z3, z4, z5⟩ := hSw
    clear hHeld
    go_simp
    (try (intro hz; omega))
  (try simp only [Act.put, List.setIfInBounds_toArray, List.set_cons_zero, List.set_cons_succ])
  refine take_G (i := 9) (d := 13) (v := .int .i64 R0) rfl rfl (by kernel_rfl) (by kernel_rfl) (by kernel_rfl) (by kernel_rfl) (by kernel_rfl) (Or.inl ⟨by rfl, ?_⟩) hHeld ?_
  · intro wS hSw
    obtain ⟨z0, z1, z2, z3, z4, z5⟩ := hSw
    clear hHeld
    go_simp
    (try (intro hz; omega))
  (try simp only [Act.put, List.setIfInBounds_toArray, List.set_cons_zero, List.set_cons_succ])
  refine take_G (i := 10) (d := 14) (v := .bool true) rfl rfl (by kernel_rfl) (by kernel_rfl) (by kernel_rfl) (by kernel_rfl) (by kernel_rfl) (Or.inl ⟨by rfl, ?_⟩) hHeld ?_
  · intro wS hSw
    obtain ⟨z0, z1, z2, z3, z4, z5⟩ := hSw
    clear hHeld
    go_simp
    (try (intro hz; omega))
  (try simp only [Act.put, List.setIfInBounds_toArray, List.set_cons_zero, List.set_cons_succ])
  refine take_G (i := 11) (d := 15) (v := .bool true) rfl rfl (by kernel_rfl) (by kernel_rfl) (by kernel_rfl) (by kernel_rfl) (by kernel_rfl) (Or.inl ⟨by rfl, ?_⟩) hHeld ?_
  · intro wS hSw
    obtain ⟨z0, z1, z2, z3, z4, z5⟩ := hSw
    clear hHeld
    go_simp
    (try (intro hz; omega))
  (try simp only [Act.put, List.setIfInBounds_toArray, List.set_cons_zero, List.set_cons_succ])
  refine take_G (i := 12) (d := 16) (v := .bool true) rfl rfl (by kernel_rfl) (by kernel_rfl) (by kernel_rfl) (by kernel_rfl) (by kernel_rfl) (Or.inl ⟨by rfl, ?_⟩) hHeld ?_
  · intro wS hSw
    obtain ⟨z0, z1, z2, z3, z4, z5⟩ := hSw
    clear hHeld
    go_simp
    (try (intro hz; omega))
  (try simp only [Act.put, List.setIfInBounds_toArray, List.set_cons_zero, List.set_cons_succ])
  refine take_G (i := 13) (d := 17) (v := undef) rfl rfl (by kernel_rfl) (by kernel_rfl) (by kernel_rfl) (by kernel_rfl) (by kernel_rfl) (Or.inr ⟨by rfl, rfl⟩) hHeld ?_
  (try simp only [Act.put, List.setIfInBounds_toArray, List.set_cons_zero, List.set_cons_succ])
  refine take_G (i := 14) (d := 18) (v := undef) rfl rfl (by kernel_rfl) (by kernel_rfl) (by kernel_rfl) (by kernel_rfl) (by kernel_rfl) (Or.inr ⟨by rfl, rfl⟩) hHeld ?_
  (try simp only [Act.put, List.setIfInBounds_toArray, List.set_cons_zero, List.set_cons_succ])
  refine take_G (i := 15) (d := 19) (v := undef) rfl rfl (by kernel_rfl) (by kernel_rfl) (by kernel_rfl) (by kernel_rfl) (by kernel_rfl) (Or.inr ⟨by rfl, rfl⟩) hHeld ?_
  (try simp only [Act.put, List.setIfInBounds_toArray, List.set_cons_zero, List.set_cons_succ])
  refine take_G (i := 16) (d := 20) (v := undef) rfl rfl (by kernel_rfl) (by kernel_rfl) (by kernel_rfl) (by kernel_rfl) (by kernel_rfl) (Or.inr ⟨by rfl, rfl⟩) hHeld ?_
  (try simp only [Act.put, List.setIfInBounds_toArray, List.set_cons_zero, List.set_cons_succ])
  refine take_G (i := 17) (d := 21) (v := undef) rfl rfl (by kernel_rfl) (by kernel_rfl) (by kernel_rfl) (by kernel_rfl) (by kernel_rfl) (Or.inr ⟨by rfl, rfl⟩) hHeld ?_
  (try simp only [Act.put, List.setIfInBounds_toArray, List.set_cons_zero, List.set_cons_succ])
  refine take_G (i := 18) (d := 22) (v := undef) rfl rfl (by kernel_rfl) (by kernel_rfl) (by kernel_rfl) (by kernel_rfl) (by kernel_rfl) (Or.inr ⟨by rfl, rfl⟩) hHeld ?_
  (try simp only [Act.put, List.setIfInBounds_toArray, List.set_cons_zero, List.set_cons_succ])
  refine take_G (i := 19) (d := 23) (v := undef) rfl rfl (by kernel_rfl) (by kernel_rfl) (by kernel_rfl) (by kernel_rfl) (by kernel_rfl) (Or.inr ⟨by rfl, rfl⟩) hHeld ?_
  (try simp only [Act.put, List.setIfInBounds_toArray, List.set_cons_zero, List.set_cons_succ])
  refine take_G (i := 20) (d := 24) (v := .bool true) rfl rfl (by kernel_rfl) (by kernel_rfl) (by kernel_rfl) (by kernel_rfl) (by kernel_rfl) (Or.inl ⟨by rfl, ?_⟩) hHeld ?_
  · intro wS hSw
    obtain ⟨z0, z1, z2, z3, z4, z5⟩ := hSw
    clear hHeld
    go_simp
    (try (intro hz; omega))
  (try simp only [Act.put, List.setIfInBounds_toArray, List.set_cons_zero, List.set_cons_succ])
  clear hHeld
  refine step_G (i := 21) (by kernel_rfl) (fun K hK => ?_)
  refine wpOp_wantP rfl (by rfl) ?_
  unfold Oper.wp
  go_simp
  refine hK _ _ (fun h => absurd rfl h) ?_
  clear hK K
  (try simp only [Act.put, List.setIfInBounds_toArray, List.set_cons_zero, List.set_cons_succ])
  refine done_G (by kernel_rfl) ?_
  refine noPanic_normalE ?_
  go_wp2
  go_ret
  exact ⟨rfl, unhide GG⟩

set_option maxRecDepth 50000 in
set_option maxHeartbeats 4000000 in
theorem polyn1_C (R C R0 C0 : Int) (ao : Option Addr) (len cap pb b o n pc : Nat) (hn : 1 ≤ n) (hb : okM R C len) (hr : C ≠ C0) (hR : R = R0) (w : World) (hp : w.cell? ⟨pb, 0, none⟩ = some (.slice (some ⟨b, o, none⟩) n pc)) (h0 : w.cell? ⟨b, o, none⟩ = some (.int .i64 R0)) (h1 : w.cell? ⟨b, o + 1, none⟩ = some (.int .i64 C0)) :
    Calls Tryz.prog 58 #[.agg #[.int .i64 R, .int .i64 C, .slice ao len cap], .pointer (some ⟨pb, 0, none⟩)] w fun e w' => e = .returned (.bool true) ∧ Grown w w' := by
  have CK := hide (fun w => matCheck R C ao len cap w)
  rw [chk_ok hb] at CK
  have g1 : Grown w (w.alloc (.cells #[.int .i64 R, .int .i64 C, .slice ao len cap] 24)) := (Grown.refl _).alloc _ _
  have b1 := Blk.new w #[.int .i64 R, .int .i64 C, .slice ao len cap] 24
  have HH : Hid ((fun w' => w'.cell? ⟨w.heap.size, 0, none⟩ = some (.int .i64 R) ∧ w'.cell? ⟨w.heap.size, 1, none⟩ = some (.int .i64 C) ∧ w'.cell? ⟨w.heap.size, 2, none⟩ = some (.slice ao len cap) ∧ w'.cell? ⟨pb, 0, none⟩ = some (.slice (some ⟨b, o, none⟩) n pc) ∧ w'.cell? ⟨b, o, none⟩ = some (.int .i64 R0) ∧ w'.cell? ⟨b, o + 1, none⟩ = some (.int .i64 C0)) (w.alloc (.cells #[.int .i64 R, .int .i64 C, .slice ao len cap] 24))) := ⟨Blk.cell b1 0, Blk.cell b1 1, Blk.cell b1 2, gat g1 hp, gat g1 h0, gat g1 h1⟩
  have HG := hide g1
  have i0 : (0 : Int) < (n : Int) := by omega
  have b2 : (C != C0) = true := by simpa using hr
  have b3 : (R != R0) = false := by simpa using hR
  clear g1 b1 hp h0 h1 hb hr hR
  go_enter Tryz.func58, Tryz.ntmps58
  go_wp2_with fail
  generalize w.alloc (.cells #[.int .i64 R, .int .i64 C, .slice ao len cap] 24) = w1 at *
  have HH2 : Hid ((fun w' => w'.cell? ⟨w.heap.size, 0, none⟩ = some (.int .i64 R) ∧ w'.cell? ⟨w.heap.size, 1, none⟩ = some (.int .i64 C) ∧ w'.cell? ⟨w.heap.size, 2, none⟩ = some (.slice ao len cap) ∧ w'.cell? ⟨pb, 0, none⟩ = some (.slice (some ⟨b, o, none⟩) n pc) ∧ w'.cell? ⟨b, o, none⟩ = some (.int .i64 R0) ∧ w'.cell? ⟨b, o + 1, none⟩ = some (.int .i64 C0)) w1.drew) := unhide HH
  clear HH
  have HH := HH2
  clear HH2
  refine region_G (fun w' => w'.cell? ⟨w.heap.size, 0, none⟩ = some (.int .i64 R) ∧ w'.cell? ⟨w.heap.size, 1, none⟩ = some (.int .i64 C) ∧ w'.cell? ⟨w.heap.size, 2, none⟩ = some (.slice ao len cap) ∧ w'.cell? ⟨pb, 0, none⟩ = some (.slice (some ⟨b, o, none⟩) n pc) ∧ w'.cell? ⟨b, o, none⟩ = some (.int .i64 R0) ∧ w'.cell? ⟨b, o + 1, none⟩ = some (.int .i64 C0)) 21 (by kernel_rfl) (unhide HH) (fun hHeld => ?_)
  refine take_G (i := 0) (d := 4) (v := .agg #[.int .i64 R, .int .i64 C, .slice ao len cap]) rfl rfl (by kernel_rfl) (by kernel_rfl) (by kernel_rfl) (by kernel_rfl) (by kernel_rfl) (Or.inl ⟨by rfl, ?_⟩) hHeld ?_
  · intro wS hSw
    obtain ⟨z0, z1, z2, z3, z4, z5⟩ := hSw
    clear hHeld
    go_simp
    (try (intro hz; omega))
  (try simp only [Act.put, List.setIfInBounds_toArray, List.set_cons_zero, List.set_cons_succ])
  refine step_G (i := 1) (by kernel_rfl) (fun K hK => ?_)
  refine wpOp_wantP rfl (by rfl) ?_
  unfold Oper.wp
  go_simp
  refine (unhide CK _).mono ?_
  rintro e w3 ⟨rfl, g3⟩
  have hHeld : (fun w' => w'.cell? ⟨w.heap.size, 0, none⟩ = some (.int .i64 R) ∧ w'.cell? ⟨w.heap.size, 1, none⟩ = some (.int .i64 C) ∧ w'.cell? ⟨w.heap.size, 2, none⟩ = some (.slice ao len cap) ∧ w'.cell? ⟨pb, 0, none⟩ = some (.slice (some ⟨b, o, none⟩) n pc) ∧ w'.cell? ⟨b, o, none⟩ = some (.int .i64 R0) ∧ w'.cell? ⟨b, o + 1, none⟩ = some (.int .i64 C0)) w3 := ⟨gat g3 (unhide HH).1, gat g3 (unhide HH).2.1, gat g3 (unhide HH).2.2.1, gat g3 (unhide HH).2.2.2.1, gat g3 (unhide HH).2.2.2.2.1, gat g3 (unhide HH).2.2.2.2.2⟩
  have GG := hide (gtrans (unhide HG) g3)
  clear g3 HG
  refine hK _ _ (fun _ => hHeld) ?_
  clear hK K
  (try simp only [Act.put, List.setIfInBounds_toArray, List.set_cons_zero, List.set_cons_succ])
  refine take_G (i := 2) (d := 6) (v := .bool false) rfl rfl (by kernel_rfl) (by kernel_rfl) (by kernel_rfl) (by kernel_rfl) (by kernel_rfl) (Or.inl ⟨by rfl, ?_⟩) hHeld ?_
  · intro wS hSw
    obtain ⟨z0, z1, z2, z3, z4, z5⟩ := hSw
    clear hHeld
    go_simp
    (try (intro hz; omega))
  (try simp only [Act.put, List.setIfInBounds_toArray, List.set_cons_zero, List.set_cons_succ])
  refine take_G (i := 3) (d := 7) (v := .bool false) rfl rfl (by kernel_rfl) (by kernel_rfl) (by kernel_rfl) (by kernel_rfl) (by kernel_rfl) (Or.inl ⟨by rfl, ?_⟩) hHeld ?_
  · intro wS hSw
    obtain ⟨z0, z1, z2, z3, z4, z5⟩ := hSw
    clear hHeld
    go_simp
    (try (intro hz; omega))
  (try simp only [Act.put, List.setIfInBounds_toArray, List.set_cons_zero, List.set_cons_succ])
  refine take_G (i := 4) (d := 8) (v := .pointer (some ⟨w.heap.size, 0, none⟩)) rfl rfl (by kernel_rfl) (by kernel_rfl) (by kernel_rfl) (by kernel_rfl) (by kernel_rfl) (Or.inl ⟨by rfl, ?_⟩) hHeld ?_
  · intro wS hSw
    obtain ⟨z0, z1, z2, z3, z4, z5⟩ := hSw
    clear hHeld
    go_simp
    (try (intro hz; omega))
  (try simp only [Act.put, List.setIfInBounds_toArray, List.set_cons_zero, List.set_cons_succ])
  refine take_G (i := 5) (d := 9) (v := .int .i64 R) rfl rfl (by kernel_rfl) (by kernel_rfl) (by kernel_rfl) (by kernel_rfl) (by kernel_rfl) (Or.inl ⟨by rfl, ?_⟩) hHeld ?_
  · intro wS hSw
    obtain ⟨z0, z1, z2, z3, z4, z5⟩ := hSw
    clear hHeld
    go_simp
    (try (intro hz; omega))
  (try simp only [Act.put, List.setIfInBounds_toArray, List.set_cons_zero, List.set_cons_succ])
  refine take_G (i := 6) (d := 10) (v := .slice (some ⟨b, o, none⟩) n pc) rfl rfl (by kernel_rfl) (by kernel_rfl) (by kernel_rfl) (by kernel_rfl) (by kernel_rfl) (Or.inl ⟨by rfl, ?_⟩) hHeld ?_
  · intro wS hSw
    obtain ⟨z0, z1, z2, z3, z4, z5⟩ := hSw
    clear hHeld
    go_simp
    (try (intro hz; omega))
  (try simp only [Act.put, List.setIfInBounds_toArray, List.set_cons_zero, List.set_cons_succ])
  refine take_G (i := 7) (d := 11) (v := .pointer (some ⟨b, o, none⟩)) rfl rfl (by kernel_rfl) (by kernel_rfl) (by kernel_rfl) (by kernel_rfl) (by kernel_rfl) (Or.inl ⟨by rfl, ?_⟩) hHeld ?_
  · intro wS hSw
    obtain ⟨z0, z1, z2, z3, z4, z5⟩ := hSw
    clear hHeld
    go_simp
    (try (intro hz; omega))
  (try simp only [Act.put, List.setIfInBounds_toArray, List.set_cons_zero, List.set_cons_succ])
  refine take_G (i := 8) (d := 12) (v := .pointer (some ⟨b, o, none⟩)) rfl rfl (by kernel_rfl) (by kernel_rfl) (by kernel_rfl) (by kernel_rfl) (by kernel_rfl) (Or.inl ⟨by rfl, ?_⟩) hHeld ?_
  · intro wS hSw
    obtain ⟨z0, z1, z2, z3, z4, z5⟩ := hSw
    clear hHeld
    go_simp
    (try (intro hz; omega))
  (try simp only [Act.put, List.setIfInBounds_toArray, List.set_cons_zero, List.set_cons_succ])
  refine take_G (i := 9) (d := 13) (v := .int .i64 R0) rfl rfl (by kernel_rfl) (by kernel_rfl) (by kernel_rfl) (by kernel_rfl) (by kernel_rfl) (Or.inl ⟨by rfl, ?_⟩) hHeld ?_
  · intro wS hSw
    obtain ⟨z0, z1, z2, z3, z4, z5⟩ := hSw
    clear hHeld
    go_simp
    (try (intro hz; omega))
  (try simp only [Act.put, List.setIfInBounds_toArray, List.set_cons_zero, List.set_cons_succ])
  refine take_G (i := 10) (d := 14) (v := .bool false) rfl rfl (by kernel_rfl) (by kernel_rfl) (by kernel_rfl) (by kernel_rfl) (by kernel_rfl) (Or.inl ⟨by rfl, ?_⟩) hHeld ?_
  · intro wS hSw
    obtain ⟨z0, z1, z2, z3, z4, z5⟩ := hSw
    clear hHeld
    go_simp
    (try (intro hz; omega))
  (try simp only [Act.put, List.setIfInBounds_toArray, List.set_cons_zero, List.set_cons_succ])
  refine take_G (i := 11) (d := 15) (v := .bool false) rfl rfl (by kernel_rfl) (by kernel_rfl) (by kernel_rfl) (by kernel_rfl) (by kernel_rfl) (Or.inl ⟨by rfl, ?_⟩) hHeld ?_
  · intro wS hSw
    obtain ⟨z0, z1, z2, z3, z4, z5⟩ := hSw
    clear hHeld
    go_simp
    (try (intro hz; omega))
  (try simp only [Act.put, List.setIfInBounds_toArray, List.set_cons_zero, List.set_cons_succ])
  refine take_G (i := 12) (d := 16) (v := .bool false) rfl rfl (by kernel_rfl) (by kernel_rfl) (by kernel_rfl) (by kernel_rfl) (by kernel_rfl) (Or.inl ⟨by rfl, ?_⟩) hHeld ?_
  · intro wS hSw
    obtain ⟨z0, z1, z2, z3, z4, z5⟩ := hSw
    clear hHeld
    go_simp
    (try (intro hz; omega))
  (try simp only [Act.put, List.setIfInBounds_toArray, List.set_cons_zero, List.set_cons_succ])
  refine take_G (i := 13) (d := 17) (v := .pointer (some ⟨w.heap.size, 1, none⟩)) rfl rfl (by kernel_rfl) (by kernel_rfl) (by kernel_rfl) (by kernel_rfl) (by kernel_rfl) (Or.inl ⟨by rfl, ?_⟩) hHeld ?_
  · intro wS hSw
    obtain ⟨z0, z1, z2, z3, z4, z5⟩ := hSw
    clear hHeld
    go_simp
    (try (intro hz; omega))
  (try simp only [Act.put, List.setIfInBounds_toArray, List.set_cons_zero, List.set_cons_succ])
  refine take_G (i := 14) (d := 18) (v := .int .i64 C) rfl rfl (by kernel_rfl) (by kernel_rfl) (by kernel_rfl) (by kernel_rfl) (by kernel_rfl) (Or.inl ⟨by rfl, ?_⟩) hHeld ?_
  · intro wS hSw
    obtain ⟨z0, z1, z2, z3, z4, z5⟩ := hSw
    clear hHeld
    go_simp
    (try (intro hz; omega))
  (try simp only [Act.put, List.setIfInBounds_toArray, List.set_cons_zero, List.set_cons_succ])
  refine take_G (i := 15) (d := 19) (v := .slice (some ⟨b, o, none⟩) n pc) rfl rfl (by kernel_rfl) (by kernel_rfl) (by kernel_rfl) (by kernel_rfl) (by kernel_rfl) (Or.inl ⟨by rfl, ?_⟩) hHeld ?_
  · intro wS hSw
    obtain ⟨z0, z1, z2, z3, z4, z5⟩ := hSw
    clear hHeld
    go_simp
    (try (intro hz; omega))
  (try simp only [Act.put, List.setIfInBounds_toArray, List.set_cons_zero, List.set_cons_succ])
  refine take_G (i := 16) (d := 20) (v := .pointer (some ⟨b, o, none⟩)) rfl rfl (by kernel_rfl) (by kernel_rfl) (by kernel_rfl) (by kernel_rfl) (by kernel_rfl) (Or.inl ⟨by rfl, ?_⟩) hHeld ?_
  · intro wS hSw
    obtain ⟨z0, z1, z2, z3, z4, z5⟩ := hSw
    clear hHeld
    go_simp
    (try (intro hz; omega))
  (try simp only [Act.put, List.setIfInBounds_toArray, List.set_cons_zero, List.set_cons_succ])
  refine take_G (i := 17) (d := 21) (v := .pointer (some ⟨b, o + 1, none⟩)) rfl rfl (by kernel_rfl) (by kernel_rfl) (by kernel_rfl) (by kernel_rfl) (by kernel_rfl) (Or.inl ⟨by rfl, ?_⟩) hHeld ?_
  · intro wS hSw
    obtain ⟨z0, z1, z2, z3, z4, z5⟩ := hSw
    clear hHeld
    go_simp
    (try (intro hz; omega))
  (try simp only [Act.put, List.setIfInBounds_toArray, List.set_cons_zero, List.set_cons_succ])
  refine take_G (i := 18) (d := 22) (v := .int .i64 C0) rfl rfl (by kernel_rfl) (by kernel_rfl) (by kernel_rfl) (by kernel_rfl) (by kernel_rfl) (Or.inl ⟨by rfl, ?_⟩) hHeld ?_
  · intro wS hSw
    obtain ⟨z0, z1, z2, z3, z4, z5⟩ := hSw
    clear hHeld
    go_simp
    (try (intro hz; omega))
  (try simp only [Act.put, List.setIfInBounds_toArray, List.set_cons_zero, List.set_cons_succ])
  refine take_G (i := 19) (d := 23) (v := .bool true) rfl rfl (by kernel_rfl) (by kernel_rfl) (by kernel_rfl) (by kernel_rfl) (by kernel_rfl) (Or.inl ⟨by rfl, ?_⟩) hHeld ?_
  · intro wS hSw
    obtain ⟨z0, z1, z2, z3, z4, z5⟩ := hSw
    clear hHeld
    go_simp
    (try (intro hz; omega))
  (try simp only [Act.put, List.setIfInBounds_toArray, List.set_cons_zero, List.set_cons_succ])
  refine take_G (i := 20) (d := 24) (v := .bool true) rfl rfl (by kernel_rfl) (by kernel_rfl) (by kernel_rfl) (by kernel_rfl) (by kernel_rfl) (Or.inl ⟨by rfl, ?_⟩) hHeld ?_
  · intro wS hSw
    obtain ⟨z0, z1, z2, z3, z4, z5⟩ := hSw
    clear hHeld
    go_simp
    (try (intro hz; omega))
  (try simp only [Act.put, List.setIfInBounds_toArray, List.set_cons_zero, List.set_cons_succ])
  clear hHeld
  refine step_G (i := 21) (by kernel_rfl) (fun K hK => ?_)
  refine wpOp_wantP rfl (by rfl) ?_
  unfold Oper.wp
  go_simp
  refine hK _ _ (fun h => absurd rfl h) ?_
  clear hK K
  (try simp only [Act.put, List.setIfInBounds_toArray, List.set_cons_zero, List.set_cons_succ])
  refine done_G (by kernel_rfl) ?_
  refine noPanic_normalE ?_
  go_wp2
  go_ret
  exact ⟨rfl, unhide GG⟩

set_option maxRecDepth 50000 in
set_option maxHeartbeats 4000000 in
theorem polyn1_ok (R C R0 C0 : Int) (ao : Option Addr) (len cap pb b o n pc : Nat) (hn : 1 ≤ n) (hb : okM R C len) (hr : C = C0) (hR : R = R0) (w : World) (hp : w.cell? ⟨pb, 0, none⟩ = some (.slice (some ⟨b, o, none⟩) n pc)) (h0 : w.cell? ⟨b, o, none⟩ = some (.int .i64 R0)) (h1 : w.cell? ⟨b, o + 1, none⟩ = some (.int .i64 C0)) :
    Calls Tryz.prog 58 #[.agg #[.int .i64 R, .int .i64 C, .slice ao len cap], .pointer (some ⟨pb, 0, none⟩)] w fun e w' => e = .returned (.bool false) ∧ Grown w w' := by
  have CK := hide (fun w => matCheck R C ao len cap w)
  rw [chk_ok hb] at CK
  have g1 : Grown w (w.alloc (.cells #[.int .i64 R, .int .i64 C, .slice ao len cap] 24)) := (Grown.refl _).alloc _ _
  have b1 := Blk.new w #[.int .i64 R, .int .i64 C, .slice ao len cap] 24
  have HH : Hid ((fun w' => w'.cell? ⟨w.heap.size, 0, none⟩ = some (.int .i64 R) ∧ w'.cell? ⟨w.heap.size, 1, none⟩ = some (.int .i64 C) ∧ w'.cell? ⟨w.heap.size, 2, none⟩ = some (.slice ao len cap) ∧ w'.cell? ⟨pb, 0, none⟩ = some (.slice (some ⟨b, o, none⟩) n pc) ∧ w'.cell? ⟨b, o, none⟩ = some (.int .i64 R0) ∧ w'.cell? ⟨b, o + 1, none⟩ = some (.int .i64 C0)) (w.alloc (.cells #[.int .i64 R, .int .i64 C, .slice ao len cap] 24))) := ⟨Blk.cell b1 0, Blk.cell b1 1, Blk.cell b1 2, gat g1 hp, gat g1 h0, gat g1 h1⟩
  have HG := hide g1
  have i0 : (0 : Int) < (n : Int) := by omega
  have b2 : (C != C0) = false := by simpa using hr
  have b3 : (R != R0) = false := by simpa using hR
  clear g1 b1 hp h0 h1 hb hr hR
  go_enter Tryz.func58, Tryz.ntmps58
  go_wp2_with fail
  generalize w.alloc (.cells #[.int .i64 R, .int .i64 C, .slice ao len cap] 24) = w1 at *
  have HH2 : Hid ((fun w' => w'.cell? ⟨w.heap.size, 0, none⟩ = some (.int .i64 R) ∧ w'.cell? ⟨w.heap.size, 1, none⟩ = some (.int .i64 C) ∧ w'.cell? ⟨w.heap.size, 2, none⟩ = some (.slice ao len cap) ∧ w'.cell? ⟨pb, 0, none⟩ = some (.slice (some ⟨b, o, none⟩) n pc) ∧ w'.cell? ⟨b, o, none⟩ = some (.int .i64 R0) ∧ w'.cell? ⟨b, o + 1, none⟩ = some (.int .i64 C0)) w1.drew) := unhide HH
  clear HH
  have HH := HH2
  clear HH2
  refine region_G (fun w' => w'.cell? ⟨w.heap.size, 0, none⟩ = some (.int .i64 R) ∧ w'.cell? ⟨w.heap.size, 1, none⟩ = some (.int .i64 C) ∧ w'.cell? ⟨w.heap.size, 2, none⟩ = some (.slice ao len cap) ∧ w'.cell? ⟨pb, 0, none⟩ = some (.slice (some ⟨b, o, none⟩) n pc) ∧ w'.cell? ⟨b, o, none⟩ = some (.int .i64 R0) ∧ w'.cell? ⟨b, o + 1, none⟩ = some (.int .i64 C0)) 21 (by kernel_rfl) (unhide HH) (fun hHeld => ?_)
  refine take_G (i := 0) (d := 4) (v := .agg #[.int .i64 R, .int .i64 C, .slice ao len cap]) rfl rfl (by kernel_rfl) (by kernel_rfl) (by kernel_rfl) (by kernel_rfl) (by kernel_rfl) (Or.inl ⟨by rfl, ?_⟩) hHeld ?_
  · intro wS hSw
    obtain ⟨z0, z1, z2, z3, z4, z5⟩ := hSw
    clear hHeld
    go_simp
    (try (intro hz; omega))
  (try simp only [Act.put, List.setIfInBounds_toArray, List.set_cons_zero, List.set_cons_succ])
  refine step_G (i := 1) (by kernel_rfl) (fun K hK => ?_)
  refine wpOp_wantP rfl (by rfl) ?_
  unfold Oper.wp
  go_simp
  refine (unhide CK _).mono ?_
  rintro e w3 ⟨rfl, g3⟩
  have hHeld : (fun w' => w'.cell? ⟨w.heap.size, 0, none⟩ = some (.int .i64 R) ∧ w'.cell? ⟨w.heap.size, 1, none⟩ = some (.int .i64 C) ∧ w'.cell? ⟨w.heap.size, 2, none⟩ = some (.slice ao len cap) ∧ w'.cell? ⟨pb, 0, none⟩ = some (.slice (some ⟨b, o, none⟩) n pc) ∧ w'.cell? ⟨b, o, none⟩ = some (.int .i64 R0) ∧ w'.cell? ⟨b, o + 1, none⟩ = some (.int .i64 C0)) w3 := ⟨gat g3 (unhide HH).1, gat g3 (unhide HH).2.1, gat g3 (unhide HH).2.2.1, gat g3 (unhide HH).2.2.2.1, gat g3 (unhide HH).2.2.2.2.1, gat g3 (unhide HH).2.2.2.2.2⟩
  have GG := hide (gtrans (unhide HG) g3)
  clear g3 HG
  refine hK _ _ (fun _ => hHeld) ?_
  clear hK K
  (try simp only [Act.put, List.setIfInBounds_toArray, List.set_cons_zero, List.set_cons_succ])
  refine take_G (i := 2) (d := 6) (v := .bool false) rfl rfl (by kernel_rfl) (by kernel_rfl) (by kernel_rfl) (by kernel_rfl) (by kernel_rfl) (Or.inl ⟨by rfl, ?_⟩) hHeld ?_
  · intro wS hSw
    obtain ⟨z0, z1, z2, z3, z4, z5⟩ := hSw
    clear hHeld
    go_simp
    (try (intro hz; omega))
  (try simp only [Act.put, List.setIfInBounds_toArray, List.set_cons_zero, List.set_cons_succ])
  refine take_G (i := 3) (d := 7) (v := .bool false) rfl rfl (by kernel_rfl) (by kernel_rfl) (by kernel_rfl) (by kernel_rfl) (by kernel_rfl) (Or.inl ⟨by rfl, ?_⟩) hHeld ?_
  · intro wS hSw
    obtain ⟨z0, z1, z2, z3, z4, z5⟩ := hSw
    clear hHeld
    go_simp
    (try (intro hz; omega))
  (try simp only [Act.put, List.setIfInBounds_toArray, List.set_cons_zero, List.set_cons_succ])
  refine take_G (i := 4) (d := 8) (v := .pointer (some ⟨w.heap.size, 0, none⟩)) rfl rfl (by kernel_rfl) (by kernel_rfl) (by kernel_rfl) (by kernel_rfl) (by kernel_rfl) (Or.inl ⟨by rfl, ?_⟩) hHeld ?_
  · intro wS hSw
    obtain ⟨z0, z1, z2, z3, z4, z5⟩ := hSw
    clear hHeld
    go_simp
    (try (intro hz; omega))
  (try simp only [Act.put, List.setIfInBounds_toArray, List.set_cons_zero, List.set_cons_succ])
  refine take_G (i := 5) (d := 9) (v := .int .i64 R) rfl rfl (by kernel_rfl) (by kernel_rfl) (by kernel_rfl) (by kernel_rfl) (by kernel_rfl) (Or.inl ⟨by rfl, ?_⟩) hHeld ?_
  · intro wS hSw
    obtain ⟨z0, z1, z2, z3, z4, z5⟩ := hSw
    clear hHeld
    go_simp
    (try (intro hz; omega))
  (try simp only [Act.put, List.setIfInBounds_toArray, List.set_cons_zero, List.set_cons_succ])
  refine take_G (i := 6) (d := 10) (v := .slice (some ⟨b, o, none⟩) n pc) rfl rfl (by kernel_rfl) (by kernel_rfl) (by kernel_rfl) (by kernel_rfl) (by kernel_rfl) (Or.inl ⟨by rfl, ?_⟩) hHeld ?_
  · intro wS hSw
    obtain ⟨z0, z1, z2, z3, z4, z5⟩ := hSw
    clear hHeld
    go_simp
    (try (intro hz; omega))
  (try simp only [Act.put, List.setIfInBounds_toArray, List.set_cons_zero, List.set_cons_succ])
  refine take_G (i := 7) (d := 11) (v := .pointer (some ⟨b, o, none⟩)) rfl rfl (by kernel_rfl) (by kernel_rfl) (by kernel_rfl) (by kernel_rfl) (by kernel_rfl) (Or.inl ⟨by rfl, ?_⟩) hHeld ?_
  · intro wS hSw
    obtain ⟨z0, z1, z2, z3, z4, z5⟩ := hSw
    clear hHeld
    go_simp
    (try (intro hz; omega))
  (try simp only [Act.put, List.setIfInBounds_toArray, List.set_cons_zero, List.set_cons_succ])
  refine take_G (i := 8) (d := 12) (v := .pointer (some ⟨b, o, none⟩)) rfl rfl (by kernel_rfl) (by kernel_rfl) (by kernel_rfl) (by kernel_rfl) (by kernel_rfl) (Or.inl ⟨by rfl, ?_⟩) hHeld ?_
  · intro wS hSw
    obtain ⟨z0, z1, z2, z3, z4, z5⟩ := hSw
    clear hHeld
    go_simp
    (try (intro hz; omega))
  (try simp only [Act.put, List.setIfInBounds_toArray, List.set_cons_zero, List.set_cons_succ])
  refine take_G (i := 9) (d := 13) (v := .int .i64 R0) rfl rfl (by kernel_rfl) (by kernel_rfl) (by kernel_rfl) (by kernel_rfl) (by kernel_rfl) (Or.inl ⟨by rfl, ?_⟩) hHeld ?_
  · intro wS hSw
    obtain ⟨z0, z1, z2, z3, z4, z5⟩ := hSw
    clear hHeld
    go_simp
    (try (intro hz; omega))
  (try simp only [Act.put, List.setIfInBounds_toArray, List.set_cons_zero, List.set_cons_succ])
  refine take_G (i := 10) (d := 14) (v := .bool false) rfl rfl (by kernel_rfl) (by kernel_rfl) (by kernel_rfl) (by kernel_rfl) (by kernel_rfl) (Or.inl ⟨by rfl, ?_⟩) hHeld ?_
  · intro wS hSw
    obtain ⟨z0, z1, z2, z3, z4, z5⟩ := hSw
    clear hHeld
    go_simp
    (try (intro hz; omega))
  (try simp only [Act.put, List.setIfInBounds_toArray, List.set_cons_zero, List.set_cons_succ])
  refine take_G (i := 11) (d := 15) (v := .bool false) rfl rfl (by kernel_rfl) (by kernel_rfl) (by kernel_rfl) (by kernel_rfl) (by kernel_rfl) (Or.inl ⟨by rfl, ?_⟩) hHeld ?_
  · intro wS hSw
    obtain ⟨z0, z1, z2, z3, z4, z5⟩ := hSw
    clear hHeld
    go_simp
    (try (intro hz; omega))
  (try simp only [Act.put, List.setIfInBounds_toArray, List.set_cons_zero, List.set_cons_succ])
  refine take_G (i := 12) (d := 16) (v := .bool false) rfl rfl (by kernel_rfl) (by kernel_rfl) (by kernel_rfl) (by kernel_rfl) (by kernel_rfl) (Or.inl ⟨by rfl, ?_⟩) hHeld ?_
  · intro wS hSw
    obtain ⟨z0, z1, z2, z3, z4, z5⟩ := hSw
    clear hHeld
    go_simp
    (try (intro hz; omega))
  (try simp only [Act.put, List.setIfInBounds_toArray, List.set_cons_zero, List.set_cons_succ])
  refine take_G (i := 13) (d := 17) (v := .pointer (some ⟨w.heap.size, 1, none⟩)) rfl rfl (by kernel_rfl) (by kernel_rfl) (by kernel_rfl) (by kernel_rfl) (by kernel_rfl) (Or.inl ⟨by rfl, ?_⟩) hHeld ?_
  · intro wS hSw
    obtain ⟨z0, z1, z2, z3, z4, z5⟩ := hSw
    clear hHeld
    go_simp
    (try (intro hz; omega))
  (try simp only [Act.put, List.setIfInBounds_toArray, List.set_cons_zero, List.set_cons_succ])
  refine take_G (i := 14) (d := 18) (v := .int .i64 C) rfl rfl (by kernel_rfl) (by kernel_rfl) (by kernel_rfl) (by kernel_rfl) (by kernel_rfl) (Or.inl ⟨by rfl, ?_⟩) hHeld ?_
  · intro wS hSw
    obtain ⟨z0, z1, z2, z3, z4, z5⟩ := hSw
    clear hHeld
    go_simp
    (try (intro hz; omega))
  (try simp only [Act.put, List.setIfInBounds_toArray, List.set_cons_zero, List.set_cons_succ])
  refine take_G (i := 15) (d := 19) (v := .slice (some ⟨b, o, none⟩) n pc) rfl rfl (by kernel_rfl) (by kernel_rfl) (by kernel_rfl) (by kernel_rfl) (by kernel_rfl) (Or.inl ⟨by rfl, ?_⟩) hHeld ?_
  · intro wS hSw
    obtain ⟨z0, z1, z2, z3, z4, z5⟩ := hSw
    clear hHeld
    go_simp
    (try (intro hz; omega))
  (try simp only [Act.put, List.setIfInBounds_toArray, List.set_cons_zero, List.set_cons_succ])
  refine take_G (i := 16) (d := 20) (v := .pointer (some ⟨b, o, none⟩)) rfl rfl (by kernel_rfl) (by kernel_rfl) (by kernel_rfl) (by kernel_rfl) (by kernel_rfl) (Or.inl ⟨by rfl, ?_⟩) hHeld ?_
  · intro wS hSw
    obtain ⟨z0, z1, z2, z3, z4, z5⟩ := hSw
    clear hHeld
    go_simp
    (try (intro hz; omega))
  (try simp only [Act.put, List.setIfInBounds_toArray, List.set_cons_zero, List.set_cons_succ])
  refine take_G (i := 17) (d := 21) (v := .pointer (some ⟨b, o + 1, none⟩)) rfl rfl (by kernel_rfl) (by kernel_rfl) (by kernel_rfl) (by kernel_rfl) (by kernel_rfl) (Or.inl ⟨by rfl, ?_⟩) hHeld ?_
  · intro wS hSw
    obtain ⟨z0, z1, z2, z3, z4, z5⟩ := hSw
    clear hHeld
    go_simp
    (try (intro hz; omega))
  (try simp only [Act.put, List.setIfInBounds_toArray, List.set_cons_zero, List.set_cons_succ])
  refine take_G (i := 18) (d := 22) (v := .int .i64 C0) rfl rfl (by kernel_rfl) (by kernel_rfl) (by kernel_rfl) (by kernel_rfl) (by kernel_rfl) (Or.inl ⟨by rfl, ?_⟩) hHeld ?_
  · intro wS hSw
    obtain ⟨z0, z1, z2, z3, z4, z5⟩ := hSw
    clear hHeld
    go_simp
    (try (intro hz; omega))
  (try simp only [Act.put, List.setIfInBounds_toArray, List.set_cons_zero, List.set_cons_succ])
  refine take_G (i := 19) (d := 23) (v := .bool false) rfl rfl (by kernel_rfl) (by kernel_rfl) (by kernel_rfl) (by kernel_rfl) (by kernel_rfl) (Or.inl ⟨by rfl, ?_⟩) hHeld ?_
  · intro wS hSw
    obtain ⟨z0, z1, z2, z3, z4, z5⟩ := hSw
    clear hHeld
    go_simp
    (try (intro hz; omega))
  (try simp only [Act.put, List.setIfInBounds_toArray, List.set_cons_zero, List.set_cons_succ])
  refine take_G (i := 20) (d := 24) (v := .bool false) rfl rfl (by kernel_rfl) (by kernel_rfl) (by kernel_rfl) (by kernel_rfl) (by kernel_rfl) (Or.inl ⟨by rfl, ?_⟩) hHeld ?_
  · intro wS hSw
    obtain ⟨z0, z1, z2, z3, z4, z5⟩ := hSw
    clear hHeld
    go_simp
    (try (intro hz; omega))
  (try simp only [Act.put, List.setIfInBounds_toArray, List.set_cons_zero, List.set_cons_succ])
  clear hHeld
  refine step_G (i := 21) (by kernel_rfl) (fun K hK => ?_)
  refine wpOp_wantP rfl (by rfl) ?_
  unfold Oper.wp
  go_simp
  refine hK _ _ (fun h => absurd rfl h) ?_
  clear hK K
  (try simp only [Act.put, List.setIfInBounds_toArray, List.set_cons_zero, List.set_cons_succ])
  refine done_G (by kernel_rfl) ?_
  refine noPanic_normalE ?_
  go_wp2
  go_ret
  exact ⟨rfl, unhide GG⟩

theorem polyn1 (R C R0 C0 : Int) (ao : Option Addr) (len cap pb b o n pc : Nat) (hn : 1 ≤ n) (w : World) (hp : w.cell? ⟨pb, 0, none⟩ = some (.slice (some ⟨b, o, none⟩) n pc)) (h0 : w.cell? ⟨b, o, none⟩ = some (.int .i64 R0)) (h1 : w.cell? ⟨b, o + 1, none⟩ = some (.int .i64 C0)) :
    Calls Tryz.prog 58 #[.agg #[.int .i64 R, .int .i64 C, .slice ao len cap], .pointer (some ⟨pb, 0, none⟩)] w fun e w' => e = .returned (.bool (badM R C len R0 C0)) ∧ Grown w w' := by
  by_cases h : okM R C len
  · by_cases hR : R = R0
    · by_cases hC : C = C0
      · rw [badM_no ⟨h, hR, hC⟩]
        exact polyn1_ok R C R0 C0 ao len cap pb b o n pc hn h hC hR w hp h0 h1
      · rw [badM_yes (fun k => hC k.2.2)]
        exact polyn1_C R C R0 C0 ao len cap pb b o n pc hn h hC hR w hp h0 h1
    · rw [badM_yes (fun k => hR k.2.1)]
      exact polyn1_R R C R0 C0 ao len cap pb b o n pc hn h hR w hp h0 h1
  · rw [badM_yes (fun k => h k.1)]
    exact polyn1_bad R C R0 C0 ao len cap pb b o n pc hn h w hp h0 h1

/-- Which one is the first that is not like the others? -/
def IdxP (n : Nat) (X : Nat → MV) (R0 C0 : Int) (w : World) (e : Ending) (w' : World) : Prop :=
  ∃ r : Int, e = .returned (.int .i64 r) ∧ Grown w w' ∧ ((r = -1 ∧ ∀ i, i < n → likeM (X i).R (X i).C (X i).len R0 C0) ∨ (0 ≤ r ∧ ∃ i, i < n ∧ ¬ likeM (X i).R (X i).C (X i).len R0 C0))

set_option maxRecDepth 20000 in
set_option maxHeartbeats 2000000 in
theorem indexMat (ao : Option Addr) (n cap pb pc b o : Nat) (X : Nat → MV) (R0 C0 : Int) (hn : 1 ≤ n ∧ n ≤ 25) (w : World) (hm : Mats w ao n X) (hp : w.cell? ⟨pb, 0, none⟩ = some (.slice (some ⟨b, o, none⟩) n pc)) (h0 : w.cell? ⟨b, o, none⟩ = some (.int .i64 R0)) (h1 : w.cell? ⟨b, o + 1, none⟩ = some (.int .i64 C0)) :
    Calls Tryz.prog 90 #[.slice ao n cap, .func (.func 58) #[] #[.pointer (some ⟨pb, 0, none⟩)]] w fun e w' => IdxP n X R0 C0 w e w' := by
  have HM := hide hm
  have HP := hide (And.intro hp (And.intro h0 h1))
  have eF := enters_of Tryz.func58 (by kernel_rfl) rfl
  have PN : Hid (∀ R C ao len cap wx, Grown w wx → Calls Tryz.prog 58 #[.agg #[.int .i64 R, .int .i64 C, .slice ao len cap], .pointer (some ⟨pb, 0, none⟩)] wx fun e w' => e = .returned (.bool (badM R C len R0 C0)) ∧ Grown wx w') := fun R C ao len cap wx g => polyn1 R C R0 C0 ao len cap pb b o n pc hn.1 wx (gat g hp) (gat g h0) (gat g h1)
  obtain ⟨n1, n2⟩ := hn
  clear hm hp h0 h1
  go_enter Tryz.func90, Tryz.ntmps90
  go_wp2_with fail
  go_loopw [8] (fun i wr => ∃ k : Nat, k ≤ n ∧ i = .int .i64 k ∧ Hid (Grown w wr ∧ ∀ i, i < k → likeM (X i).R (X i).C (X i).len R0 C0)) (fun i _ => n - (intOf i).toNat)
  case atStart => exact ⟨0, Nat.zero_le _, rfl, Grown.refl _, fun i hi => absurd hi (Nat.not_lt_zero _)⟩
  case round =>
    obtain ⟨k, hk, rfl, HI⟩ := hrel
    by_cases hlt : k < n
    · obtain ⟨bb, oo, rfl, c0, c1, c2⟩ := ((unhide HM).grown (unhide HI).1).at hlt
      have P1 := hide (unhide PN (X k).R (X k).C (X k).ao (X k).len (X k).cap wr (unhide HI).1)
      have i1 : (k : Int) < (n : Int) := by omega
      have i0 : (0 : Int) ≤ (k : Int) := by omega
      have DB : Hid (badM (X k).R (X k).C (X k).len R0 C0 = true → ¬ likeM (X k).R (X k).C (X k).len R0 C0) := fun h k => by rw [badM_no k] at h; cases h
      have DG : Hid (badM (X k).R (X k).C (X k).len R0 C0 = false → likeM (X k).R (X k).C (X k).len R0 C0) := fun h => by
        classical
        exact Decidable.byContradiction fun k => by rw [badM_yes k] at h; cases h
      generalize badM (X k).R (X k).C (X k).len R0 C0 = bd at *
      cases bd
      · go_wp2_with fail
        refine (unhide P1).mono ?_
        rintro e w2 ⟨rfl, g2⟩
        have R : Hid (Grown w w2 ∧ ∀ i, i < k + 1 → likeM (X i).R (X i).C (X i).len R0 C0) := ⟨gtrans (unhide HI).1 g2, fun i hi => by
          by_cases e : i = k
          · subst e; exact unhide DG trivial
          · exact (unhide HI).2 i (by omega)⟩
        clear g2 P1 c0 c1 c2
        go_wp2
        go_roundw
        case rel => exact ⟨k + 1, by omega, by go_num, R⟩
        case measure => simp [intOf]; omega
      · go_wp2_with fail
        refine (unhide P1).mono ?_
        rintro e w2 ⟨rfl, g2⟩
        have R : Hid (Grown w w2) := gtrans (unhide HI).1 g2
        clear g2 P1 c0 c1 c2
        go_wp2
        go_ret
        exact (show IdxP _ _ _ _ _ _ _ from ⟨_, rfl, unhide R, Or.inr ⟨i0, k, hlt, unhide DB trivial⟩⟩)
    · obtain rfl : k = n := by omega
      go_wp2
      go_ret
      exact (show IdxP _ _ _ _ _ _ _ from ⟨_, rfl, (unhide HI).1, Or.inl ⟨rfl, (unhide HI).2⟩⟩)

def ConP (n : Nat) (X : Nat → MV) (R0 C0 : Int) (w : World) (e : Ending) (w' : World) : Prop :=
  ∃ r : Bool, e = .returned (.bool r) ∧ Grown w w' ∧ ((r = false ∧ ∀ i, i < n → likeM (X i).R (X i).C (X i).len R0 C0) ∨ (r = true ∧ ∃ i, i < n ∧ ¬ likeM (X i).R (X i).C (X i).len R0 C0))
set_option maxRecDepth 20000 in
set_option maxHeartbeats 2000000 in
theorem containsMat (ao : Option Addr) (n cap pb pc b o : Nat) (X : Nat → MV) (R0 C0 : Int) (hn : 1 ≤ n ∧ n ≤ 25) (w : World) (hm : Mats w ao n X) (hp : w.cell? ⟨pb, 0, none⟩ = some (.slice (some ⟨b, o, none⟩) n pc)) (h0 : w.cell? ⟨b, o, none⟩ = some (.int .i64 R0)) (h1 : w.cell? ⟨b, o + 1, none⟩ = some (.int .i64 C0)) :
    Calls Tryz.prog 57 #[.slice ao n cap, .func (.func 58) #[] #[.pointer (some ⟨pb, 0, none⟩)]] w fun e w' => ConP n X R0 C0 w e w' := by
  have IX := hide (indexMat ao n cap pb pc b o X R0 C0 hn w hm hp h0 h1)
  clear hm hp h0 h1
  go_enter Tryz.func57, Tryz.ntmps57
  go_wp2_with fail
  refine (unhide IX).mono ?_
  intro e w2 hI
  obtain ⟨r, rfl, g2, hr⟩ := hI
  have G2 := hide (And.intro g2 hr)
  clear IX
  rcases hr with ⟨rfl, _⟩ | ⟨hr, _⟩
  · clear g2
    go_wp2
    go_ret
    exact (show ConP _ _ _ _ _ _ _ from ⟨_, rfl, (unhide G2).1, ((unhide G2).2.imp (fun h => ⟨rfl, h.2⟩) (fun h => absurd h.1 (by omega)))⟩)
  · have d0 : decide ((0 : Int) ≤ r) = true := decide_eq_true hr
    have HR := hide hr
    clear g2 hr
    go_wp2
    go_ret
    exact (show ConP _ _ _ _ _ _ _ from ⟨_, rfl, (unhide G2).1, ((unhide G2).2.imp (fun h => absurd h.1 (by have := unhide HR; omega)) (fun h => ⟨rfl, h.2⟩))⟩)

/-- A polynomial. -/
def okP (n : Nat) (X : Nat → MV) : Prop := (1 ≤ n ∧ n ≤ 25) ∧ ∀ i, i < n → likeM (X i).R (X i).C (X i).len (X 0).R (X 0).C
open Classical in
noncomputable def okPB (n : Nat) (X : Nat → MV) : Bool := decide (okP n X)
theorem okPB_yes {n : Nat} {X : Nat → MV} (h : okP n X) : okPB n X = true := by classical exact decide_eq_true h
theorem okPB_no {n : Nat} {X : Nat → MV} (h : ¬ okP n X) : okPB n X = false := by classical exact decide_eq_false h

set_option maxRecDepth 20000 in
set_option maxHeartbeats 4000000 in
theorem polyPolynomial (ao : Option Addr) (n cap : Nat) (X : Nat → MV) (hl : n ≤ 9223372036854775807) (w : World) (hm : Mats w ao n X) :
    Calls Tryz.prog 34 #[.slice ao n cap] w fun e w' => e = .returned (.bool (okPB n X)) ∧ Grown w w' := by
  have g1 : Grown w (w.alloc (.cells #[.slice ao n cap] 31)) := (Grown.refl _).alloc _ _
  have b1 := Blk.new w #[.slice ao n cap] 31
  have x0 : (w.alloc (.cells #[.slice ao n cap] 31)).cell? ⟨w.heap.size, 0, none⟩ = some (.slice ao n cap) := Blk.cell b1 0
  have HG := hide g1
  have HM := hide (hm.grown g1)
  clear g1 hm b1
  by_cases h1 : 1 ≤ n
  · have d1 : decide ((1 : Int) ≤ (n : Int)) = true := decide_eq_true (by omega)
    by_cases h2 : n ≤ 25
    · have d2 : decide ((n : Int) ≤ 25) = true := decide_eq_true (by omega)
      obtain ⟨b, o, rfl, hc⟩ := (unhide HM).resolve_left (by omega)
      have CT := hide (containsMat (some ⟨b, o, none⟩) n cap w.heap.size cap b o X (X 0).R (X 0).C ⟨h1, h2⟩ _ (unhide HM) x0 (hc 0 (by omega) 0 (by omega)) (hc 0 (by omega) 1 (by omega)))
      clear hc HM
      go_enter Tryz.func34, Tryz.ntmps34
      go_wp2_with fail
      generalize w.alloc (.cells #[.slice (some ⟨b, o, none⟩) n cap] 31) = w1 at *
      refine (unhide CT).mono ?_
      intro e w2 hI
      obtain ⟨r, rfl, g2, hr⟩ := hI
      have G2 := hide (gtrans (unhide HG) g2)
      have HR := hide hr
      clear CT g2 hr x0 HG
      have E : Hid (okPB n X = !r) := by
        rcases unhide HR with ⟨rfl, h⟩ | ⟨rfl, i, hi, h⟩
        · exact okPB_yes ⟨⟨h1, h2⟩, h⟩
        · exact okPB_no (fun k => h (k.2 i hi))
      clear HR
      cases r
      · go_wp2
        go_ret
        exact ⟨by rw [unhide E]; rfl, unhide G2⟩
      · go_wp2
        go_ret
        exact ⟨by rw [unhide E]; rfl, unhide G2⟩
    · have d2 : decide ((n : Int) ≤ 25) = false := decide_eq_false (by omega)
      have E := hide (okPB_no (X := X) (fun h => h2 h.1.2))
      clear h1 h2
      go_enter Tryz.func34, Tryz.ntmps34
      go_wp2
      go_ret
      exact ⟨by rw [unhide E]; rfl, unhide HG⟩
  · have d1 : decide ((1 : Int) ≤ (n : Int)) = false := decide_eq_false (by omega)
    have E := hide (okPB_no (X := X) (fun h => h1 h.1.1))
    clear h1
    go_enter Tryz.func34, Tryz.ntmps34
    go_wp2
    go_ret
    exact ⟨by rw [unhide E]; rfl, unhide HG⟩

end Go.Proofs.YtopaakjildmjcaaGreat

/- Package slices: Backward over matrices; package poly: At. -/
namespace Go.Proofs.YtopaakjildmjcaaGreat
open Go.RowKit Go.Shelf Go.Proofs.Wd
set_option linter.unusedVariables false
set_option linter.unusedSimpArgs false
set_option maxRecDepth 10000

section
variable {P : Program} {ops : Array Oper} {Q : Exit → Act → World → Prop} {md : Region.Mode} {S : World → Prop} {g : Nat}
/-- A region of which only these ends are left. -/
theorem region_cutP {T : Type} {id : Nat} {dr : Bool} {a : Act} {w : World} (acts : Act → T → Act) (R : T → World → Prop) (h : (Code.region id ops dr).wp P (fun e a' w' => e = .normal ∧ ∃ t, R t w' ∧ a' = acts a t) a w) (fin : ∀ t w', R t w' → Q .normal (acts a t) w') : (Code.region id ops dr).wp P Q a w :=
  Code.wp_mono (fun e a' w' h => by obtain ⟨rfl, t, hR, rfl⟩ := h; exact fin t w' hR) h
/-- Two operations can come up. -/
theorem pick2_GP {i j fuel : Nat} {listed : Array Bool} {a : Act} {w : World} (hr : Region.ready md ops listed = [i, j])
    (h1 : ∀ K : Act → World → Prop, (∀ a' w', (i ≠ g → S w') → wpAnyG P md ops (NoPanic Q) S g fuel (listed.setIfInBounds i true) a' w' → K a' w') → wpOp P ops (NoPanic Q) i K a w)
    (h2 : ∀ K : Act → World → Prop, (∀ a' w', (j ≠ g → S w') → wpAnyG P md ops (NoPanic Q) S g fuel (listed.setIfInBounds j true) a' w' → K a' w') → wpOp P ops (NoPanic Q) j K a w) : wpAnyG P md ops (NoPanic Q) S g (fuel + 1) listed a w :=
  ⟨fun h0 => by (rw [hr] at h0; cases h0), fun q hq => by
    rw [hr] at hq
    simp only [List.mem_cons, List.not_mem_nil, or_false] at hq
    rcases hq with rfl | rfl
    · exact h1 _ (fun a' w' x y => ⟨x, y⟩)
    · exact h2 _ (fun a' w' x y => ⟨x, y⟩)⟩
end

set_option maxRecDepth 50000 in
set_option maxHeartbeats 1000000 in
theorem clonePoly (b o n cap : Nat) (Z : Nat → Int) (h1 : 1 ≤ n) (hn : n ≤ 1000000) (w : World) (hr : Row w (some ⟨b, o, none⟩) n Z) :
    Calls Tryz.prog 35 #[.slice (some ⟨b, o, none⟩) n cap] w fun e w' => ∃ B cap', e = .returned (.slice (some ⟨B, 0, none⟩) n cap') ∧ n ≤ cap' ∧ w.heap.size ≤ B ∧ Own B n Z w' ∧ Kp w w' := by
  obtain ⟨i0, hi, hz0, hz1, hz2⟩ := info_parts Tryz.infoInt
  have OM := hide (World.ownsRow_made (base := w.heap.size) (e := 3) (size := 1) w #[] 0 (Nat.le_refl _) (by unfold maxLen; omega) (by simp))
  have NEWH : Hid (∀ j u, ((List.range n).map fun i => Value.int .i64 (Z i))[j]? = some u → (w.alloc (.cells #[] 3)).cell? ((⟨b, o, none⟩ : Addr).add j) = some u) := by
    intro j u hu
    rw [List.getElem?_map] at hu
    by_cases hj : j < n
    · rw [List.getElem?_range hj] at hu
      simp at hu
      subst hu
      obtain ⟨b', o', e, hc⟩ := hr.at hj
      cases e
      rw [Go.WideShapes.add_plain]
      exact gat ((Grown.refl _).alloc _ _) hc
    · rw [List.getElem?_eq_none (by simpa using hj)] at hu
      simp at hu
  have H1 := hide h1
  have q22 : ∀ w : World, (binOp .eql 22 (.slice (some ⟨b, o, none⟩) n cap) (.slice none 0 0)).run Tryz.prog w = .ok (.bool false) w := fun w => Lib.run_eql_slice_nil w _ _ _ n cap 0 0 Tryz.underlying22
  clear hr h1
  go_enter Tryz.func35, Tryz.ntmps35
  go_wp2_with (at_builtin; refine wpList_append_own _ rfl _ _ 22 rfl w.heap.size 3 i0 (.int .i64 0) 1 8 Tryz.underlying22 hi hz0 hz1 hz2 rfl (by decide) _ _ _ rfl (unhide OM) ⟨b, o, none⟩ n cap ((List.range n).map fun i => Value.int .i64 (Z i)) rfl (by simp) (unhide NEWH) (cells_one _ _) (by unfold maxLen; omega) (by omega) (by simp) ?_; intro v' w1 hown' hgrow _)
  rw [Nat.zero_add, List.nil_append] at hown'
  obtain ⟨B, cap2, rfl, hC, hB, own2⟩ := owns_ownC (unhide H1) hown'
  have K1 : Hid (Kp w w1) := Kp.by ((Kp.refl _).alloc _ _) hgrow (fun k e => by have := ((unhide OM).lt k e).1; omega)
  have R1 := hide (And.intro hC (And.intro hB own2))
  clear hown' hgrow hB own2 hC
  go_wp2
  go_ret
  exact ⟨_, _, rfl, (unhide R1).1, (unhide R1).2.1, (unhide R1).2.2, unhide K1⟩

set_option maxHeartbeats 1000000 in
theorem backMk (ao : Option Addr) (len cap : Nat) (w : World) : Calls Tryz.prog 36 #[.slice ao len cap] w fun e w' => e = .returned (.func (.func 59) #[] #[.pointer (some ⟨w.heap.size, 0, none⟩)]) ∧ w' = w.alloc (.cells #[.slice ao len cap] 31) := by
  go_enter Tryz.func36, Tryz.ntmps36
  go_wp2
  go_ret
  exact ⟨rfl, rfl⟩

def encB (X : Nat → MV) (x : Nat) : Array Value := #[.int .i64 (x : Int), .agg #[.int .i64 (X x).R, .int .i64 (X x).C, .slice (X x).ao (X x).len (X x).cap]]
def nextB (n : Nat) (pre : List Nat) (x : Nat) : Prop := x + 1 + pre.length = n

section
attribute [local go_sem] Oper.semAt_some

set_option maxRecDepth 100000 in
set_option maxHeartbeats 4000000 in
theorem back1_in (f l sb n cap : Nat) (ao : Option Addr) (X : Nat → MV) (hf : 1 ≤ f) (hn : n ≤ 1000) (D : Nat → Prop) (dsb : ¬ D sb) (St : World → World → Prop) (J Jx : List Nat → World → Prop)
    (dD : ∀ q, (0 < n → ∃ o, ao = some ⟨q, o, none⟩) → 0 < n → ¬ D q)
    (hY : ∀ pre x W1, J pre W1 → nextB n pre x → YieldAt Fence.wide (f - 1) Tryz.prog l (encB X x) W1 fun e W' => KC D W1 W' ∧ ((e = .returned (.bool true) ∧ J (pre ++ [x]) W' ∧ True) ∨ (e = .returned (.bool false) ∧ Jx (pre ++ [x]) W')))
    (W : World) (hs : Blk sb #[.slice ao n cap] 31 W) (hm : Mats W ao n X) (h0 : J [] W) :
    CallsIn Fence.wide f Tryz.prog 59 #[.func (.yield l) #[] #[], .pointer (some ⟨sb, 0, none⟩)] W fun e W' => (∃ v, e = .returned v) ∧ ((∃ xs : List Nat, xs.length = n ∧ J xs W') ∨ (∃ pre : List Nat, True ∧ Jx pre W')) := by
  have d0 : W.cell? ⟨sb, 0, none⟩ = some (.slice ao n cap) := Blk.cell hs 0
  have wa : wrap64 ((n : Int) - 1) = (n : Int) - 1 := by unfold wrap64; omega
  have HY := hide hY
  have HD := hide dD
  have H0 := hide (And.intro h0 (And.intro hs hm))
  clear hY h0 hs hm dD
  refine callsIn_of_wp Tryz.func59 rfl trivial ?_ rfl
  simp only [Tryz.ntmps59, List.size_toArray, List.length_cons, List.length_nil, Nat.reduceAdd, Nat.reduceSub, Array.replicate_succ, Array.replicate_zero, List.push_toArray, List.append_toArray, List.nil_append, List.cons_append]
  gi_wp2
  gi_loopw [3] (fun i wr => ∃ j : Nat, j ≤ n ∧ i = .int .i64 ((n : Int) - 1 - (j : Int)) ∧ Hid ((∃ pre : List Nat, pre.length = j ∧ J pre wr) ∧ Blk sb #[.slice ao n cap] 31 wr ∧ Mats wr ao n X)) (fun i _ => (intOf i + 1).toNat)
  case atStart => exact ⟨0, Nat.zero_le _, by simp, ⟨[], rfl, (unhide H0).1⟩, (unhide H0).2⟩
  case round =>
    obtain ⟨j, hj, rfl, HI⟩ := hrel
    clear H0 d0
    by_cases hlt : j < n
    · obtain ⟨x, hx⟩ : ∃ x : Nat, (n : Int) - 1 - (j : Int) = (x : Int) := ⟨n - 1 - j, by omega⟩
      have hxn : x < n := by omega
      rw [hx]
      obtain ⟨⟨pre, hp, hJ⟩, hs, hm⟩ := unhide HI
      have d0 : wr.cell? ⟨sb, 0, none⟩ = some (.slice ao n cap) := Blk.cell hs 0
      obtain ⟨b, o, rfl, c0, c1, c2⟩ := hm.at hxn
      obtain ⟨fn, tmps, assign, body, hy, hR⟩ := unhide HY pre x wr hJ (by unfold nextB; omega)
      dsimp only [encB] at hy
      have HS := hide (And.intro hp (And.intro hs hm))
      have i0 : (0 : Int) ≤ (x : Int) := by omega
      have i1 : (x : Int) < (n : Int) := by omega
      have w1 : wrap64 ((x : Int) - 1) = (x : Int) - 1 := by unfold wrap64; omega
      have HX := hide hx
      clear hp hs hm hJ HI hx
      gi_wp2
      refine hR.mono ?_
      rintro e W3 ⟨hk, (⟨rfl, hJ3, _⟩ | ⟨rfl, hJx⟩)⟩
      · have R3 : Hid ((∃ pre : List Nat, pre.length = j + 1 ∧ J pre W3) ∧ Blk sb #[.slice (some ⟨b, o, none⟩) n cap] 31 W3 ∧ Mats W3 (some ⟨b, o, none⟩) n X) :=
          ⟨⟨_, by rw [List.length_append, (unhide HS).1]; rfl, hJ3⟩, hk.blk (unhide HS).2.1 dsb, (unhide HS).2.2.cells fun q o' v hq hv => hk.cell hv (unhide HD q hq (by omega))⟩
        clear hJ3 hk hR hy HS c0 c1 c2 d0
        gi_wp2
        go_roundw
        case rel => exact ⟨j + 1, by omega, by have := unhide HX; congr 1; omega, R3⟩
        case measure => simp [intOf]
      · have R3 : Hid (Jx (pre ++ [x]) W3) := hJx
        clear hJx hk hR hy HS c0 c1 c2 d0
        gi_wp2
        refine bodyPost_ret (results_none rfl _ _ _) rfl ?_
        exact ⟨⟨_, rfl⟩, .inr ⟨_, trivial, unhide R3⟩⟩
    · obtain rfl : j = n := by omega
      have HF : Hid (∃ xs : List Nat, xs.length = j ∧ J xs wr) := (unhide HI).1
      have en : (j : Int) - 1 - (j : Int) = -1 := by omega
      clear HI
      rw [en]
      gi_wp2
      go_end0
      exact ⟨⟨_, rfl⟩, .inl (unhide HF)⟩
end


end Go.Proofs.YtopaakjildmjcaaGreat

/- Package poly: At. -/
namespace Go.Proofs.YtopaakjildmjcaaGreat
open Go.RowKit Go.Shelf Go.Proofs.Wd
set_option linter.unusedVariables false
set_option linter.unusedSimpArgs false
set_option maxRecDepth 10000

theorem slice_toM (ao : Option Addr) (len cap n : Nat) (h : n ≤ cap) (w : World) : (Instr.sliceAt 31 (.slice ao len cap) none (some (.int .i64 n)) none).run Tryz.prog w = .ok (.slice ao n cap) w := by
  have e : Tryz.prog.underlying 31 = some (.slice (Tryz.prog.elem 31)) := by kernel_rfl
  have s1 : (sizeOf (Tryz.prog.elem 31)).run Tryz.prog w = .ok 3 w := by kernel_rfl
  rw [run_sliceAt_slice w 31 _ _ _ _ e, run_slice_h w 31 ao len cap e .i64 n (by omega) (by omega), s1]
  show Result.ok (sliced ao 0 (n : Int).toNat cap 3) w = _
  have a0 : ao.map (fun x => x.add (0 * 3)) = ao := by cases ao <;> simp [Addr.add]
  unfold sliced
  rw [a0]
  simp
/-- A matrix and an error that a call tells: new memory; its room may be more. -/
def ValP (r c : Int) (len : Nat) (Z : Nat → Int) (err : Int) (X : World → Prop) (w : World) (e : Ending) (w' : World) : Prop :=
  ∃ ao cap B, e = .returned (.tuple #[.agg #[.int .i64 r, .int .i64 c, .slice ao len cap], .int .i64 err]) ∧ len ≤ cap ∧ w.heap.size ≤ B ∧ (len = 0 ∨ (ao = some ⟨B, 0, none⟩ ∧ Own B len Z w')) ∧ X w'
theorem own_own2 {B len : Nat} {Z : Nat → Int} {W W' : World} {row : Option Nat} (h : Own B len Z W) (hg : W.grownBy W' row) (hr : ∀ r, row = some r → ∃ o : Obj, W.heap[r]? = some o ∧ o.isCells = false) : Own B len Z W' := let ⟨cur, h1, h2⟩ := h; ⟨cur, blk_own h1 hg hr, h2⟩

/-- A value under way: its box vb, the numbers' block B; the unit; the captured variables. -/
def AtV (w : World) (U r c nn vb : Nat) (t : Int) (c0 : Bool) (n0 : Int) (Z : Nat → Int) (G : Bool) (d : Int) (B cp : Nat) (W : World) : Prop :=
  Blk vb #[.int .i64 r, .int .i64 c, .slice (some ⟨B, 0, none⟩) nn cp] 24 W ∧ Own B nn Z W ∧ nn ≤ cp ∧ w.heap.size ≤ B ∧ UW U (c0 || G) n0 d W ∧ Blk w.heap.size #[.pointer (some ⟨U, 0, none⟩)] 25 W ∧ Blk (w.heap.size + 1) #[.int .i64 t] 3 W ∧ Blk (w.heap.size + 1 + 1) #[.int .i64 0, .int .i64 0, .slice none 0 0] 24 W ∧ Mk U w W ∧ w.heap.size + 3 ≤ vb
theorem AtV.own {w W W' : World} {U r c nn vb B cp b : Nat} {t n0 d : Int} {c0 G : Bool} {Z : Nat → Int} {row : Option Nat} (h : AtV w U r c nn vb t c0 n0 Z G d B cp W) (hB : w.heap.size ≤ b) (hg : W.grownBy W' row) (hr : ∀ r, row = some r → b ≤ r ∧ ∃ o : Obj, W.heap[r]? = some o ∧ o.isCells = false) : AtV w U r c nn vb t c0 n0 Z G d B cp W' := by
  have hr' : ∀ r, row = some r → ∃ o : Obj, W.heap[r]? = some o ∧ o.isCells = false := fun r e => (hr r e).2
  obtain ⟨h1, h2, h3, h4, ⟨q, q1, q2, q3⟩, h5, h6, h7, h8, h9⟩ := h
  exact ⟨blk_own h1 hg hr', own_own2 h2 hg hr', h3, h4, ⟨q, q1, q2, blk_own q3 hg hr'⟩, blk_own h5 hg hr', blk_own h6 hg hr', blk_own h7 hg hr', mk_own h8 hB hg hr, h9⟩
/-- An operation tells a new value, which is put into the box. -/
theorem AtV.put {w W W' : World} {U r c nn vb B cp B2 cp2 : Nat} {t n0 d d' q' : Int} {c0 G G' : Bool} {Z Y : Nat → Int} (h : AtV w U r c nn vb t c0 n0 Z G d B cp W) (lU : U < w.heap.size) (m : Mk U W W') (u : UC U (c0 || G') q' W') (hq : n0 ≤ q') (hq2 : q' ≤ n0 + d') (hb : Blk B2 (ints nn Y) 3 W') (hB2 : W.heap.size ≤ B2) (hc : nn ≤ cp2) :
    AtV w U r c nn vb t c0 n0 Y G' d' B2 cp2 (((W'.setCell ⟨vb, 0, none⟩ (.int .i64 r)).setCell ⟨vb, 1, none⟩ (.int .i64 c)).setCell ⟨vb, 2, none⟩ (.slice (some ⟨B2, 0, none⟩) nn cp2)) ∧
      KC (fun k => k = U ∨ k = vb) W (((W'.setCell ⟨vb, 0, none⟩ (.int .i64 r)).setCell ⟨vb, 1, none⟩ (.int .i64 c)).setCell ⟨vb, 2, none⟩ (.slice (some ⟨B2, 0, none⟩) nn cp2)) ∧
      KeepsOthers W (((W'.setCell ⟨vb, 0, none⟩ (.int .i64 r)).setCell ⟨vb, 1, none⟩ (.int .i64 c)).setCell ⟨vb, 2, none⟩ (.slice (some ⟨B2, 0, none⟩) nn cp2)) ∧
      Blk vb #[.int .i64 r, .int .i64 c, .slice (some ⟨B, 0, none⟩) nn cp] 24 W' ∧ Mk U w (((W'.setCell ⟨vb, 0, none⟩ (.int .i64 r)).setCell ⟨vb, 1, none⟩ (.int .i64 c)).setCell ⟨vb, 2, none⟩ (.slice (some ⟨B2, 0, none⟩) nn cp2)) := by
  obtain ⟨h1, h2, h3, h4, ⟨q0, q1, q2, q3⟩, h5, h6, h7, h8, h9⟩ := h
  have lv := Blk.lt h1
  have b1 := Blk.mk h1 m (by omega)
  have P := putM b1 (.int .i64 r) (.int .i64 c) (.slice (some ⟨B2, 0, none⟩) nn cp2)
  have hw := h8.2.2.2
  have K : Mk U w (((W'.setCell ⟨vb, 0, none⟩ (.int .i64 r)).setCell ⟨vb, 1, none⟩ (.int .i64 c)).setCell ⟨vb, 2, none⟩ (.slice (some ⟨B2, 0, none⟩) nn cp2)) := (h8.trans m).new P.2 (by omega)
  refine ⟨⟨P.1, Own.of (Blk.keep hb P.2 (by omega)), hc, by omega, ⟨q', hq, hq2, Blk.keep u P.2 (by omega)⟩, Blk.keep (Blk.mk h5 m (by omega)) P.2 (by omega), Blk.keep (Blk.mk h6 m (by omega)) P.2 (by omega), Blk.keep (Blk.mk h7 m (by omega)) P.2 (by omega), K, h9⟩, ?_, ?_, b1, K⟩
  · refine KC.of (fun i hi hD => ?_) (Nat.le_trans m.2.2.2 P.2.2.2.2.2)
    rw [P.2.2.2.1 i (by have := m.2.2.2; omega) (fun e => hD (Or.inr e))]
    exact m.2.2.1 i hi (fun e => hD (Or.inl e))
  · exact ((StT.mk (N := 0) m q3 (Nat.zero_le _)).1.trans (KeepsOthers.setCell _ _ _)).trans ((KeepsOthers.setCell _ _ _).trans (KeepsOthers.setCell _ _ _))
theorem AtV.kp {w W W' : World} {U r c nn vb B cp : Nat} {t n0 d : Int} {c0 G : Bool} {Z : Nat → Int} (h : AtV w U r c nn vb t c0 n0 Z G d B cp W) (k : Kp W W') : AtV w U r c nn vb t c0 n0 Z G d B cp W' := by
  obtain ⟨h1, h2, h3, h4, ⟨q, q1, q2, q3⟩, h5, h6, h7, h8, h9⟩ := h
  exact ⟨Blk.kp h1 k, h2.kp k, h3, h4, ⟨q, q1, q2, Blk.kp q3 k⟩, Blk.kp h5 k, Blk.kp h6 k, Blk.kp h7 k, h8.trans (Mk.kp k), h9⟩

section
attribute [local go_sem] Oper.semAt_some

set_option maxRecDepth 100000 in
set_option maxHeartbeats 16000000 in
theorem polyAt_ok (U r c nn n cap : Nat) (ao : Option Addr) (c0 : Bool) (n0 t : Int) (hn0 : 0 ≤ n0 ∧ n0 < 1000000000000000000) (ht : I64 t) (hr : 1 ≤ r ∧ r ≤ 12) (hc : 1 ≤ c ∧ c ≤ 12) (hnn : r * c = nn) (hn : n ≤ 24) (hcap : n + 1 ≤ cap) (X : Nat → MV) (hX : ∀ i, i ≤ n → (X i).R = r ∧ (X i).C = c ∧ (X i).len = nn) (hI : ∀ i, i ≤ n → ∀ j, j < nn → I64 ((X i).Z j)) (w : World) (h : UC U c0 n0 w) (hm : Mats w ao (n + 1) X) (hrow : ∀ i, i ≤ n → Row w (X i).ao nn (X i).Z) (ho : ∀ i, i ≤ n → Off U nn (X i).ao) (hoM : Off U (n + 1) ao) :
    Calls Tryz.prog 20 #[.pointer (some ⟨U, 0, none⟩), .slice ao (n + 1) cap, .int .i64 t] w fun e w' => ValP r c nn (horZ (fun i => (X i).Z) n t n) 0 (fun w' => UW U (c0 || horC (fun i => (X i).Z) n t nn n) n0 100000 w' ∧ Mk U w w') w e w' := by
  have k2 := mul12n r c hr hc
  rw [hnn] at k2
  have okA : okP (n + 1) X := ⟨⟨by omega, by omega⟩, fun i hi => by
    obtain ⟨e1, e2, e3⟩ := hX i (by omega)
    obtain ⟨f1, f2, f3⟩ := hX 0 (by omega)
    rw [e1, e2, e3, f1, f2]
    exact ⟨⟨by omega, by omega, by rw [← hnn, Int.natCast_mul]⟩, rfl, rfl⟩⟩
  have lU := Blk.lt h
  obtain ⟨b, o, rfl, hcell⟩ := hm.resolve_left (by omega)
  have bU : b ≠ U := hoM (by omega) _ rfl
  obtain ⟨lb, lo, hlo, hlc⟩ := (hrow n (Nat.le_refl _)).some k2.1
  have lU2 : lb ≠ U := ho n (Nat.le_refl _) (by omega) _ hlo
  have PL : Hid (∀ wx, Mk U w wx → Calls Tryz.prog 34 #[.slice (some ⟨b, o, none⟩) (n + 1) cap] wx fun e w' => e = .returned (.bool true) ∧ Grown wx w') := fun wx m => by
    have := polyPolynomial (some ⟨b, o, none⟩) (n + 1) cap X (by omega) wx (Or.inr ⟨b, o, rfl, fun i hi j hj => by
      have e := hcell i hi j hj
      have hs : ∃ v, (X i).cells[j]? = some v := ⟨_, Array.getElem?_eq_getElem (by show j < 3; exact hj)⟩
      obtain ⟨v, hv⟩ := hs
      rw [hv] at e ⊢
      exact m.cell e bU⟩)
    rwa [okPB_yes okA] at this
  have HC : Hid (∀ i, i ≤ n → ∀ wx, Mk U w wx → wx.cell? ⟨b, o + i * 3, none⟩ = some (.int .i64 r) ∧ wx.cell? ⟨b, o + i * 3 + 1, none⟩ = some (.int .i64 c) ∧ wx.cell? ⟨b, o + i * 3 + 2, none⟩ = some (.slice (X i).ao nn (X i).cap)) := fun i hi wx m => by
    obtain ⟨e1, e2, e3⟩ := hX i hi
    have q0 := hcell i (by omega) 0 (by omega)
    have q1 := hcell i (by omega) 1 (by omega)
    have q2 := hcell i (by omega) 2 (by omega)
    rw [show (X i).cells[0]? = some (.int .i64 (X i).R) from rfl, e1] at q0
    rw [show (X i).cells[1]? = some (.int .i64 (X i).C) from rfl, e2] at q1
    rw [show (X i).cells[2]? = some (.slice (X i).ao (X i).len (X i).cap) from rfl, e3] at q2
    exact ⟨m.cell q0 bU, m.cell q1 bU, m.cell q2 bU⟩
  have HM : Hid (∀ wx, Mk U w wx → Mats wx (some ⟨b, o, none⟩) n X) := fun wx m => Or.inr ⟨b, o, rfl, fun i hi j hj => by
    have e := hcell i (by omega) j hj
    have hs : ∃ v, (X i).cells[j]? = some v := ⟨_, Array.getElem?_eq_getElem (by show j < 3; exact hj)⟩
    obtain ⟨v, hv⟩ := hs
    rw [hv] at e ⊢
    exact m.cell e bU⟩
  have HR : Hid (∀ i, i ≤ n → ∀ wx, Mk U w wx → Row wx (X i).ao nn (X i).Z ∧ Off U nn (X i).ao) := fun i hi wx m => ⟨(hrow i hi).mk m (ho i hi), ho i hi⟩
  have CL : Hid (∀ wx, Mk U w wx → Calls Tryz.prog 35 #[.slice (some ⟨lb, lo, none⟩) nn (X n).cap] wx fun e w' => ∃ B cap', e = .returned (.slice (some ⟨B, 0, none⟩) nn cap') ∧ nn ≤ cap' ∧ wx.heap.size ≤ B ∧ Own B nn (X n).Z w' ∧ Kp wx w') := fun wx m => by
    have := (hrow n (Nat.le_refl _)).mk m (ho n (Nat.le_refl _))
    rw [hlo] at this
    exact clonePoly lb lo nn (X n).cap (X n).Z k2.1 (by omega) wx this
  have SC : Hid (∀ Z B cp wx (k : Bool) (q : Int), 0 ≤ q ∧ q < 1152921504606846976 → (∀ j, j < nn → I64 (Z j)) → UC U k q wx → Row wx (some ⟨B, 0, none⟩) nn Z → B ≠ U → Calls Tryz.prog 37 #[.pointer (some ⟨U, 0, none⟩), .agg #[.int .i64 r, .int .i64 c, .slice (some ⟨B, 0, none⟩) nn cp], .int .i64 t] wx fun e w' => MatP r c nn (fun p => m2N (Z p) t) 0 (fun w' => UC U (k || orC (fun p => m2C (Z p) t) nn) (q + 2 * (nn : Int)) w' ∧ Mk U wx w') wx e w') := by
    intro Z B cp wx k q hq hZ hu hr' hB
    have := scaleR U t ht r c hr hc (some ⟨B, 0, none⟩) cp Z (by rw [hnn]; exact hZ) wx (by rw [hnn]; exact ⟨hr', off_blk hB⟩) k q hq hu
    rw [hnn] at this
    exact this
  have SU : Hid (∀ i, i ≤ n → ∀ Z B cp wx (k : Bool) (q : Int), 0 ≤ q ∧ q < 1152921504606846976 → (∀ j, j < nn → I64 (Z j)) → UC U k q wx → Row wx (some ⟨B, 0, none⟩) nn Z → B ≠ U → Mk U w wx → Calls Tryz.prog 38 #[.pointer (some ⟨U, 0, none⟩), .agg #[.int .i64 r, .int .i64 c, .slice (some ⟨B, 0, none⟩) nn cp], .agg #[.int .i64 r, .int .i64 c, .slice (X i).ao nn (X i).cap]] wx fun e w' => MatP r c nn (fun p => s2N (Z p) ((X i).Z p)) 0 (fun w' => UC U (k || orC (fun p => s2C (Z p) ((X i).Z p)) nn) (q + 2 * (nn : Int)) w' ∧ Mk U wx w') wx e w') := by
    intro i hi Z B cp wx k q hq hZ hu hr' hB m
    have := sumR U r c hr hc (some ⟨B, 0, none⟩) (X i).ao cp (X i).cap Z (X i).Z (by rw [hnn]; exact hZ) (by rw [hnn]; exact hI i hi) wx (by rw [hnn]; exact ⟨hr', off_blk hB⟩) (by rw [hnn]; exact ⟨(hrow i hi).mk m (ho i hi), ho i hi⟩) k q hq hu
    rw [hnn] at this
    exact this
  have HH := hide (And.intro h (And.intro lU (And.intro bU (And.intro k2 (And.intro hn0 (And.intro hI hX))))))
  have G : Grown w (((w.alloc (.cells #[.pointer (some ⟨U, 0, none⟩)] 25)).alloc (.cells #[.int .i64 t] 3)).alloc (.cells #[.int .i64 0, .int .i64 0, .slice none 0 0] 24)) := (((Grown.refl _).alloc _ _).alloc _ _).alloc _ _
  have B1 : Hid (Blk w.heap.size #[.pointer (some ⟨U, 0, none⟩)] 25 (((w.alloc (.cells #[.pointer (some ⟨U, 0, none⟩)] 25)).alloc (.cells #[.int .i64 t] 3)).alloc (.cells #[.int .i64 0, .int .i64 0, .slice none 0 0] 24)) ∧ Blk (w.heap.size + 1) #[.int .i64 t] 3 (((w.alloc (.cells #[.pointer (some ⟨U, 0, none⟩)] 25)).alloc (.cells #[.int .i64 t] 3)).alloc (.cells #[.int .i64 0, .int .i64 0, .slice none 0 0] 24)) ∧ Blk (w.heap.size + 1 + 1) #[.int .i64 0, .int .i64 0, .slice none 0 0] 24 (((w.alloc (.cells #[.pointer (some ⟨U, 0, none⟩)] 25)).alloc (.cells #[.int .i64 t] 3)).alloc (.cells #[.int .i64 0, .int .i64 0, .slice none 0 0] 24)) ∧ (((w.alloc (.cells #[.pointer (some ⟨U, 0, none⟩)] 25)).alloc (.cells #[.int .i64 t] 3)).alloc (.cells #[.int .i64 0, .int .i64 0, .slice none 0 0] 24)).heap.size = w.heap.size + 3) := by
    refine ⟨Blk.grown (Blk.grown (Blk.new w _ _) ((Grown.refl _).alloc _ _)) ((Grown.refl _).alloc _ _), Blk.grown (blk_new2 w _ _ _) ((Grown.refl _).alloc _ _), ?_, by simp⟩
    have := Blk.new ((w.alloc (.cells #[.pointer (some ⟨U, 0, none⟩)] 25)).alloc (.cells #[.int .i64 t] 3)) #[.int .i64 0, .int .i64 0, .slice none 0 0] 24
    simp only [World.size_alloc] at this
    exact this
  have HG := hide G
  have i1 : (n : Int) < (n : Int) + 1 := by omega
  have i0 : (0 : Int) ≤ (n : Int) := by omega
  have wn : wrap64 (n : Int) = (n : Int) := by unfold wrap64; omega
  have wn1 : wrap64 ((n : Int) + 1 - 1) = (n : Int) := by unfold wrap64; omega
  have SL := fun w => slice_toM (some ⟨b, o, none⟩) (n + 1) cap n (by omega) w
  have HL := hide (And.intro hlo (And.intro hn hcap))
  clear hm hcell okA hrow ho hoM hlc hlo lU2 G h lU bU k2 hn0 hI hX hr hc hnn ht hn hcap
  refine (callsIn_wide (n := 6)).1 ?_
  refine callsIn_of_wp_marks Tryz.func20 rfl trivial ?_ rfl
  simp only [Tryz.ntmps20, List.size_toArray, List.length_cons, List.length_nil, Nat.reduceAdd, Nat.reduceSub, Array.replicate_succ, Array.replicate_zero, List.push_toArray, List.append_toArray, List.nil_append, List.cons_append]
  gi_wp2_with fail
  generalize (((w.alloc (.cells #[.pointer (some ⟨U, 0, none⟩)] 25)).alloc (.cells #[.int .i64 t] 3)).alloc (.cells #[.int .i64 0, .int .i64 0, .slice none 0 0] 24)) = w1 at *
  refine wpIn_wide.2 ?_
  have y0 : w1.drew.cell? ⟨w.heap.size, 0, none⟩ = some (.pointer (some ⟨U, 0, none⟩)) := Blk.cell (w := w1) (unhide B1).1 0
  refine region_G (fun w' => w'.cell? ⟨w.heap.size, 0, none⟩ = some (.pointer (some ⟨U, 0, none⟩))) 4 (by kernel_rfl) y0 (fun hHeld => ?_)
  refine take_G (i := 0) (d := 13) (v := .pointer (some ⟨U, 0, none⟩)) rfl rfl (by kernel_rfl) (by kernel_rfl) (by kernel_rfl) (by kernel_rfl) (by kernel_rfl) (Or.inl ⟨by rfl, ?_⟩) hHeld ?_
  · intro wS hSw
    clear hHeld
    go_simp
  (try simp only [Act.put, List.setIfInBounds_toArray, List.set_cons_zero, List.set_cons_succ])
  refine take_G (i := 1) (d := 14) (v := .slice (some ⟨b, o, none⟩) (n + 1) cap) rfl rfl (by kernel_rfl) (by kernel_rfl) (by kernel_rfl) (by kernel_rfl) (by kernel_rfl) (Or.inl ⟨by rfl, ?_⟩) hHeld ?_
  · intro wS hSw
    clear hHeld
    go_simp
  (try simp only [Act.put, List.setIfInBounds_toArray, List.set_cons_zero, List.set_cons_succ])
  refine step_G (i := 2) (by kernel_rfl) (fun K hK => ?_)
  refine wpOp_of rfl rfl ?_
  unfold Oper.wp
  go_simp
  refine (unhide PL w1.drew (Mk.kp (show Kp w w1 from Kp.of (unhide HG)))).mono ?_
  rintro e w2 ⟨rfl, g2⟩
  have y1 := gat g2 y0
  have GG : Hid (Grown w1 w2) := gtrans ((Grown.refl w1).drew) g2
  refine hK _ _ (fun _ => y1) ?_
  clear hK K g2 y0 hHeld
  have hHeld := y1
  (try simp only [Act.put, List.setIfInBounds_toArray, List.set_cons_zero, List.set_cons_succ])
  have RF := hide (polyRefuse U c0 n0 ⟨(unhide HH).2.2.2.2.1.1, by have := (unhide HH).2.2.2.2.1.2; omega⟩ true w2 (Blk.grown (Blk.grown (unhide HH).1 (unhide HG)) (unhide GG)))
  refine step_G (i := 3) (by kernel_rfl) (fun K hK => ?_)
  refine wpOp_of rfl rfl ?_
  unfold Oper.wp
  go_simp
  refine (unhide RF).mono ?_
  rintro e w3 ⟨rfl, u3, m3⟩
  have hU := (unhide HH).2.1
  have M3 : Mk U w w3 := (Mk.kp (Kp.of (gtrans (unhide HG) (unhide GG)))).trans (Mk.of m3)
  have B3 : Hid (Blk w.heap.size #[.pointer (some ⟨U, 0, none⟩)] 25 w3 ∧ Blk (w.heap.size + 1) #[.int .i64 t] 3 w3 ∧ Blk (w.heap.size + 1 + 1) #[.int .i64 0, .int .i64 0, .slice none 0 0] 24 w3 ∧ UC U c0 n0 w3 ∧ Mk U w w3) := ⟨Blk.keep (Blk.grown (unhide B1).1 (unhide GG)) m3 (by omega), Blk.keep (Blk.grown (unhide B1).2.1 (unhide GG)) m3 (by omega), Blk.keep (Blk.grown (unhide B1).2.2.1 (unhide GG)) m3 (by omega), u3, M3⟩
  refine hK _ _ (fun _ => Blk.cell (unhide B3).1 0) ?_
  clear hK K u3 m3 M3 hU hHeld y1 RF
  simp only [errB, if_true]
  (try simp only [Act.put, List.setIfInBounds_toArray, List.set_cons_zero, List.set_cons_succ])
  refine step_G (i := 4) (by kernel_rfl) (fun K hK => ?_)
  refine wpOp_of rfl rfl ?_
  unfold Oper.wp
  go_simp
  refine hK _ _ (fun h => absurd rfl h) ?_
  clear hK K
  (try simp only [Act.put, List.setIfInBounds_toArray, List.set_cons_zero, List.set_cons_succ])
  refine done_G (by kernel_rfl) ?_
  refine noPanic_normalE ?_
  clear GG B1 PL HG
  obtain ⟨x0, x1, x2⟩ := unhide HC n (Nat.le_refl _) w3 (unhide B3).2.2.2.2

  gi_wp2
  rw [(unhide HL).1]
  have B4 : Hid (Blk w.heap.size #[.pointer (some ⟨U, 0, none⟩)] 25 (w3.alloc (.cells #[.int .i64 r, .int .i64 c, .slice (some ⟨lb, lo, none⟩) nn (X n).cap] 24)) ∧ Blk (w.heap.size + 1) #[.int .i64 t] 3 (w3.alloc (.cells #[.int .i64 r, .int .i64 c, .slice (some ⟨lb, lo, none⟩) nn (X n).cap] 24)) ∧ Blk (w.heap.size + 1 + 1) #[.int .i64 0, .int .i64 0, .slice none 0 0] 24 (w3.alloc (.cells #[.int .i64 r, .int .i64 c, .slice (some ⟨lb, lo, none⟩) nn (X n).cap] 24)) ∧ UC U c0 n0 (w3.alloc (.cells #[.int .i64 r, .int .i64 c, .slice (some ⟨lb, lo, none⟩) nn (X n).cap] 24)) ∧ Mk U w (w3.alloc (.cells #[.int .i64 r, .int .i64 c, .slice (some ⟨lb, lo, none⟩) nn (X n).cap] 24)) ∧ Blk w3.heap.size #[.int .i64 r, .int .i64 c, .slice (some ⟨lb, lo, none⟩) nn (X n).cap] 24 (w3.alloc (.cells #[.int .i64 r, .int .i64 c, .slice (some ⟨lb, lo, none⟩) nn (X n).cap] 24)) ∧ w.heap.size + 3 ≤ w3.heap.size) := by
    have g : Grown w3 (w3.alloc (.cells #[.int .i64 r, .int .i64 c, .slice (some ⟨lb, lo, none⟩) nn (X n).cap] 24)) := (Grown.refl _).alloc _ _
    obtain ⟨b1, b2, b3, b4, b5⟩ := unhide B3
    have := Blk.lt b3
    exact ⟨Blk.grown b1 g, Blk.grown b2 g, Blk.grown b3 g, Blk.grown b4 g, b5.grown g, Blk.new _ _ _, by omega⟩
  clear B3 x0 x1 x2
  generalize w3.alloc (.cells #[.int .i64 r, .int .i64 c, .slice (some ⟨lb, lo, none⟩) nn (X n).cap] 24) = w4 at *
  generalize w3.heap.size = Lx at *
  obtain ⟨q0, hq0⟩ : ∃ q0, q0 = (X n).cap := ⟨_, rfl⟩
  rw [← hq0]
  rw [← hq0] at B4
  have y0 : w4.cell? ⟨Lx, 0, none⟩ = some (.int .i64 r) := Blk.cell (unhide B4).2.2.2.2.2.1 0
  have y1 : w4.cell? ⟨Lx, 1, none⟩ = some (.int .i64 c) := Blk.cell (unhide B4).2.2.2.2.2.1 1
  have y2 : w4.cell? ⟨Lx, 2, none⟩ = some (.slice (some ⟨lb, lo, none⟩) nn q0) := Blk.cell (unhide B4).2.2.2.2.2.1 2
  rw [← hq0] at CL
  clear hq0
  refine wpIn_wide.2 ?_
  refine region_cutP (T := Nat × Nat × Nat) (fun _ u => { tmps := #[.pointer (some ⟨U, 0, none⟩), .slice (some ⟨b, o, none⟩) (n + 1) cap, .int .i64 t, .pointer (some ⟨w.heap.size, 0, none⟩), undef, .pointer (some ⟨w.heap.size + 1, 0, none⟩), .pointer (some ⟨w.heap.size + 1 + 1, 0, none⟩), .int .i64 0, .int .i64 0, .pointer (some ⟨Lx, 0, none⟩), .pointer (some ⟨u.2.2, 0, none⟩), undef, undef, .pointer (some ⟨U, 0, none⟩), .slice (some ⟨b, o, none⟩) (n + 1) cap, .bool true, .int .i64 0, .int .i64 0, .bool false, undef, undef, .slice (some ⟨b, o, none⟩) (n + 1) cap, .slice (some ⟨b, o, none⟩) (n + 1) cap, .int .i64 ((n : Int) + 1), .int .i64 (n : Int), .pointer (some ⟨b, o + n * 3, none⟩), .agg #[.int .i64 r, .int .i64 c, .slice (some ⟨lb, lo, none⟩) nn q0], .pointer (some ⟨Lx, 0, none⟩), .int .i64 r, .pointer (some ⟨Lx, 1, none⟩), .int .i64 c, .pointer (some ⟨Lx, 2, none⟩), .slice (some ⟨lb, lo, none⟩) nn q0, .slice (some ⟨u.1, 0, none⟩) nn u.2.1, .agg #[.int .i64 r, .int .i64 c, .slice (some ⟨u.1, 0, none⟩) nn u.2.1], undef, undef, undef, undef, undef, undef, undef, undef, undef, undef, undef, undef, undef, undef, undef, undef, undef, undef, undef, undef, undef, undef, undef], defers := [] }) (fun u w5 => AtV w U r c nn u.2.2 t c0 n0 (X n).Z false 0 u.1 u.2.1 w5) ?_ ?_
  · refine region_G (fun w' => w'.cell? ⟨Lx, 0, none⟩ = some (.int .i64 r) ∧ w'.cell? ⟨Lx, 1, none⟩ = some (.int .i64 c) ∧ w'.cell? ⟨Lx, 2, none⟩ = some (.slice (some ⟨lb, lo, none⟩) nn q0)) 9 (by kernel_rfl) ⟨y0, y1, y2⟩ (fun hHeld => ?_)
    refine take_G (i := 0) (d := 27) (v := .pointer (some ⟨Lx, 0, none⟩)) rfl rfl (by kernel_rfl) (by kernel_rfl) (by kernel_rfl) (by kernel_rfl) (by kernel_rfl) (Or.inl ⟨by rfl, ?_⟩) hHeld ?_
    · intro wS hSw
      obtain ⟨z0, z1, z2⟩ := hSw
      clear hHeld
      go_simp
    (try simp only [Act.put, List.setIfInBounds_toArray, List.set_cons_zero, List.set_cons_succ])
    refine take_G (i := 1) (d := 28) (v := .int .i64 r) rfl rfl (by kernel_rfl) (by kernel_rfl) (by kernel_rfl) (by kernel_rfl) (by kernel_rfl) (Or.inl ⟨by rfl, ?_⟩) hHeld ?_
    · intro wS hSw
      obtain ⟨z0, z1, z2⟩ := hSw
      clear hHeld
      go_simp
    (try simp only [Act.put, List.setIfInBounds_toArray, List.set_cons_zero, List.set_cons_succ])
    refine take_G (i := 2) (d := 29) (v := .pointer (some ⟨Lx, 1, none⟩)) rfl rfl (by kernel_rfl) (by kernel_rfl) (by kernel_rfl) (by kernel_rfl) (by kernel_rfl) (Or.inl ⟨by rfl, ?_⟩) hHeld ?_
    · intro wS hSw
      obtain ⟨z0, z1, z2⟩ := hSw
      clear hHeld
      go_simp
    (try simp only [Act.put, List.setIfInBounds_toArray, List.set_cons_zero, List.set_cons_succ])
    refine take_G (i := 3) (d := 30) (v := .int .i64 c) rfl rfl (by kernel_rfl) (by kernel_rfl) (by kernel_rfl) (by kernel_rfl) (by kernel_rfl) (Or.inl ⟨by rfl, ?_⟩) hHeld ?_
    · intro wS hSw
      obtain ⟨z0, z1, z2⟩ := hSw
      clear hHeld
      go_simp
    (try simp only [Act.put, List.setIfInBounds_toArray, List.set_cons_zero, List.set_cons_succ])
    refine take_G (i := 4) (d := 31) (v := .pointer (some ⟨Lx, 2, none⟩)) rfl rfl (by kernel_rfl) (by kernel_rfl) (by kernel_rfl) (by kernel_rfl) (by kernel_rfl) (Or.inl ⟨by rfl, ?_⟩) hHeld ?_
    · intro wS hSw
      obtain ⟨z0, z1, z2⟩ := hSw
      clear hHeld
      go_simp
    (try simp only [Act.put, List.setIfInBounds_toArray, List.set_cons_zero, List.set_cons_succ])
    refine take_G (i := 5) (d := 32) (v := .slice (some ⟨lb, lo, none⟩) nn q0) rfl rfl (by kernel_rfl) (by kernel_rfl) (by kernel_rfl) (by kernel_rfl) (by kernel_rfl) (Or.inl ⟨by rfl, ?_⟩) hHeld ?_
    · intro wS hSw
      obtain ⟨z0, z1, z2⟩ := hSw
      clear hHeld
      go_simp
    (try simp only [Act.put, List.setIfInBounds_toArray, List.set_cons_zero, List.set_cons_succ])
    refine pick2_GP (i := 6) (j := 8) (by kernel_rfl) (fun K hK => ?_) (fun K hK => ?_)
    · refine wpOp_of rfl rfl ?_
      unfold Oper.wp
      go_simp
      refine (unhide CL w4.drew (unhide B4).2.2.2.2.1).mono ?_
      rintro e w5 ⟨Bl, cap2, rfl, hc, hB, own, k3⟩
      have k45 : Kp w4 w5 := k3
      have hb0 := Blk.kp (unhide B4).2.2.2.2.2.1 k45
      have d0 : w5.cell? ⟨Lx, 0, none⟩ = some (.int .i64 r) := Blk.cell hb0 0
      have d1 : w5.cell? ⟨Lx, 1, none⟩ = some (.int .i64 c) := Blk.cell hb0 1
      have d2 : w5.cell? ⟨Lx, 2, none⟩ = some (.slice (some ⟨lb, lo, none⟩) nn q0) := Blk.cell hb0 2
      have R3 : Hid (nn ≤ cap2 ∧ w4.heap.size ≤ Bl ∧ Own Bl nn (X n).Z w5 ∧ Kp w4 w5) := ⟨hc, hB, own, k45⟩
      clear hc hB own k3 hb0 k45 hHeld y0 y1 y2
      refine hK _ _ (fun _ => ⟨d0, d1, d2⟩) ?_
      clear hK K
      have hHeld := And.intro d0 (And.intro d1 d2)
      (try simp only [Act.put, List.setIfInBounds_toArray, List.set_cons_zero, List.set_cons_succ])
      refine take_G (i := 7) (d := 34) (v := .agg #[.int .i64 r, .int .i64 c, .slice (some ⟨Bl, 0, none⟩) nn cap2]) rfl rfl (by kernel_rfl) (by kernel_rfl) (by kernel_rfl) (by kernel_rfl) (by kernel_rfl) (Or.inl ⟨by rfl, ?_⟩) hHeld ?_
      · intro wS hSw
        obtain ⟨z0, z1, z2⟩ := hSw
        clear hHeld
        go_simp
      (try simp only [Act.put, List.setIfInBounds_toArray, List.set_cons_zero, List.set_cons_succ])
      refine step_G (i := 8) (by kernel_rfl) (fun K hK => ?_)
      refine wpOp_of rfl rfl ?_
      unfold Oper.wp
      go_simp
      have gz : Grown w5 (w5.alloc (.cells #[.int .i64 0, .int .i64 0, .slice none 0 0] 24)) := (Grown.refl _).alloc _ _
      refine hK _ _ (fun _ => ⟨gat gz d0, gat gz d1, gat gz d2⟩) ?_
      clear hK K
      (try simp only [Act.put, List.setIfInBounds_toArray, List.set_cons_zero, List.set_cons_succ])
      refine step_G (i := 9) (by kernel_rfl) (fun K hK => ?_)
      refine wpOp_of rfl rfl ?_
      unfold Oper.wp
      go_simp
      refine hK _ _ (fun h => absurd rfl h) ?_
      clear hK K
      (try simp only [Act.put, List.setIfInBounds_toArray, List.set_cons_zero, List.set_cons_succ])
      refine done_G (by kernel_rfl) ?_
      refine noPanic_normalE ?_
      obtain ⟨hc, hB, own, k45⟩ := unhide R3
      obtain ⟨b1, b2, b3, b4, b5, b6, b7⟩ := unhide B4
      have lb6 := Blk.lt b6
      have s3 := k45.2.2.2
      have hw := b5.2.2.2
      have g5 : Kp w4 (w5.alloc (.cells #[.int .i64 r, .int .i64 c, .slice (some ⟨Bl, 0, none⟩) nn cap2] 24)) := k45.alloc _ _
      exact ⟨rfl, (Bl, cap2, w5.heap.size), ⟨Blk.new w5 _ _, own.kp ((Kp.refl w5).alloc _ _), hc, by show w.heap.size ≤ Bl; omega, ⟨n0, by omega, by omega, by rw [Bool.or_false]; exact Blk.kp b4 g5⟩, Blk.kp b1 g5, Blk.kp b2 g5, Blk.kp b3 g5, b5.trans (Mk.kp g5), by show w.heap.size + 3 ≤ w5.heap.size; omega⟩, rfl⟩
    · refine wpOp_of rfl rfl ?_
      unfold Oper.wp
      go_simp
      have gz : Grown w4 (w4.alloc (.cells #[.int .i64 0, .int .i64 0, .slice none 0 0] 24)).drew := (show Grown w4 (w4.drew.alloc (.cells #[.int .i64 0, .int .i64 0, .slice none 0 0] 24)) from ((Grown.refl w4).drew).alloc _ _)
      have bz : Blk w4.heap.size #[.int .i64 0, .int .i64 0, .slice none 0 0] 24 (w4.alloc (.cells #[.int .i64 0, .int .i64 0, .slice none 0 0] 24)).drew := (show Blk w4.heap.size #[.int .i64 0, .int .i64 0, .slice none 0 0] 24 (w4.alloc (.cells #[.int .i64 0, .int .i64 0, .slice none 0 0] 24)) from Blk.new w4 _ _)
      generalize (w4.alloc (.cells #[.int .i64 0, .int .i64 0, .slice none 0 0] 24)).drew = wz at *
      have d0 := gat gz y0
      have d1 := gat gz y1
      have d2 := gat gz y2
      have K2 : Hid (Mk U w wz ∧ Kp w4 wz ∧ Blk w4.heap.size #[.int .i64 0, .int .i64 0, .slice none 0 0] 24 wz) := ⟨(unhide B4).2.2.2.2.1.grown gz, Kp.of gz, bz⟩
      refine hK _ _ (fun _ => ⟨d0, d1, d2⟩) ?_
      clear hK K gz bz hHeld y0 y1 y2
      (try simp only [Act.put, List.setIfInBounds_toArray, List.set_cons_zero, List.set_cons_succ])
      refine step_G (i := 6) (by kernel_rfl) (fun K hK => ?_)
      refine wpOp_of rfl rfl ?_
      unfold Oper.wp
      go_simp
      refine (unhide CL _ (unhide K2).1).mono ?_
      rintro e w5 ⟨Bl, cap2, rfl, hc, hB, own, k3⟩
      have k45 : Kp w4 w5 := (unhide K2).2.1.trans k3
      have bz := Blk.kp (unhide K2).2.2 k3
      have hb0 := Blk.kp (unhide B4).2.2.2.2.2.1 k45
      have d0 : w5.cell? ⟨Lx, 0, none⟩ = some (.int .i64 r) := Blk.cell hb0 0
      have d1 : w5.cell? ⟨Lx, 1, none⟩ = some (.int .i64 c) := Blk.cell hb0 1
      have d2 : w5.cell? ⟨Lx, 2, none⟩ = some (.slice (some ⟨lb, lo, none⟩) nn q0) := Blk.cell hb0 2
      have l2 : w4.heap.size < wz.heap.size := Blk.lt (unhide K2).2.2
      have e0 : w5.cell? ⟨w4.heap.size, 0, none⟩ = some (.int .i64 0) := Blk.cell bz 0
      have e1 : w5.cell? ⟨w4.heap.size, 1, none⟩ = some (.int .i64 0) := Blk.cell bz 1
      have e2 : w5.cell? ⟨w4.heap.size, 2, none⟩ = some (.slice none 0 0) := Blk.cell bz 2
      have ff := Blk.free bz
      have R3 : Hid (nn ≤ cap2 ∧ wz.heap.size ≤ Bl ∧ Own Bl nn (X n).Z w5 ∧ Kp w4 w5 ∧ Blk w4.heap.size #[.int .i64 0, .int .i64 0, .slice none 0 0] 24 w5 ∧ w4.heap.size < wz.heap.size) := ⟨hc, hB, own, k45, bz, l2⟩
      clear hc hB own k3 hb0 k45 bz l2
      refine hK _ _ (fun _ => ⟨d0, d1, d2⟩) ?_
      clear hK K
      (try simp only [Act.put, List.setIfInBounds_toArray, List.set_cons_zero, List.set_cons_succ])
      have hHeld := And.intro d0 (And.intro d1 d2)
      refine take_G (i := 7) (d := 34) (v := .agg #[.int .i64 r, .int .i64 c, .slice (some ⟨Bl, 0, none⟩) nn cap2]) rfl rfl (by kernel_rfl) (by kernel_rfl) (by kernel_rfl) (by kernel_rfl) (by kernel_rfl) (Or.inl ⟨by rfl, ?_⟩) hHeld ?_
      · intro wS hSw
        obtain ⟨z0, z1, z2⟩ := hSw
        clear hHeld
        go_simp
      (try simp only [Act.put, List.setIfInBounds_toArray, List.set_cons_zero, List.set_cons_succ])
      refine step_G (i := 9) (by kernel_rfl) (fun K hK => ?_)
      refine wpOp_of rfl rfl ?_
      unfold Oper.wp
      go_simp
      refine hK _ _ (fun h => absurd rfl h) ?_
      clear hK K
      (try simp only [Act.put, List.setIfInBounds_toArray, List.set_cons_zero, List.set_cons_succ])
      refine done_G (by kernel_rfl) ?_
      refine noPanic_normalE ?_
      obtain ⟨hc, hB, own, k45, bz, l2⟩ := unhide R3
      obtain ⟨b1, b2, b3, b4, b5, b6, b7⟩ := unhide B4
      have lb6 := Blk.lt b6
      have s3 := k45.2.2.2
      have hw := b5.2.2.2
      have hU := (unhide HH).2.1
      have P := putM bz (.int .i64 r) (.int .i64 c) (.slice (some ⟨Bl, 0, none⟩) nn cap2)
      have g5 : Kp w4 (((w5.setCell ⟨w4.heap.size, 0, none⟩ (.int .i64 r)).setCell ⟨w4.heap.size, 1, none⟩ (.int .i64 c)).setCell ⟨w4.heap.size, 2, none⟩ (.slice (some ⟨Bl, 0, none⟩) nn cap2)) := k45.mod P.2 (Nat.le_refl _)
      exact ⟨rfl, (Bl, cap2, w4.heap.size), ⟨P.1, own.mk (Mk.of P.2) (by show Bl ≠ w4.heap.size; omega), hc, by show w.heap.size ≤ Bl; omega, ⟨n0, by omega, by omega, by rw [Bool.or_false]; exact Blk.kp b4 g5⟩, Blk.kp b1 g5, Blk.kp b2 g5, Blk.kp b3 g5, b5.trans (Mk.kp g5), by show w.heap.size + 3 ≤ w4.heap.size; omega⟩, rfl⟩

  · rintro ⟨Bl, cap2, vb⟩ w5 hV
    dsimp only at hV ⊢
    have V5 := hide hV
    clear hV y0 y1 y2 CL B4
    have SL2 := fun w => (by rw [wn]; exact SL w : (Instr.sliceAt 31 (.slice (some ⟨b, o, none⟩) (n + 1) cap) none (some (.int .i64 (wrap64 (n : Int)))) none).run Tryz.prog w = .ok (.slice (some ⟨b, o, none⟩) n cap) w)
    clear wn wn1
    gi_wp2_with fail
    refine ⟨trivial, ?_⟩
    refine (callsIn_wide.2 (backMk _ _ _ _)).mono ?_
    rintro e w6 ⟨rfl, rfl⟩
    gi_wp2_with fail
    obtain ⟨W0, hW0⟩ : ∃ W0, w5.alloc (.cells #[.slice (some ⟨b, o, none⟩) n cap] 31) = W0 := ⟨_, rfl⟩
    rw [hW0]
    have ST : Hid (AtV w U r c nn vb t c0 n0 (X n).Z false 0 Bl cap2 W0 ∧ Blk w5.heap.size #[.slice (some ⟨b, o, none⟩) n cap] 31 W0 ∧ W0.heap.size = w5.heap.size + 1 ∧ vb < w5.heap.size) := by
      have k : Kp w5 W0 := by rw [← hW0]; exact Kp.of ((Grown.refl _).alloc _ _)
      have b9 := Blk.new w5 #[.slice (some ⟨b, o, none⟩) n cap] 31
      rw [hW0] at b9
      exact ⟨(unhide V5).kp k, b9, by rw [← hW0]; simp, Blk.lt (unhide V5).1⟩
    clear hW0 V5 SL SL2
    obtain ⟨hV0, hsb, hsz, lvb⟩ := unhide ST
    obtain ⟨_, lU, bU, k2, hn0, hI, hX⟩ := unhide HH
    generalize w5.heap.size = sb at *
    have hvb : w.heap.size + 3 ≤ vb := hV0.2.2.2.2.2.2.2.2.2
    have hM0 : Mk U w W0 := hV0.2.2.2.2.2.2.2.2.1
    refine range_own (P := Tryz.prog) (encs := encB X) (St := fun _ _ => False) (D := fun q => q = U ∨ q = vb) (Px := nextB n) (Pp := fun _ => True) (S := fun xs _ => xs.length = n) (Sp := fun _ _ => True) rfl (by omega) (gf := 59) (lb := #[.pointer (some ⟨sb, 0, none⟩)]) rfl trivial (enters_of Tryz.func59 (by kernel_rfl) rfl) (fun _ => rfl)
      (fun _ _ _ _ h => h.elim)
      (fun l J Jx W hg hJ hY h0 => ?seq)
      (fun pre W => pre.length ≤ n ∧ W0.heap.size ≤ W.heap.size ∧ ∃ B cp, AtV w U r c nn vb t c0 n0 (horZ (fun i => (X i).Z) n t pre.length) (horC (fun i => (X i).Z) n t nn pre.length) ((pre.length : Int) * 1000) B cp W)
      (fun _ _ _ => False)
      (fun pre W W' row h hg hr => let ⟨h1, hs, B, cp, h2⟩ := h; ⟨h1, Nat.le_trans hs hg.size, B, cp, h2.own (by have := hM0.2.2.2; omega) hg hr⟩)
      (fun c pre W W' row h hg hr => h.elim)
      (fun _ _ _ _ h _ _ => h)
      (fun _ _ _ _ h _ _ => h)
      (fun pre X Y h s => s.elim)
      (fun pre W h => trivial)
      ⟨Nat.zero_le _, Nat.le_refl _, Bl, cap2, by simpa [horZ, horC] using hV0⟩
      (fun x a' W => ∃ Bx, W0.heap.size ≤ Bx ∧ Blk Bx (X x).cells 24 W ∧ a' = { tmps := #[.pointer (some ⟨U, 0, none⟩), .slice (some ⟨b, o, none⟩) (n + 1) cap, .int .i64 t, .pointer (some ⟨w.heap.size, 0, none⟩), undef, .pointer (some ⟨w.heap.size + 1, 0, none⟩), .pointer (some ⟨w.heap.size + 1 + 1, 0, none⟩), .int .i64 0, .int .i64 0, .pointer (some ⟨Lx, 0, none⟩), .pointer (some ⟨vb, 0, none⟩), undef, .pointer (some ⟨Bx, 0, none⟩), .pointer (some ⟨U, 0, none⟩), .slice (some ⟨b, o, none⟩) (n + 1) cap, .bool true, .int .i64 0, .int .i64 0, .bool false, undef, undef, .slice (some ⟨b, o, none⟩) (n + 1) cap, .slice (some ⟨b, o, none⟩) (n + 1) cap, .int .i64 ((n : Int) + 1), .int .i64 (n : Int), .pointer (some ⟨b, o + n * 3, none⟩), .agg #[.int .i64 r, .int .i64 c, .slice (some ⟨lb, lo, none⟩) nn q0], .pointer (some ⟨Lx, 0, none⟩), .int .i64 r, .pointer (some ⟨Lx, 1, none⟩), .int .i64 c, .pointer (some ⟨Lx, 2, none⟩), .slice (some ⟨lb, lo, none⟩) nn q0, .slice (some ⟨Bl, 0, none⟩) nn cap2, .agg #[.int .i64 r, .int .i64 c, .slice (some ⟨Bl, 0, none⟩) nn cap2], .slice (some ⟨b, o, none⟩) (n + 1) cap, .slice (some ⟨b, o, none⟩) (n + 1) cap, .int .i64 ((n : Int) + 1), .int .i64 (wrap64 (n : Int)), .slice (some ⟨b, o, none⟩) n cap, .func (.func 59) #[] #[.pointer (some ⟨sb, 0, none⟩)], .int .i64 (x : Int), .agg #[.int .i64 (X x).R, .int .i64 (X x).C, .slice (X x).ao (X x).len (X x).cap], undef, undef, undef, undef, undef, undef, undef, undef, undef, undef, undef, undef, undef, undef, undef], defers := [] })
      (fun x a' _ W W' row h hg hr => let ⟨Bx, h1, h2, h3⟩ := h; ⟨Bx, h1, blk_own h2 hg (fun r e => (hr r e).2), h3⟩)
      ?assign ?body ?done ?stop
    case seq =>
      have gk : ∀ c cs T, Blk c cs T W0 → Blk c cs T W := fun c cs T h => (hg.block c (Blk.lt h) (by simp)).trans h
      exact back1_in _ l sb n cap (some ⟨b, o, none⟩) X (by omega) (by have := (unhide HL).2.1; omega) _ (by omega) (fun _ _ => False) J Jx (fun q hq h => by obtain ⟨o', e⟩ := hq h; cases e; have lb : b < w.heap.size := heap_gt ((unhide HC n (Nat.le_refl _) w (Mk.refl _ _)).1); omega) hY W (gk _ _ _ hsb) ((unhide HM W0 hM0).cells fun q o' v _ hv => hg.cell hv (by simp)) h0
    case assign =>
      intro l pre x W K hI2 hK
      dsimp only [encB]
      have HI := hide hI2
      have HKK := hide hK
      clear hK
      clear hI hX hV0 hsb k2 hn0 hM0 hI2
      gi_wp2
      obtain ⟨h1, hs, B, cp, h2⟩ := unhide HI
      exact (unhide HKK) _ _ ((KeepsOthers.alloc _ _).from _) (KC.of (fun q hq _ => gblock ((Grown.refl _).alloc _ _) hq) (by simp)) ⟨h1, Nat.le_trans hs (by simp), B, cp, h2.kp (Kp.of ((Grown.refl _).alloc _ _))⟩ ⟨W.heap.size, hs, Blk.new _ _ _, rfl⟩
    case body =>
      rintro l pre x a' W ⟨h1, hs, B, cp, h2⟩ ⟨Bx, hBx, bX, rfl⟩ hnx
      obtain ⟨j, hj⟩ : ∃ j, pre.length = j := ⟨_, rfl⟩
      have hxj : x = n - (j + 1) ∧ x ≤ n ∧ j + 1 ≤ n := by unfold nextB at hnx; omega
      rw [hj] at h1 h2
      have hb := Blk.lt bX
      have h24 := (unhide HL).2.1
      obtain ⟨e1, e2, e3⟩ := hX x hxj.2.1
      dsimp only
      rw [e1, e2, e3]
      have bX2 : Blk Bx #[.int .i64 r, .int .i64 c, .slice (X x).ao nn (X x).cap] 24 W := by
        have t := bX
        unfold MV.cells at t
        rw [e1, e2, e3] at t
        exact t
      obtain ⟨cnt, q1, q2, hu⟩ := h2.2.2.2.2.1
      have hB := h2.2.2.2.1
      have z0 : W.cell? ⟨vb, 0, none⟩ = some (.int .i64 r) := Blk.cell h2.1 0
      have z1 : W.cell? ⟨vb, 1, none⟩ = some (.int .i64 c) := Blk.cell h2.1 1
      have z2 : W.cell? ⟨vb, 2, none⟩ = some (.slice (some ⟨B, 0, none⟩) nn cp) := Blk.cell h2.1 2
      have u0 : W.cell? ⟨w.heap.size, 0, none⟩ = some (.pointer (some ⟨U, 0, none⟩)) := Blk.cell h2.2.2.2.2.2.1 0
      have t0 : W.cell? ⟨w.heap.size + 1, 0, none⟩ = some (.int .i64 t) := Blk.cell h2.2.2.2.2.2.2.1 0
      have hIj : ∀ p, p < nn → I64 (horZ (fun i => (X i).Z) n t j p) := horZ_I64 _ n t nn (fun p hp => hI n (Nat.le_refl _) p hp) j
      obtain ⟨V, hV⟩ : ∃ V, horZ (fun i => (X i).Z) n t j = V := ⟨_, rfl⟩
      obtain ⟨G, hG⟩ : ∃ G, horC (fun i => (X i).Z) n t nn j = G := ⟨_, rfl⟩
      rw [hV] at h2 hIj
      rw [hG] at h2 hu
      have EV : Hid (horZ (fun i => (X i).Z) n t (j + 1) = hoZ V (X x).Z t ∧ horC (fun i => (X i).Z) n t nn (j + 1) = (G || hoC V (X x).Z t nn)) := by
        rw [← hV, ← hG, hxj.1]
        exact ⟨rfl, rfl⟩
      have S1 := hide (unhide SC V B cp W (c0 || G) cnt (by omega) hIj hu (h2.2.1.row) (by have := Blk.lt hu; omega))
      have HS := hide (And.intro h2 (And.intro hu (And.intro q1 (And.intro q2 (And.intro bX2 (And.intro hBx (And.intro hs (And.intro hj (And.intro hxj h1)))))))))
      have HN := hide (And.intro hn0 (And.intro k2 (And.intro lU (And.intro hvb (And.intro lvb (And.intro hsz hM0))))))
      have HNE : Hid (w.heap.size ≠ vb ∧ w.heap.size + 1 ≠ vb ∧ Bx ≠ vb ∧ Bx ≠ U ∧ w.heap.size ≠ U ∧ w.heap.size + 1 ≠ U) := by
        have := hM0.2.2.2
        refine ⟨?_, ?_, ?_, ?_, ?_, ?_⟩ <;> omega
      have n1 : w.heap.size ≠ vb := (unhide HNE).1
      have n2 : w.heap.size + 1 ≠ vb := (unhide HNE).2.1
      have n3 : Bx ≠ vb := (unhide HNE).2.2.1
      have nn0 : nn ≠ 0 := by omega
      clear h24 h1 h2 hu q1 q2 bX bX2 hBx hs hj hxj hnx hb e1 e2 e3 hB hV hG hIj hI hX hV0 hsb hM0 hn0 k2 lU bU hvb lvb hsz ST
      gi_wp2_with fail
      refine ⟨trivial, ?_⟩
      refine (CallsIn.inRound l (callsIn_wide (n := 3).2 (unhide S1))).mono ?_
      rintro e w6 ⟨_, cp2, B2, rfl, hB2, hb2, hcp2, hu2, m2⟩
      obtain ⟨rfl, hbn⟩ := hb2.resolve_left nn0
      have P := hide ((unhide HS).1.put (G' := G || orC (fun p => m2C (V p) t) nn) (d' := (j : Int) * 1000 + 288) (unhide HN).2.2.1 m2 (by rw [← Bool.or_assoc]; exact hu2) (by have := (unhide HS).2.2.1; omega) (by have := (unhide HS).2.2.2.1; have := (unhide HN).2.1.2; omega) hbn hB2 hcp2)
      have z0 : w6.cell? ⟨vb, 0, none⟩ = some (.int .i64 r) := Blk.cell (unhide P).2.2.2.1 0
      have z1 : w6.cell? ⟨vb, 1, none⟩ = some (.int .i64 c) := Blk.cell (unhide P).2.2.2.1 1
      have z2 : w6.cell? ⟨vb, 2, none⟩ = some (.slice (some ⟨B, 0, none⟩) nn cp) := Blk.cell (unhide P).2.2.2.1 2
      have ff := Blk.free (unhide P).2.2.2.1
      have u0 : w6.cell? ⟨w.heap.size, 0, none⟩ = some (.pointer (some ⟨U, 0, none⟩)) := m2.cell (Blk.cell (unhide HS).1.2.2.2.2.2.1 0) (unhide HNE).2.2.2.2.1
      have bX6 := Blk.mk (unhide HS).2.2.2.2.1 m2 (unhide HNE).2.2.2.1
      have x0 : w6.cell? ⟨Bx, 0, none⟩ = some (.int .i64 r) := Blk.cell bX6 0
      have x1 : w6.cell? ⟨Bx, 1, none⟩ = some (.int .i64 c) := Blk.cell bX6 1
      have x2 : w6.cell? ⟨Bx, 2, none⟩ = some (.slice (X x).ao nn (X x).cap) := Blk.cell bX6 2
      clear hB2 hb2 hbn hcp2 hu2 m2 S1 bX6
      gi_wp2_with fail
      obtain ⟨cn2, r1, r2, hu6⟩ := (unhide P).1.2.2.2.2.1
      have hm6 := (unhide P).2.2.2.2
      have hr6 := (unhide P).1.2.1.row
      have S2 := hide (unhide SU x (unhide HS).2.2.2.2.2.2.2.2.1.2.1 (fun p => m2N (V p) t) B2 cp2 _ (c0 || (G || orC (fun p => m2C (V p) t) nn)) cn2 ⟨by have := (unhide HN).1.1; omega, by have := (unhide HN).1.2; have := (unhide HL).2.1; have := (unhide HS).2.2.2.2.2.2.2.2.1.2.2; omega⟩ (fun p _ => m2N_I64 _ _) hu6 hr6 (by have := Blk.lt hu6; have := (unhide P).1.2.2.2.1; have := (unhide HN).2.2.1; omega) hm6)
      have R6 := hide (And.intro r1 r2)
      clear hu6 hm6 hr6 r1 r2 z0 z1 z2 ff u0 t0 x0 x1 x2
      refine ⟨trivial, ?_⟩
      refine (CallsIn.inRound l (callsIn_wide (n := 3).2 (unhide S2))).mono ?_
      rintro e w7 ⟨_, cp3, B3, rfl, hB3, hb3, hcp3, hu3, m3⟩
      obtain ⟨rfl, hbn⟩ := hb3.resolve_left nn0
      have P2 := hide ((unhide P).1.put (G' := G || orC (fun p => m2C (V p) t) nn || orC (fun p => s2C (m2N (V p) t) ((X x).Z p)) nn) (d' := ((j + 1 : Nat) : Int) * 1000) (unhide HN).2.2.1 m3 (by rw [← Bool.or_assoc]; exact hu3) (by have := (unhide R6).1; omega) (by have := (unhide R6).2; have := (unhide HN).2.1.2; omega) hbn hB3 hcp3)
      clear hB3 hb3 hbn hcp3 hu3 m3 S2
      have z0 : w7.cell? ⟨vb, 0, none⟩ = some (.int .i64 r) := Blk.cell (unhide P2).2.2.2.1 0
      have z1 : w7.cell? ⟨vb, 1, none⟩ = some (.int .i64 c) := Blk.cell (unhide P2).2.2.2.1 1
      have z2 : w7.cell? ⟨vb, 2, none⟩ = some (.slice (some ⟨B2, 0, none⟩) nn cp2) := Blk.cell (unhide P2).2.2.2.1 2
      have ff := Blk.free (unhide P2).2.2.2.1
      generalize (((w6.setCell ⟨vb, 0, none⟩ (.int .i64 r)).setCell ⟨vb, 1, none⟩ (.int .i64 c)).setCell ⟨vb, 2, none⟩ (.slice (some ⟨B2, 0, none⟩) nn cp2)) = wa at *
      gi_wp2
      obtain ⟨_, _, _, _, _, _, s7, s8, s9, s10⟩ := unhide HS
      refine ⟨((unhide P).2.2.1.trans (unhide P2).2.2.1).from _, (unhide P).2.1.trans (unhide P2).2.1, by rw [List.length_append, s8]; exact s9.2.2, Nat.le_trans s7 ((unhide P).2.1.trans (unhide P2).2.1).2, B3, cp3, ?_⟩
      have e1 : (pre ++ [x]).length = j + 1 := by rw [List.length_append, s8]; rfl
      rw [e1, (unhide EV).1, (unhide EV).2]
      have t := (unhide P2).1
      rw [Bool.or_assoc] at t
      exact t
    case done =>
      rintro d xs W hd hl ⟨h1, hs, B, cp, h2⟩ hDf
      rw [hl] at h2
      have h24 := (unhide HL).2.1
      have z0 : W.cell? ⟨vb, 0, none⟩ = some (.int .i64 r) := Blk.cell h2.1 0
      have z1 : W.cell? ⟨vb, 1, none⟩ = some (.int .i64 c) := Blk.cell h2.1 1
      have z2 : W.cell? ⟨vb, 2, none⟩ = some (.slice (some ⟨B, 0, none⟩) nn cp) := Blk.cell h2.1 2
      have y0 : W.cell? ⟨w.heap.size + 1 + 1, 0, none⟩ = some (.int .i64 0) := Blk.cell h2.2.2.2.2.2.2.2.1 0
      have y1 : W.cell? ⟨w.heap.size + 1 + 1, 1, none⟩ = some (.int .i64 0) := Blk.cell h2.2.2.2.2.2.2.2.1 1
      have y2 : W.cell? ⟨w.heap.size + 1 + 1, 2, none⟩ = some (.slice none 0 0) := Blk.cell h2.2.2.2.2.2.2.2.1 2
      have ff := Blk.free h2.2.2.2.2.2.2.2.1
      have HS := hide (And.intro h2 (And.intro hs (And.intro (show w.heap.size + 3 ≤ W0.heap.size by omega) (And.intro lU (And.intro h24 hM0)))))
      clear h1 hs h2 hI hX hV0 hsb hM0 hn0 k2 lU bU hvb lvb hsz ST h24
      gi_wp2
      obtain ⟨h2, hs, hvb, lU, h24, hM0⟩ := unhide HS
      obtain ⟨v1, v2, v3, v4, ⟨cnt, q1, q2, hu⟩, v6, v7, v8, v9, v10⟩ := h2
      have P := putM v8 (.int .i64 r) (.int .i64 c) (.slice (some ⟨B, 0, none⟩) nn cp)
      have hz := v9.2.2.2
      have lB : B < W.heap.size := by obtain ⟨cur, c1, _⟩ := v2; exact Blk.lt c1
      have oB : B ≠ w.heap.size + 1 + 1 := by obtain ⟨cur, c1, _⟩ := v2; exact blk_ne c1 v8 (by decide +kernel)
      have kD := (((KeepsOthers.setCell W ⟨w.heap.size + 1 + 1, 0, none⟩ (.int .i64 r)).trans (KeepsOthers.setCell _ ⟨w.heap.size + 1 + 1, 1, none⟩ (.int .i64 c))).trans (KeepsOthers.setCell _ ⟨w.heap.size + 1 + 1, 2, none⟩ (.slice (some ⟨B, 0, none⟩) nn cp))).same d _ hDf rfl
      have hd2 : w.heap.size + 3 ≤ d := by omega
      generalize (((W.setCell ⟨w.heap.size + 1 + 1, 0, none⟩ (.int .i64 r)).setCell ⟨w.heap.size + 1 + 1, 1, none⟩ (.int .i64 c)).setCell ⟨w.heap.size + 1 + 1, 2, none⟩ (.slice (some ⟨B, 0, none⟩) nn cp)) = WW at *
      have gD := grownBy_putObj' WW d (.deferred none)
      have b2 := Blk.by P.1 gD (fun e => by cases e; omega)
      have oD : B ≠ d := by
        intro e
        obtain ⟨cur, c1, _⟩ := v2.mk (Mk.of P.2) oB
        rw [← e] at kD
        rw [show WW.heap[B]? = _ from c1] at kD
        cases kD
      have o2 := (v2.mk (Mk.of P.2) oB).by gD (fun e => oD (by simpa using e))
      have u2 := Blk.by (Blk.keep hu P.2 (by omega)) gD (fun e => by cases e; omega)
      have m2 := (v9.new P.2 (by omega)).by gD (fun k e => by cases e; omega)
      refine ⟨by simp, .inl ⟨_, _, rfl, run_takeDeferred kD, ?_⟩⟩
      have c0' : (WW.putObj d (.deferred none)).cell? ⟨w.heap.size + 1 + 1, 0, none⟩ = some (.int .i64 r) := Blk.cell b2 0
      have c1' : (WW.putObj d (.deferred none)).cell? ⟨w.heap.size + 1 + 1, 1, none⟩ = some (.int .i64 c) := Blk.cell b2 1
      have c2' : (WW.putObj d (.deferred none)).cell? ⟨w.heap.size + 1 + 1, 2, none⟩ = some (.slice (some ⟨B, 0, none⟩) nn cp) := Blk.cell b2 2
      generalize WW.putObj d (.deferred none) = WP at *
      refine ⟨.tuple #[.agg #[.int .i64 r, .int .i64 c, .slice (some ⟨B, 0, none⟩) nn cp], .int .i64 0], by simp [results, Tryz.results20, go_sem, c0', c1', c2'], ?_⟩
      exact ⟨_, _, B, rfl, v3, v4, Or.inr ⟨rfl, o2⟩, ⟨cnt, q1, by omega, u2⟩, m2⟩
    case stop =>
      rintro d c pre W hd _ h
      exact h.elim
end

end Go.Proofs.YtopaakjildmjcaaGreat

/- Package poly: Terms and At where there is nothing to tell; Flow. -/
namespace Go.Proofs.YtopaakjildmjcaaGreat
open Go.RowKit Go.Shelf Go.Proofs.Wd
set_option linter.unusedVariables false
set_option linter.unusedSimpArgs false
set_option maxRecDepth 10000

/-- No list, but an error. -/
def BadT (U : Nat) (c0 : Bool) (n0 err : Int) (w : World) (e : Ending) (w' : World) : Prop := e = .returned (.tuple #[.slice none 0 0, .int .i64 err]) ∧ UC U c0 n0 w' ∧ Mk U w w'

set_option maxRecDepth 20000 in
set_option maxHeartbeats 4000000 in
theorem polyTerms_size (U : Nat) (c0 : Bool) (n0 : Int) (hn0 : 0 ≤ n0 ∧ n0 < 1000000000000000000) (R C k : Int) (ao : Option Addr) (len cap : Nat) (hb : ¬ sqA R C len) (w : World) (h : UC U c0 n0 w) :
    Calls Tryz.prog 9 #[.pointer (some ⟨U, 0, none⟩), .agg #[.int .i64 R, .int .i64 C, .slice ao len cap], .int .i64 k] w fun e w' => BadT U c0 n0 3 w e w' := by
  have SQ := hide (fun w => polySquare R C ao len cap w)
  rw [sqB_no hb] at SQ
  have G : Grown w ((w.alloc (.cells #[.int .i64 R, .int .i64 C, .slice ao len cap] 24)).alloc (.cells #[.int .i64 k] 3)) := ((Grown.refl _).alloc _ _).alloc _ _
  have HG := hide (And.intro G (And.intro (Blk.grown h G) hn0))
  clear G h hb hn0
  go_enter Tryz.func9, Tryz.ntmps9
  go_wp2_with fail
  generalize (w.alloc (.cells #[.int .i64 R, .int .i64 C, .slice ao len cap] 24)).alloc (.cells #[.int .i64 k] 3) = w1 at *
  refine (unhide SQ _).mono ?_
  rintro e w2 ⟨rfl, g2⟩
  have RF := hide (polyRefuse U c0 n0 ⟨(unhide HG).2.2.1, by have := (unhide HG).2.2.2; omega⟩ false w2 (Blk.grown (unhide HG).2.1 g2))
  have G2 := hide (gtrans (unhide HG).1 g2)
  clear g2 SQ HG
  go_wp2_with fail
  refine (unhide RF).mono ?_
  rintro e w3 ⟨rfl, u3, m3⟩
  have R := hide (And.intro u3 ((Mk.kp (Kp.of (unhide G2))).trans (Mk.of m3)))
  simp only [errB, Bool.false_eq_true, if_false]
  clear u3 m3 RF
  go_wp2
  go_ret2
  exact ⟨rfl, unhide R⟩

set_option maxRecDepth 20000 in
set_option maxHeartbeats 4000000 in
theorem polyTerms_arg (U : Nat) (c0 : Bool) (n0 : Int) (hn0 : 0 ≤ n0 ∧ n0 < 1000000000000000000) (R C k : Int) (ao : Option Addr) (len cap : Nat) (hb : sqA R C len) (hk : k < 0 ∨ 24 < k) (w : World) (h : UC U c0 n0 w) :
    Calls Tryz.prog 9 #[.pointer (some ⟨U, 0, none⟩), .agg #[.int .i64 R, .int .i64 C, .slice ao len cap], .int .i64 k] w fun e w' => BadT U c0 n0 2 w e w' := by
  have SQ := hide (fun w => polySquare R C ao len cap w)
  rw [sqB_yes hb] at SQ
  have G : Grown w ((w.alloc (.cells #[.int .i64 R, .int .i64 C, .slice ao len cap] 24)).alloc (.cells #[.int .i64 k] 3)) := ((Grown.refl _).alloc _ _).alloc _ _
  have bk : Blk (w.heap.size + 1) #[.int .i64 k] 3 ((w.alloc (.cells #[.int .i64 R, .int .i64 C, .slice ao len cap] 24)).alloc (.cells #[.int .i64 k] 3)) := blk_new2 w _ _ _
  have HG := hide (And.intro G (And.intro (Blk.grown h G) (And.intro hn0 (And.intro bk (Blk.lt h)))))
  have HK := hide hk
  clear G h hb hn0 bk hk
  go_enter Tryz.func9, Tryz.ntmps9
  go_wp2_with fail
  generalize (w.alloc (.cells #[.int .i64 R, .int .i64 C, .slice ao len cap] 24)).alloc (.cells #[.int .i64 k] 3) = w1 at *
  refine (unhide SQ _).mono ?_
  rintro e w2 ⟨rfl, g2⟩
  have RF := hide (polyRefuse U c0 n0 ⟨(unhide HG).2.2.1.1, by have := (unhide HG).2.2.1.2; omega⟩ true w2 (Blk.grown (unhide HG).2.1 g2))
  have G2 := hide (And.intro (gtrans (unhide HG).1 g2) (And.intro (Blk.grown (unhide HG).2.2.2.1 g2) (unhide HG).2.2.2.2))
  clear g2 SQ HG
  go_wp2_with fail
  refine (unhide RF).mono ?_
  rintro e w3 ⟨rfl, u3, m3⟩
  have x0 : w3.cell? ⟨w.heap.size + 1, 0, none⟩ = some (.int .i64 k) := Blk.cell (Blk.keep (unhide G2).2.1 m3 (by have := (unhide G2).2.2; omega)) 0
  have R := hide (And.intro u3 ((Mk.kp (Kp.of (unhide G2).1)).trans (Mk.of m3)))
  simp only [errB, if_true]
  clear u3 m3 RF
  by_cases h1 : k < 0
  · go_wp2
    go_ret2
    exact ⟨rfl, unhide R⟩
  · have h2 : 24 < k := (unhide HK).resolve_left h1
    go_wp2
    go_ret2
    exact ⟨rfl, unhide R⟩

set_option maxRecDepth 50000 in
set_option maxHeartbeats 4000000 in
theorem polyAt_bad (U : Nat) (c0 : Bool) (n0 : Int) (hn0 : 0 ≤ n0 ∧ n0 < 1000000000000000000) (t : Int) (ao : Option Addr) (n cap : Nat) (X : Nat → MV) (Z : Nat → Int) (hl : n ≤ 9223372036854775807) (hb : ¬ okP n X) (w : World) (h : UC U c0 n0 w) (hm : Mats w ao n X) :
    Calls Tryz.prog 20 #[.pointer (some ⟨U, 0, none⟩), .slice ao n cap, .int .i64 t] w fun e w' => ValP 0 0 0 Z 3 (fun w' => UC U c0 n0 w' ∧ Mk U w w') w e w' := by
  have PL := hide (fun wx (k : Grown w wx) => polyPolynomial ao n cap X hl wx (hm.grown k))
  rw [okPB_no hb] at PL
  have lU := Blk.lt h
  have G : Grown w (((w.alloc (.cells #[.pointer (some ⟨U, 0, none⟩)] 25)).alloc (.cells #[.int .i64 t] 3)).alloc (.cells #[.int .i64 0, .int .i64 0, .slice none 0 0] 24)) := (((Grown.refl _).alloc _ _).alloc _ _).alloc _ _
  have B1 : Hid (Blk w.heap.size #[.pointer (some ⟨U, 0, none⟩)] 25 (((w.alloc (.cells #[.pointer (some ⟨U, 0, none⟩)] 25)).alloc (.cells #[.int .i64 t] 3)).alloc (.cells #[.int .i64 0, .int .i64 0, .slice none 0 0] 24)) ∧ Blk (w.heap.size + 1 + 1) #[.int .i64 0, .int .i64 0, .slice none 0 0] 24 (((w.alloc (.cells #[.pointer (some ⟨U, 0, none⟩)] 25)).alloc (.cells #[.int .i64 t] 3)).alloc (.cells #[.int .i64 0, .int .i64 0, .slice none 0 0] 24))) := by
    refine ⟨Blk.grown (Blk.grown (Blk.new w _ _) ((Grown.refl _).alloc _ _)) ((Grown.refl _).alloc _ _), ?_⟩
    have := Blk.new ((w.alloc (.cells #[.pointer (some ⟨U, 0, none⟩)] 25)).alloc (.cells #[.int .i64 t] 3)) #[.int .i64 0, .int .i64 0, .slice none 0 0] 24
    simp only [World.size_alloc] at this
    exact this
  have HG := hide (And.intro G (And.intro (Blk.grown h G) (And.intro hn0 lU)))
  clear G h hb hn0 lU hm
  go_enter Tryz.func20, Tryz.ntmps20
  go_wp2_with fail
  generalize (((w.alloc (.cells #[.pointer (some ⟨U, 0, none⟩)] 25)).alloc (.cells #[.int .i64 t] 3)).alloc (.cells #[.int .i64 0, .int .i64 0, .slice none 0 0] 24)) = w1 at *
  have y0 : w1.drew.cell? ⟨w.heap.size, 0, none⟩ = some (.pointer (some ⟨U, 0, none⟩)) := Blk.cell (w := w1) (unhide B1).1 0
  refine region_G (fun w' => w'.cell? ⟨w.heap.size, 0, none⟩ = some (.pointer (some ⟨U, 0, none⟩))) 4 (by kernel_rfl) y0 (fun hHeld => ?_)
  refine take_G (i := 0) (d := 13) (v := .pointer (some ⟨U, 0, none⟩)) rfl rfl (by kernel_rfl) (by kernel_rfl) (by kernel_rfl) (by kernel_rfl) (by kernel_rfl) (Or.inl ⟨by rfl, ?_⟩) hHeld ?_
  · intro wS hSw
    clear hHeld
    go_simp
  (try simp only [Act.put, List.setIfInBounds_toArray, List.set_cons_zero, List.set_cons_succ])
  refine take_G (i := 1) (d := 14) (v := .slice ao n cap) rfl rfl (by kernel_rfl) (by kernel_rfl) (by kernel_rfl) (by kernel_rfl) (by kernel_rfl) (Or.inl ⟨by rfl, ?_⟩) hHeld ?_
  · intro wS hSw
    clear hHeld
    go_simp
  (try simp only [Act.put, List.setIfInBounds_toArray, List.set_cons_zero, List.set_cons_succ])
  refine step_G (i := 2) (by kernel_rfl) (fun K hK => ?_)
  refine wpOp_of rfl rfl ?_
  unfold Oper.wp
  go_simp
  refine (unhide PL w1.drew (show Grown w w1.drew from (unhide HG).1.drew)).mono ?_
  rintro e w2 ⟨rfl, g2⟩
  have y1 := gat g2 y0
  have GG : Hid (Grown w1 w2) := gtrans ((Grown.refl w1).drew) g2
  refine hK _ _ (fun _ => y1) ?_
  clear hK K g2 y0 hHeld
  have hHeld := y1
  (try simp only [Act.put, List.setIfInBounds_toArray, List.set_cons_zero, List.set_cons_succ])
  have RF := hide (polyRefuse U c0 n0 ⟨(unhide HG).2.2.1.1, by have := (unhide HG).2.2.1.2; omega⟩ false w2 (Blk.grown (unhide HG).2.1 (unhide GG)))
  refine step_G (i := 3) (by kernel_rfl) (fun K hK => ?_)
  refine wpOp_of rfl rfl ?_
  unfold Oper.wp
  go_simp
  refine (unhide RF).mono ?_
  rintro e w3 ⟨rfl, u3, m3⟩
  have hU := (unhide HG).2.2.2
  have b3 := Blk.keep (Blk.grown (unhide B1).1 (unhide GG)) m3 (by omega)
  have b4 := Blk.keep (Blk.grown (unhide B1).2 (unhide GG)) m3 (by omega)
  have R := hide (And.intro u3 (And.intro ((Mk.kp (Kp.of (gtrans (unhide HG).1 (unhide GG)))).trans (Mk.of m3)) b4))
  refine hK _ _ (fun _ => Blk.cell b3 0) ?_
  have e0 : w3.cell? ⟨w.heap.size + 1 + 1, 0, none⟩ = some (.int .i64 0) := Blk.cell b4 0
  have e1 : w3.cell? ⟨w.heap.size + 1 + 1, 1, none⟩ = some (.int .i64 0) := Blk.cell b4 1
  have e2 : w3.cell? ⟨w.heap.size + 1 + 1, 2, none⟩ = some (.slice none 0 0) := Blk.cell b4 2
  have f := Blk.free b4
  clear hK K u3 m3 hU hHeld y1 RF b3 b4
  simp only [errB, Bool.false_eq_true, if_false]
  (try simp only [Act.put, List.setIfInBounds_toArray, List.set_cons_zero, List.set_cons_succ])
  refine step_G (i := 4) (by kernel_rfl) (fun K hK => ?_)
  refine wpOp_of rfl rfl ?_
  unfold Oper.wp
  go_simp
  refine hK _ _ (fun h => absurd rfl h) ?_
  clear hK K
  (try simp only [Act.put, List.setIfInBounds_toArray, List.set_cons_zero, List.set_cons_succ])
  refine done_G (by kernel_rfl) ?_
  refine noPanic_normalE ?_
  clear GG B1 PL HG
  go_wp2
  have P := putM (unhide R).2.2 (.int .i64 0) (.int .i64 0) (.slice none 0 0)
  generalize (((w3.setCell ⟨w.heap.size + 1 + 1, 0, none⟩ (.int .i64 0)).setCell ⟨w.heap.size + 1 + 1, 1, none⟩ (.int .i64 0)).setCell ⟨w.heap.size + 1 + 1, 2, none⟩ (.slice none 0 0)) = wE at *
  have c0' : wE.cell? ⟨w.heap.size + 1 + 1, 0, none⟩ = some (.int .i64 0) := Blk.cell P.1 0
  have c1' : wE.cell? ⟨w.heap.size + 1 + 1, 1, none⟩ = some (.int .i64 0) := Blk.cell P.1 1
  have c2' : wE.cell? ⟨w.heap.size + 1 + 1, 2, none⟩ = some (.slice none 0 0) := Blk.cell P.1 2
  refine bodyPost_ret (v := .tuple #[.agg #[.int .i64 0, .int .i64 0, .slice none 0 0], .int .i64 3]) (by simp [results, Tryz.results20, go_sem, c0', c1', c2']) rfl ?_
  have uU : U ≠ w.heap.size + 1 + 1 := blk_ne (unhide R).1 (unhide R).2.2 (by decide +kernel)
  exact ⟨none, 0, w.heap.size, rfl, Nat.le_refl _, Nat.le_refl _, Or.inl rfl, Blk.keep (unhide R).1 P.2 uU, (unhide R).2.1.new P.2 (by omega)⟩

/-- A flow: its numbers, and whether something was cut. -/
def flowZ (A : Nat → Int) (n : Nat) (t : Int) : Nat → Int := horZ (termZ A n) (n - 1) t (n - 1)
def flowC (A : Nat → Int) (n : Nat) (t : Int) : Bool := termC A n (n - 1) || horC (termZ A n) (n - 1) t (n * n) (n - 1)
theorem listT_at (n nn : Nat) (A : Nat → Int) (pre : List (Nat × Nat)) (i : Nat) (x : Nat × Nat) (h : pre[i]? = some x) : ixM (listT n nn A pre) i = XT n nn A i x := by
  refine ixM_at ?_
  unfold listT
  rw [List.getElem?_mapIdx, h]
  rfl

set_option maxRecDepth 20000 in
set_option maxHeartbeats 4000000 in
theorem polyFlow_ok (U n b o cap : Nat) (c0 : Bool) (n0 t : Int) (ht : I64 t) (hn0 : 0 ≤ n0 ∧ n0 < 100000000000000000) (A : Nat → Int) (hn : 1 ≤ n ∧ n ≤ 12) (hcap : n * n ≤ cap) (hA : ∀ j, j < n * n → I64 (A j)) (hup : upTo A n n = true) (w : World) (h : UC U c0 n0 w) (za : ∀ j, j < n * n → w.cell? ⟨b, o + j, none⟩ = some (.int .i64 (A j))) (hb : b ≠ U) :
    Calls Tryz.prog 11 #[.pointer (some ⟨U, 0, none⟩), .agg #[.int .i64 n, .int .i64 n, .slice (some ⟨b, o, none⟩) (n * n) cap], .int .i64 t] w fun e w' => ValP n n (n * n) (flowZ A n t) 0 (fun w' => UW U (c0 || flowC A n t) n0 200000 w' ∧ Mk U w w') w e w' := by
  have SQ := hide (fun w => polySquare n n (some ⟨b, o, none⟩) (n * n) cap w)
  rw [sqB_yes (sqA_of hn)] at SQ
  have k2 := mul12n n n hn hn
  have lU := Blk.lt h
  have UPP : Hid (∀ wx, Mk U w wx → Calls Tryz.prog 17 #[.agg #[.int .i64 n, .int .i64 n, .slice (some ⟨b, o, none⟩) (n * n) cap]] wx fun e w' => e = .returned (.bool true) ∧ Grown wx w') := fun wx m => by
    have := polyUpper_ok n b o cap A hn wx (fun j hj => m.cell (za j hj) hb)
    rwa [hup] at this
  have TM : Hid (∀ wx, UC U c0 n0 wx → Mk U w wx → Calls Tryz.prog 9 #[.pointer (some ⟨U, 0, none⟩), .agg #[.int .i64 n, .int .i64 n, .slice (some ⟨b, o, none⟩) (n * n) cap], .int .i64 ((n - 1 : Nat) : Int)] wx fun e w' => TermP U n (n * n) c0 n0 A (n - 1) wx e w') := fun wx u m =>
    polyTerms_ok U n (n * n) b o cap (n - 1) c0 n0 ⟨hn0.1, by omega⟩ A hn rfl (by omega) hcap hA wx u (fun j hj => m.cell (za j hj) hb) hb
  obtain ⟨nn, hnn⟩ : ∃ nn, n * n = nn := ⟨_, rfl⟩
  obtain ⟨k, hk⟩ : ∃ k, n = k + 1 := ⟨n - 1, by omega⟩
  have hk1 : n - 1 = k := by omega
  rw [hk1] at TM
  have eF : Hid (flowZ A n t = horZ (termZ A n) k t k ∧ flowC A n t = (termC A n k || horC (termZ A n) k t nn k)) := by
    unfold flowZ flowC
    rw [hk1, hnn]
    exact ⟨rfl, rfl⟩
  have tI : ∀ m p, p < nn → I64 (termZ A n m p) := fun m p hp => termZ_I64 A n m p (by rw [hnn]; exact hp)
  rw [hnn] at SQ k2 UPP TM
  rw [hnn]
  have G : Grown w ((w.alloc (.cells #[.int .i64 n, .int .i64 n, .slice (some ⟨b, o, none⟩) nn cap] 24)).alloc (.cells #[.int .i64 0, .int .i64 0, .slice none 0 0] 24)) := ((Grown.refl _).alloc _ _).alloc _ _
  have HB : Hid (Blk w.heap.size #[.int .i64 n, .int .i64 n, .slice (some ⟨b, o, none⟩) nn cap] 24 ((w.alloc (.cells #[.int .i64 n, .int .i64 n, .slice (some ⟨b, o, none⟩) nn cap] 24)).alloc (.cells #[.int .i64 0, .int .i64 0, .slice none 0 0] 24)) ∧ Blk (w.heap.size + 1) #[.int .i64 0, .int .i64 0, .slice none 0 0] 24 ((w.alloc (.cells #[.int .i64 n, .int .i64 n, .slice (some ⟨b, o, none⟩) nn cap] 24)).alloc (.cells #[.int .i64 0, .int .i64 0, .slice none 0 0] 24))) := ⟨Blk.grown (Blk.new w _ _) ((Grown.refl _).alloc _ _), blk_new2 w _ _ _⟩
  have HG := hide (And.intro G (And.intro (Blk.grown h G) (And.intro hn0 (And.intro lU (And.intro k2 (And.intro tI (And.intro ht (And.intro hn (And.intro hk hnn)))))))))
  have wk : wrap64 ((n : Int) - 1) = (k : Int) := by unfold wrap64; omega
  clear G h hn0 lU za hb hA hup hcap k2 hk1 tI ht hn hk hnn
  go_enter Tryz.func11, Tryz.ntmps11
  go_wp2_with fail
  generalize (w.alloc (.cells #[.int .i64 n, .int .i64 n, .slice (some ⟨b, o, none⟩) nn cap] 24)).alloc (.cells #[.int .i64 0, .int .i64 0, .slice none 0 0] 24) = w1 at *
  refine (unhide SQ _).mono ?_
  rintro e w2 ⟨rfl, g2⟩
  have RF := hide (polyRefuse U c0 n0 ⟨(unhide HG).2.2.1.1, by have := (unhide HG).2.2.1.2; omega⟩ true w2 (Blk.grown (unhide HG).2.1 g2))
  have G2 := hide g2
  clear g2 SQ
  go_wp2_with fail
  refine (unhide RF).mono ?_
  rintro e w3 ⟨rfl, u3, m3⟩
  have lU := (unhide HG).2.2.2.1
  have b3 := Blk.keep (Blk.grown (unhide HB).1 (unhide G2)) m3 (by omega)
  have r3 := Blk.keep (Blk.grown (unhide HB).2 (unhide G2)) m3 (by omega)
  have M3 : Mk U w w3 := (Mk.kp (Kp.of (gtrans (unhide HG).1 (unhide G2)))).trans (Mk.of m3)
  have x0 : w3.cell? ⟨w.heap.size, 0, none⟩ = some (.int .i64 n) := Blk.cell b3 0
  have x1 : w3.cell? ⟨w.heap.size, 1, none⟩ = some (.int .i64 n) := Blk.cell b3 1
  have x2 : w3.cell? ⟨w.heap.size, 2, none⟩ = some (.slice (some ⟨b, o, none⟩) nn cap) := Blk.cell b3 2
  have S3 := hide (And.intro u3 (And.intro M3 (And.intro b3 r3)))
  simp only [errB, if_true]
  clear u3 m3 b3 r3 M3 RF lU
  go_wp2_with fail
  refine (unhide UPP _ (unhide S3).2.1).mono ?_
  rintro e w4 ⟨rfl, g4⟩
  have S4 := hide (And.intro (Blk.grown (unhide S3).1 g4) (And.intro ((unhide S3).2.1.grown g4) (And.intro (Blk.grown (unhide S3).2.2.1 g4) (Blk.grown (unhide S3).2.2.2 g4))))
  clear g4 S3 x0 x1 x2 UPP
  have x0 : w4.cell? ⟨w.heap.size, 0, none⟩ = some (.int .i64 n) := Blk.cell (unhide S4).2.2.1 0
  have x1 : w4.cell? ⟨w.heap.size, 1, none⟩ = some (.int .i64 n) := Blk.cell (unhide S4).2.2.1 1
  have x2 : w4.cell? ⟨w.heap.size, 2, none⟩ = some (.slice (some ⟨b, o, none⟩) nn cap) := Blk.cell (unhide S4).2.2.1 2
  have T4 := hide (unhide TM _ (unhide S4).1 (unhide S4).2.1)
  clear TM
  go_wp2_with fail
  refine (unhide T4).mono ?_
  rintro e w5 ⟨Lb, pre, rfl, hl, hL, hT, ⟨cnt, q1, q2, hu⟩, hm⟩
  clear T4 x0 x1 x2
  have AT : Hid (Calls Tryz.prog 20 #[.pointer (some ⟨U, 0, none⟩), .slice (some ⟨Lb, 0, none⟩) (k + 1) (k + 1), .int .i64 t] w5 fun e w' => ValP n n nn (flowZ A n t) 0 (fun w' => UW U (c0 || flowC A n t) n0 200000 w' ∧ Mk U w5 w') w5 e w') := by
    obtain ⟨_, _, hn0, lU, k2, tI, ht, hn, hk, hnn⟩ := unhide HG
    have lw : w.heap.size ≤ w4.heap.size := (unhide S4).2.1.2.2.2
    obtain ⟨ao', cap', e, hM, hc, hoff⟩ := hL.mats
    rw [listT_len, hl] at e hM hc hoff
    cases e
    have hat : ∀ i, i ≤ k → ∃ x, pre[i]? = some x ∧ ixM (listT n nn A pre) i = XT n nn A i x := fun i hi => by
      have : i < pre.length := by omega
      exact ⟨pre[i], List.getElem?_eq_getElem this, listT_at n nn A pre i _ (List.getElem?_eq_getElem this)⟩
    have hZ : ∀ i, i ≤ k → ∀ p, p < nn → (ixM (listT n nn A pre) i).Z p = termZ A n i p := fun i hi p _ => by
      obtain ⟨x, _, e⟩ := hat i hi
      rw [e]
      rfl
    have hc' := hor_congr (fun i => (ixM (listT n nn A pre) i).Z) (termZ A n) k t nn hZ k
    refine (polyAt_ok U n n nn k (k + 1) (some ⟨Lb, 0, none⟩) (c0 || termC A n k) cnt t ⟨by omega, by omega⟩ ht hn hn hnn (by omega) (Nat.le_refl _) (ixM (listT n nn A pre)) (fun i hi => ?_) (fun i hi j hj => ?_) w5 hu hM (fun i hi => ?_) (fun i hi => ?_) (hoff U (by omega))).mono ?_
    · obtain ⟨x, _, e⟩ := hat i hi
      rw [e]
      exact ⟨rfl, rfl, rfl⟩
    · rw [hZ i hi j hj]
      exact tI i j hj
    · obtain ⟨x, hx, e⟩ := hat i hi
      rw [e]
      exact (hT.1 i x hx).1.row
    · obtain ⟨x, hx, e⟩ := hat i hi
      rw [e]
      have := (hT.1 i x hx).2.1
      exact off_blk (show x.1 ≠ U by omega)
    · rintro e w6 ⟨a6, c6, B6, rfl, h2, h3, h4, ⟨c', r1, r2, hu6⟩, h6⟩
      refine ⟨a6, c6, B6, rfl, h2, h3, h4.imp id fun h => ⟨h.1, h.2.congr fun p hp => ?_⟩, ⟨c', by omega, by omega, ?_⟩, h6⟩
      · rw [(unhide eF).2, ← Bool.or_assoc, ← hc'.2]
        exact hu6
      · rw [hc'.1 p hp, (unhide eF).1]
  have S5 : Hid (Mk U w w5 ∧ Blk (w.heap.size + 1) #[.int .i64 0, .int .i64 0, .slice none 0 0] 24 w5) := ⟨(unhide S4).2.1.trans hm, Blk.mk (unhide S4).2.2.2 hm (by have := (unhide HG).2.2.2.1; omega)⟩
  clear hl hL hT q1 q2 hu hm S4
  go_wp2_with fail
  refine (unhide AT).mono ?_
  rintro e w6 ⟨a6, c6, B6, rfl, h2, h3, h4, hu6, h6⟩
  have r6 := Blk.mk (unhide S5).2 h6 (by have := (unhide HG).2.2.2.1; omega)
  have M6 : Mk U w w6 := (unhide S5).1.trans h6
  have e0 : w6.cell? ⟨w.heap.size + 1, 0, none⟩ = some (.int .i64 0) := Blk.cell r6 0
  have e1 : w6.cell? ⟨w.heap.size + 1, 1, none⟩ = some (.int .i64 0) := Blk.cell r6 1
  have e2 : w6.cell? ⟨w.heap.size + 1, 2, none⟩ = some (.slice none 0 0) := Blk.cell r6 2
  have f := Blk.free r6
  have R := hide (And.intro h2 (And.intro (Nat.le_trans (unhide S5).1.2.2.2 h3) (And.intro h4 (And.intro hu6 (And.intro M6 (And.intro r6 (unhide HG).2.2.2.1))))))
  have R2 : Hid (w.heap.size + 1 < w5.heap.size ∧ w5.heap.size ≤ B6) := ⟨Blk.lt (unhide S5).2, h3⟩
  clear h2 h3 h4 hu6 h6 r6 M6 AT S5 HB HG G2
  go_wp2
  obtain ⟨h2, h3, h4, ⟨c', r1, r2, hu6⟩, M6, r6, lU⟩ := unhide R
  have P := putM r6 (.int .i64 n) (.int .i64 n) (.slice a6 nn c6)
  generalize (((w6.setCell ⟨w.heap.size + 1, 0, none⟩ (.int .i64 n)).setCell ⟨w.heap.size + 1, 1, none⟩ (.int .i64 n)).setCell ⟨w.heap.size + 1, 2, none⟩ (.slice a6 nn c6)) = wE at *
  have c0' : wE.cell? ⟨w.heap.size + 1, 0, none⟩ = some (.int .i64 n) := Blk.cell P.1 0
  have c1' : wE.cell? ⟨w.heap.size + 1, 1, none⟩ = some (.int .i64 n) := Blk.cell P.1 1
  have c2' : wE.cell? ⟨w.heap.size + 1, 2, none⟩ = some (.slice a6 nn c6) := Blk.cell P.1 2
  refine bodyPost_ret (v := .tuple #[.agg #[.int .i64 n, .int .i64 n, .slice a6 nn c6], .int .i64 0]) (by simp [results, Tryz.results11, go_sem, c0', c1', c2']) rfl ?_
  exact ⟨a6, c6, B6, rfl, h2, h3, h4.imp id fun h => ⟨h.1, h.2.mk (Mk.of P.2) (by have := unhide R2; omega)⟩, ⟨c', r1, r2, Blk.keep hu6 P.2 (by omega)⟩, M6.new P.2 (by omega)⟩

set_option maxRecDepth 20000 in
set_option maxHeartbeats 4000000 in
theorem polyFlow_size (U : Nat) (c0 : Bool) (n0 : Int) (hn0 : 0 ≤ n0 ∧ n0 < 100000000000000000) (R C t : Int) (ao : Option Addr) (len cap : Nat) (Z : Nat → Int) (hb : ¬ sqA R C len) (w : World) (h : UC U c0 n0 w) :
    Calls Tryz.prog 11 #[.pointer (some ⟨U, 0, none⟩), .agg #[.int .i64 R, .int .i64 C, .slice ao len cap], .int .i64 t] w fun e w' => ValP 0 0 0 Z 3 (fun w' => UC U c0 n0 w' ∧ Mk U w w') w e w' := by
  have SQ := hide (fun w => polySquare R C ao len cap w)
  rw [sqB_no hb] at SQ
  have G : Grown w ((w.alloc (.cells #[.int .i64 R, .int .i64 C, .slice ao len cap] 24)).alloc (.cells #[.int .i64 0, .int .i64 0, .slice none 0 0] 24)) := ((Grown.refl _).alloc _ _).alloc _ _
  have HB : Hid (Blk (w.heap.size + 1) #[.int .i64 0, .int .i64 0, .slice none 0 0] 24 ((w.alloc (.cells #[.int .i64 R, .int .i64 C, .slice ao len cap] 24)).alloc (.cells #[.int .i64 0, .int .i64 0, .slice none 0 0] 24))) := blk_new2 w _ _ _
  have HG := hide (And.intro G (And.intro (Blk.grown h G) (And.intro hn0 (Blk.lt h))))
  clear G h hb hn0
  go_enter Tryz.func11, Tryz.ntmps11
  go_wp2_with fail
  generalize (w.alloc (.cells #[.int .i64 R, .int .i64 C, .slice ao len cap] 24)).alloc (.cells #[.int .i64 0, .int .i64 0, .slice none 0 0] 24) = w1 at *
  refine (unhide SQ _).mono ?_
  rintro e w2 ⟨rfl, g2⟩
  have RF := hide (polyRefuse U c0 n0 ⟨(unhide HG).2.2.1.1, by have := (unhide HG).2.2.1.2; omega⟩ false w2 (Blk.grown (unhide HG).2.1 g2))
  have G2 := hide (And.intro (gtrans (unhide HG).1 g2) (And.intro (Blk.grown (unhide HB) g2) (unhide HG).2.2.2))
  clear g2 SQ HG HB
  go_wp2_with fail
  refine (unhide RF).mono ?_
  rintro e w3 ⟨rfl, u3, m3⟩
  have b4 := Blk.keep (unhide G2).2.1 m3 (by have := (unhide G2).2.2; omega)
  have e0 : w3.cell? ⟨w.heap.size + 1, 0, none⟩ = some (.int .i64 0) := Blk.cell b4 0
  have e1 : w3.cell? ⟨w.heap.size + 1, 1, none⟩ = some (.int .i64 0) := Blk.cell b4 1
  have e2 : w3.cell? ⟨w.heap.size + 1, 2, none⟩ = some (.slice none 0 0) := Blk.cell b4 2
  have f := Blk.free b4
  have R3 := hide (And.intro u3 (And.intro ((Mk.kp (Kp.of (unhide G2).1)).trans (Mk.of m3)) b4))
  simp only [errB, Bool.false_eq_true, if_false]
  clear u3 m3 RF b4
  go_wp2
  have P := putM (unhide R3).2.2 (.int .i64 0) (.int .i64 0) (.slice none 0 0)
  generalize (((w3.setCell ⟨w.heap.size + 1, 0, none⟩ (.int .i64 0)).setCell ⟨w.heap.size + 1, 1, none⟩ (.int .i64 0)).setCell ⟨w.heap.size + 1, 2, none⟩ (.slice none 0 0)) = wE at *
  have c0' : wE.cell? ⟨w.heap.size + 1, 0, none⟩ = some (.int .i64 0) := Blk.cell P.1 0
  have c1' : wE.cell? ⟨w.heap.size + 1, 1, none⟩ = some (.int .i64 0) := Blk.cell P.1 1
  have c2' : wE.cell? ⟨w.heap.size + 1, 2, none⟩ = some (.slice none 0 0) := Blk.cell P.1 2
  refine bodyPost_ret (v := .tuple #[.agg #[.int .i64 0, .int .i64 0, .slice none 0 0], .int .i64 3]) (by simp [results, Tryz.results11, go_sem, c0', c1', c2']) rfl ?_
  exact ⟨none, 0, w.heap.size, rfl, Nat.le_refl _, Nat.le_refl _, Or.inl rfl, Blk.keep (unhide R3).1 P.2 (blk_ne (unhide R3).1 (unhide R3).2.2 (by decide +kernel)), (unhide R3).2.1.new P.2 (by omega)⟩

set_option maxRecDepth 20000 in
set_option maxHeartbeats 4000000 in
theorem polyFlow_arg (U : Nat) (c0 : Bool) (n0 : Int) (hn0 : 0 ≤ n0 ∧ n0 < 100000000000000000) (n b o cap : Nat) (t : Int) (A Z : Nat → Int) (hn : 1 ≤ n ∧ n ≤ 12) (hup : upTo A n n = false) (w : World) (h : UC U c0 n0 w) (za : ∀ j, j < n * n → w.cell? ⟨b, o + j, none⟩ = some (.int .i64 (A j))) (hb : b ≠ U) :
    Calls Tryz.prog 11 #[.pointer (some ⟨U, 0, none⟩), .agg #[.int .i64 n, .int .i64 n, .slice (some ⟨b, o, none⟩) (n * n) cap], .int .i64 t] w fun e w' => ValP 0 0 0 Z 2 (fun w' => UC U c0 n0 w' ∧ Mk U w w') w e w' := by
  have SQ := hide (fun w => polySquare n n (some ⟨b, o, none⟩) (n * n) cap w)
  rw [sqB_yes (sqA_of hn)] at SQ
  have UPP : Hid (∀ wx, Mk U w wx → Calls Tryz.prog 17 #[.agg #[.int .i64 n, .int .i64 n, .slice (some ⟨b, o, none⟩) (n * n) cap]] wx fun e w' => e = .returned (.bool false) ∧ Grown wx w') := fun wx m => by
    have := polyUpper_ok n b o cap A hn wx (fun j hj => m.cell (za j hj) hb)
    rwa [hup] at this
  have G : Grown w ((w.alloc (.cells #[.int .i64 n, .int .i64 n, .slice (some ⟨b, o, none⟩) (n * n) cap] 24)).alloc (.cells #[.int .i64 0, .int .i64 0, .slice none 0 0] 24)) := ((Grown.refl _).alloc _ _).alloc _ _
  have HB : Hid (Blk w.heap.size #[.int .i64 n, .int .i64 n, .slice (some ⟨b, o, none⟩) (n * n) cap] 24 ((w.alloc (.cells #[.int .i64 n, .int .i64 n, .slice (some ⟨b, o, none⟩) (n * n) cap] 24)).alloc (.cells #[.int .i64 0, .int .i64 0, .slice none 0 0] 24)) ∧ Blk (w.heap.size + 1) #[.int .i64 0, .int .i64 0, .slice none 0 0] 24 ((w.alloc (.cells #[.int .i64 n, .int .i64 n, .slice (some ⟨b, o, none⟩) (n * n) cap] 24)).alloc (.cells #[.int .i64 0, .int .i64 0, .slice none 0 0] 24))) := ⟨Blk.grown (Blk.new w _ _) ((Grown.refl _).alloc _ _), blk_new2 w _ _ _⟩
  have HG := hide (And.intro G (And.intro (Blk.grown h G) (And.intro hn0 (Blk.lt h))))
  generalize n * n = nn at *
  clear G h hb hn0 za hup hn
  go_enter Tryz.func11, Tryz.ntmps11
  go_wp2_with fail
  generalize (w.alloc (.cells #[.int .i64 n, .int .i64 n, .slice (some ⟨b, o, none⟩) nn cap] 24)).alloc (.cells #[.int .i64 0, .int .i64 0, .slice none 0 0] 24) = w1 at *
  refine (unhide SQ _).mono ?_
  rintro e w2 ⟨rfl, g2⟩
  have RF := hide (polyRefuse U c0 n0 ⟨(unhide HG).2.2.1.1, by have := (unhide HG).2.2.1.2; omega⟩ true w2 (Blk.grown (unhide HG).2.1 g2))
  have G2 := hide g2
  clear g2 SQ
  go_wp2_with fail
  refine (unhide RF).mono ?_
  rintro e w3 ⟨rfl, u3, m3⟩
  have lU := (unhide HG).2.2.2
  have b3 := Blk.keep (Blk.grown (unhide HB).1 (unhide G2)) m3 (by omega)
  have r3 := Blk.keep (Blk.grown (unhide HB).2 (unhide G2)) m3 (by omega)
  have M3 : Mk U w w3 := (Mk.kp (Kp.of (gtrans (unhide HG).1 (unhide G2)))).trans (Mk.of m3)
  have x0 : w3.cell? ⟨w.heap.size, 0, none⟩ = some (.int .i64 n) := Blk.cell b3 0
  have x1 : w3.cell? ⟨w.heap.size, 1, none⟩ = some (.int .i64 n) := Blk.cell b3 1
  have x2 : w3.cell? ⟨w.heap.size, 2, none⟩ = some (.slice (some ⟨b, o, none⟩) nn cap) := Blk.cell b3 2
  have S3 := hide (And.intro u3 (And.intro M3 r3))
  simp only [errB, if_true]
  clear u3 m3 b3 r3 M3 RF lU
  go_wp2_with fail
  refine (unhide UPP _ (unhide S3).2.1).mono ?_
  rintro e w4 ⟨rfl, g4⟩
  have b4 := Blk.grown (unhide S3).2.2 g4
  have e0 : w4.cell? ⟨w.heap.size + 1, 0, none⟩ = some (.int .i64 0) := Blk.cell b4 0
  have e1 : w4.cell? ⟨w.heap.size + 1, 1, none⟩ = some (.int .i64 0) := Blk.cell b4 1
  have e2 : w4.cell? ⟨w.heap.size + 1, 2, none⟩ = some (.slice none 0 0) := Blk.cell b4 2
  have f := Blk.free b4
  have R3 := hide (And.intro (Blk.grown (unhide S3).1 g4) (And.intro ((unhide S3).2.1.grown g4) b4))
  clear g4 S3 x0 x1 x2 UPP b4 HB HG G2
  go_wp2
  have P := putM (unhide R3).2.2 (.int .i64 0) (.int .i64 0) (.slice none 0 0)
  generalize (((w4.setCell ⟨w.heap.size + 1, 0, none⟩ (.int .i64 0)).setCell ⟨w.heap.size + 1, 1, none⟩ (.int .i64 0)).setCell ⟨w.heap.size + 1, 2, none⟩ (.slice none 0 0)) = wE at *
  have c0' : wE.cell? ⟨w.heap.size + 1, 0, none⟩ = some (.int .i64 0) := Blk.cell P.1 0
  have c1' : wE.cell? ⟨w.heap.size + 1, 1, none⟩ = some (.int .i64 0) := Blk.cell P.1 1
  have c2' : wE.cell? ⟨w.heap.size + 1, 2, none⟩ = some (.slice none 0 0) := Blk.cell P.1 2
  refine bodyPost_ret (v := .tuple #[.agg #[.int .i64 0, .int .i64 0, .slice none 0 0], .int .i64 2]) (by simp [results, Tryz.results11, go_sem, c0', c1', c2']) rfl ?_
  exact ⟨none, 0, w.heap.size, rfl, Nat.le_refl _, Nat.le_refl _, Or.inl rfl, Blk.keep (unhide R3).1 P.2 (blk_ne (unhide R3).1 (unhide R3).2.2 (by decide +kernel)), (unhide R3).2.1.new P.2 (by omega)⟩

set_option maxRecDepth 20000 in
set_option maxHeartbeats 4000000 in
theorem polyFlow_none (p : Option Addr) (R C t : Int) (ao : Option Addr) (len cap : Nat) (Z : Nat → Int) (w : World) (h : NU p w) :
    Calls Tryz.prog 11 #[.pointer p, .agg #[.int .i64 R, .int .i64 C, .slice ao len cap], .int .i64 t] w fun e w' => ValP 0 0 0 Z 1 (Kp w) w e w' := by
  have SQ := hide (fun w => polySquare R C ao len cap w)
  generalize sqB R C len = bb at *
  have G : Grown w ((w.alloc (.cells #[.int .i64 R, .int .i64 C, .slice ao len cap] 24)).alloc (.cells #[.int .i64 0, .int .i64 0, .slice none 0 0] 24)) := ((Grown.refl _).alloc _ _).alloc _ _
  have HB : Hid (Blk (w.heap.size + 1) #[.int .i64 0, .int .i64 0, .slice none 0 0] 24 ((w.alloc (.cells #[.int .i64 R, .int .i64 C, .slice ao len cap] 24)).alloc (.cells #[.int .i64 0, .int .i64 0, .slice none 0 0] 24))) := blk_new2 w _ _ _
  have HG := hide (And.intro G (h.grown G))
  clear G h
  go_enter Tryz.func11, Tryz.ntmps11
  go_wp2_with fail
  generalize (w.alloc (.cells #[.int .i64 R, .int .i64 C, .slice ao len cap] 24)).alloc (.cells #[.int .i64 0, .int .i64 0, .slice none 0 0] 24) = w1 at *
  refine (unhide SQ _).mono ?_
  rintro e w2 ⟨rfl, g2⟩
  have RF := hide (polyRefuse_none p bb w2 ((unhide HG).2.grown g2))
  have G2 := hide (And.intro (gtrans (unhide HG).1 g2) (Blk.grown (unhide HB) g2))
  clear g2 SQ HG HB
  go_wp2_with fail
  refine (unhide RF).mono ?_
  rintro e w3 ⟨rfl, g3⟩
  have b4 := Blk.grown (unhide G2).2 g3
  have e0 : w3.cell? ⟨w.heap.size + 1, 0, none⟩ = some (.int .i64 0) := Blk.cell b4 0
  have e1 : w3.cell? ⟨w.heap.size + 1, 1, none⟩ = some (.int .i64 0) := Blk.cell b4 1
  have e2 : w3.cell? ⟨w.heap.size + 1, 2, none⟩ = some (.slice none 0 0) := Blk.cell b4 2
  have f := Blk.free b4
  have R3 := hide (And.intro (gtrans (unhide G2).1 g3) b4)
  clear g3 RF b4
  go_wp2
  have P := putM (unhide R3).2 (.int .i64 0) (.int .i64 0) (.slice none 0 0)
  generalize (((w3.setCell ⟨w.heap.size + 1, 0, none⟩ (.int .i64 0)).setCell ⟨w.heap.size + 1, 1, none⟩ (.int .i64 0)).setCell ⟨w.heap.size + 1, 2, none⟩ (.slice none 0 0)) = wE at *
  have c0' : wE.cell? ⟨w.heap.size + 1, 0, none⟩ = some (.int .i64 0) := Blk.cell P.1 0
  have c1' : wE.cell? ⟨w.heap.size + 1, 1, none⟩ = some (.int .i64 0) := Blk.cell P.1 1
  have c2' : wE.cell? ⟨w.heap.size + 1, 2, none⟩ = some (.slice none 0 0) := Blk.cell P.1 2
  refine bodyPost_ret (v := .tuple #[.agg #[.int .i64 0, .int .i64 0, .slice none 0 0], .int .i64 1]) (by simp [results, Tryz.results11, go_sem, c0', c1', c2']) rfl ?_
  exact ⟨none, 0, w.heap.size, rfl, Nat.le_refl _, Nat.le_refl _, Or.inl rfl, (Kp.of (unhide R3).1).mod P.2 (by omega)⟩

end Go.Proofs.YtopaakjildmjcaaGreat

/- The laws' helpers of, chain; what a law under way holds: a unit, lists of terms. -/
namespace Go.Proofs.YtopaakjildmjcaaGreat
open Go.RowKit Go.Shelf Go.Proofs.Wd
set_option linter.unusedVariables false
set_option linter.unusedSimpArgs false
set_option maxRecDepth 10000

section
variable {w wx w' : World} {es pre post fs : List Ob} {D E : List Nat} {p p' q : World → Prop}
/-- An object is written, and something is told in new blocks. -/
theorem ST.tellU (pre : List Ob) (h : ST w (pre ++ (D, p) :: post) fs wx) (m : MkL D wx w') (hp : p' w') (hd : DepL D p') (hn : D.Nodup) (hq : q w') (hqd : DepL E q) (hE : ∀ k ∈ E, wx.heap.size ≤ k ∧ k < w'.heap.size) : ST w (pre ++ (D, p') :: post) ((E, q) :: fs) w' := by
  refine (h.mk pre m hp hd hn (fun k hk => Or.inl hk)).fact hq hqd (fun k hk => ⟨(hE k hk).2, fun hb => ?_⟩)
  rw [blks_mid] at hb
  have := (h.2.2.2.1 k (by rw [blks_mid]; exact hb)).2
  have := (hE k hk).1
  omega
theorem ST.upd (pre : List Ob) (h : ST w (pre ++ (D, p) :: post) fs wx) (m : MkL D wx w') (hp : p' w') (hd : DepL D p') (hn : D.Nodup) : ST w (pre ++ (D, p') :: post) fs w' := h.mk pre m hp hd hn (fun k hk => Or.inl hk)
/-- A new object beside one that is written. -/
theorem ST.pushU (pre : List Ob) (h : ST w (pre ++ (D, p) :: post) fs wx) (m : MkL D wx w') (hp : p' w') (hd : DepL D p') (hn : D.Nodup) (hq : q w') (hqd : DepL E q) (hEn : E.Nodup) (hE : ∀ k ∈ E, wx.heap.size ≤ k ∧ k < w'.heap.size) : ST w ((E, q) :: (pre ++ (D, p') :: post)) fs w' := by
  have h2 := h.mk pre m hp hd hn (fun k hk => Or.inl hk)
  obtain ⟨a1, a2, a3, a4, a5⟩ := h2
  have hb : ∀ k ∈ blksOf (pre ++ (D, p') :: post), k < wx.heap.size := fun k hk => by
    rw [blks_mid] at hk
    exact (h.2.2.2.1 k (by rw [blks_mid]; exact hk)).2
  have e : blksOf ((E, q) :: (pre ++ (D, p') :: post)) = E ++ blksOf (pre ++ (D, p') :: post) := rfl
  refine ⟨a1, fun c hc => ?_, ?_, fun k hk => ?_, fun f hf => ⟨(a5 f hf).1, (a5 f hf).2.1, fun k hk => ⟨((a5 f hf).2.2 k hk).1, fun hx => ?_⟩⟩⟩
  · rcases List.mem_cons.1 hc with rfl | hc
    · exact ⟨hq, hqd⟩
    · exact a2 c hc
  · rw [e]
    exact List.nodup_append.2 ⟨hEn, a3, fun a ha b hb' e => by have := hb b hb'; have := (hE a ha).1; omega⟩
  · rw [e] at hk
    rcases List.mem_append.1 hk with hk | hk
    · exact ⟨Nat.le_trans h.1.2.2.2 (hE k hk).1, (hE k hk).2⟩
    · exact a4 k hk
  · rw [e] at hx
    rcases List.mem_append.1 hx with hx | hx
    · have h0 : ∀ i ∈ f.1, i < wx.heap.size := fun i hi => by
        have := (h.2.2.2.2 f hf).2.2 i hi
        exact this.1
      have := h0 k hk
      have := (hE k hx).1
      omega
    · exact ((a5 f hf).2.2 k hk).2 hx
end

/-- A unit under way. -/
def UO (U : Nat) (P : Bool → Prop) (d : Int) (wx : World) : Prop := ∃ c n, P c ∧ 0 ≤ n ∧ n ≤ d ∧ UC U c n wx
theorem uo_dep (U : Nat) (P : Bool → Prop) (d : Int) : DepL [U] (UO U P d) := fun w w' h ⟨c, n, h1, h2, h3, h4⟩ => ⟨c, n, h1, h2, h3, (h U (by simp)).trans h4⟩
theorem own_depL (B len : Nat) (Z : Nat → Int) : DepL [B] (Own B len Z) := fun w w' h ⟨cur, h1, h2⟩ => ⟨cur, (h B (by simp)).trans h1, h2⟩
theorem Own.lt {B len : Nat} {Z : Nat → Int} {w : World} (h : Own B len Z w) : B < w.heap.size := let ⟨_, h1, _⟩ := h; Blk.lt h1
theorem Own.setK {B len : Nat} {Z : Nat → Int} {w : World} (h : Own B len Z w) (k : Nat) (v : Int) (hk : k < len) : Own B len (fun i => if i = k then v else Z i) (w.setCell ⟨B, k, none⟩ (.int .i64 v)) := by
  obtain ⟨cur, h1, h2⟩ := h
  refine ⟨_, Blk.set h1 k _, fun i hi => ?_⟩
  rw [Array.getElem?_setIfInBounds]
  by_cases e : k = i
  · subst e
    have : k < cur.size := by
      have := h2 k hk
      rcases Nat.lt_or_ge k cur.size with h | h
      · exact h
      · rw [Array.getElem?_eq_none (by omega)] at this; cases this
    simp [this]
  · rw [if_neg e]
    show cur[i]? = some (.int .i64 (if i = k then v else Z i))
    rw [if_neg (Ne.symm e), h2 i hi]
/-- A list of terms. -/
def fTerms (base Lb n nn m : Nat) (A : Nat → Int) (l : List (Nat × Nat)) : Ob := (Lb :: l.map Prod.fst, fun w => MLs w base (.slice (some ⟨Lb, 0, none⟩) m m) (listT n nn A l) ∧ TSq base n nn A l w)
theorem terms_dep (base Lb n nn m : Nat) (A : Nat → Int) (l : List (Nat × Nat)) : DepL (Lb :: l.map Prod.fst) (fun w => MLs w base (.slice (some ⟨Lb, 0, none⟩) m m) (listT n nn A l) ∧ TSq base n nn A l w) := fun w w' h ⟨h1, h2⟩ =>
  ⟨h1.blk fun g cs e _ hb => (h g (by cases e; simp)).trans hb, h2.of2 fun y hy cs _ hb => (h y.1 (List.mem_cons_of_mem _ (List.mem_map_of_mem hy))).trans hb⟩
/-- Numbers at the beginning of a block that the call made. -/
def OwnM (r : Int) (n : Nat) (Z : Nat → Int) (w : World) (e : Ending) (w' : World) : Prop := ∃ B cap, e = .returned (.agg #[.int .i64 r, .int .i64 r, .slice (some ⟨B, 0, none⟩) n cap]) ∧ n ≤ cap ∧ w.heap.size ≤ B ∧ Own B n Z w' ∧ Kp w w'

set_option maxRecDepth 20000 in
set_option maxHeartbeats 4000000 in
theorem lawOfP (r : Int) (ao : Option Addr) (n cap : Nat) (L : Nat → Int) (h1n : 1 ≤ n) (hn : n ≤ 1000000) (hL : Hid (∀ i, i < n → -1000000 ≤ L i ∧ L i ≤ 1000000)) (w : World) (hr : Row w ao n L) :
    Calls Tryz.prog 23 #[.int .i64 r, .slice ao n cap] w fun e w' => OwnM r n (fun i => L i * 4294967296) w e w' := by
  obtain ⟨Z, hZ⟩ : ∃ Z, Z = fun i => L i * 4294967296 := ⟨_, rfl⟩
  rw [← hZ]
  have EZ : Hid (∀ i, Z i = L i * 4294967296) := fun i => by rw [hZ]
  have G : Grown w ((w.alloc (.cells #[.int .i64 0, .int .i64 0, .slice none 0 0] 24)).alloc (.cells #[.int .i64 r, .int .i64 r, .slice none 0 0] 24)) := ((Grown.refl _).alloc _ _).alloc _ _
  have ST : Hid (OfI w r r Z 0 (.slice none 0 0) ((w.alloc (.cells #[.int .i64 0, .int .i64 0, .slice none 0 0] 24)).alloc (.cells #[.int .i64 r, .int .i64 r, .slice none 0 0] 24))) :=
    ⟨World.ownsRow_nil _ _ _ _, Blk.grown (Blk.new w _ _) ((Grown.refl _).alloc _ _), blk_new2 w _ _ _, Kp.of G, by simp⟩
  have HR := hide hr
  clear hZ G hr
  go_enter Tryz.func23, Tryz.ntmps23
  go_wp2_with fail
  generalize (w.alloc (.cells #[.int .i64 0, .int .i64 0, .slice none 0 0] 24)).alloc (.cells #[.int .i64 r, .int .i64 r, .slice none 0 0] 24) = w1 at *
  go_loopw [6] (fun i wr => ∃ k : Nat, k ≤ n ∧ i = .int .i64 k ∧ Hid (∃ v, OfI w r r Z k v wr)) (fun i _ => n - (intOf i).toNat)
  case atStart => exact ⟨0, Nat.zero_le _, rfl, _, unhide ST⟩
  case round =>
    obtain ⟨k, hk, rfl, HI⟩ := hrel
    by_cases hlt : k < n
    · obtain ⟨v, hI⟩ := unhide HI
      obtain ⟨b, o, rfl, hc0⟩ := ((unhide HR).kp hI.2.2.2.1).at hlt
      obtain ⟨x, ex⟩ : ∃ x, L k = x := ⟨_, rfl⟩
      rw [ex] at hc0
      have xb := unhide hL k hlt
      rw [ex] at xb
      have EK : Hid (Z k = x * 4294967296) := by rw [← ex]; exact unhide EZ k
      have wx : IntKind.i64.wrap (x * 4294967296) = x * 4294967296 := by rw [IntKind.wrap_i64]; omega
      have y2 : wr.cell? ⟨w.heap.size + 1, 2, none⟩ = some v := Blk.cell hI.2.2.1 2
      have GA : Hid (Grown wr.drew (wr.drew.alloc (.cells #[.int .i64 (x * 4294967296)] 3))) := (Grown.refl _).alloc _ _
      have A2 : Hid ((wr.drew.alloc (.cells #[.int .i64 (x * 4294967296)] 3)).ownsRow (w.heap.size + 1 + 1) 3 1 v k (intL k Z) ∧ (wr.drew.alloc (.cells #[.int .i64 (x * 4294967296)] 3)).cell? ⟨wr.heap.size, 0, none⟩ = some (.int .i64 (x * 4294967296)) ∧ w.heap.size + 1 + 1 ≤ (wr.drew.alloc (.cells #[.int .i64 (x * 4294967296)] 3)).heap.size) := by
        refine ⟨(show wr.drew.ownsRow _ _ _ _ _ _ from hI.1).alloc _, Blk.cell (Blk.new wr.drew _ _) 0, ?_⟩
        have := hI.2.2.2.2
        simp
        omega
      have HH : Hid (OfI w r r Z k v wr.drew) := hI
      have hk1 : k ≤ 1000000 := by omega
      have i0 : (0 : Int) ≤ (k : Int) := by omega
      have i1 : (k : Int) < (n : Int) := by omega
      have hz1 : b < wr.heap.size := heap_gt hc0
      have hz2 : w.heap.size + 1 < wr.heap.size := heap_gt y2
      have hz3 : b ≠ w.heap.size + 1 ∨ True := Or.inr trivial
      clear hI HI ex xb hz3
      go_wp2
      go_region_law (refine step_append_one rfl (.tmp 17) (.tmp 23) rfl (w.heap.size + 1 + 1) k v Z (x * 4294967296) (unhide EK) wr.heap.size (by first | rfl | simp [Act.eval, Act.put]) (by first | rfl | simp [Act.eval, Act.put]) (unhide A2).1 (unhide A2).2.1 hk1 (unhide A2).2.2 ?_; intro v' w4 hg4; obtain ⟨g', cap', rfl⟩ := ownsRow_succ (unhide hg4).1; have P := OfI.app (unhide HH) (unhide GA) (unhide A2).1 (unhide hg4); have q2 : w4.cell? ⟨w.heap.size + 1, 2, none⟩ = some v := (Blk.cell P.1 2); have q3 := Blk.free P.1 2; have HP := hide P.2; clear P hg4)
      all_goals go_wp2
      all_goals go_roundw
      all_goals first | exact ⟨k + 1, by omega, by go_num, _, unhide HP⟩ | (simp [intOf]; omega)
    · obtain rfl : k = n := by omega
      obtain ⟨v, h0, h2, hM, h5, h6⟩ := unhide HI
      obtain ⟨B2, cap2, rfl, h1, h3, h4⟩ := owns_ownC h1n h0
      have y0 : wr.cell? ⟨w.heap.size + 1, 0, none⟩ = some (.int .i64 r) := Blk.cell hM 0
      have y1 : wr.cell? ⟨w.heap.size + 1, 1, none⟩ = some (.int .i64 r) := Blk.cell hM 1
      have y2 : wr.cell? ⟨w.heap.size + 1, 2, none⟩ = some (.slice (some ⟨B2, 0, none⟩) k cap2) := Blk.cell hM 2
      have e0 : wr.cell? ⟨w.heap.size, 0, none⟩ = some (.int .i64 0) := Blk.cell h2 0
      have e1 : wr.cell? ⟨w.heap.size, 1, none⟩ = some (.int .i64 0) := Blk.cell h2 1
      have e2 : wr.cell? ⟨w.heap.size, 2, none⟩ = some (.slice none 0 0) := Blk.cell h2 2
      have f := Blk.free h2
      have R := hide (And.intro h2 (And.intro h1 (And.intro h3 (And.intro h4 h5))))
      clear h0 h2 hM h1 h3 h4 h5 h6 HI
      go_wp2
      obtain ⟨h2, h1, h3, h4, h5⟩ := unhide R
      have P := putM h2 (.int .i64 r) (.int .i64 r) (.slice (some ⟨B2, 0, none⟩) k cap2)
      generalize (((wr.setCell ⟨w.heap.size, 0, none⟩ (.int .i64 r)).setCell ⟨w.heap.size, 1, none⟩ (.int .i64 r)).setCell ⟨w.heap.size, 2, none⟩ (.slice (some ⟨B2, 0, none⟩) k cap2)) = wE at *
      have c0 : wE.cell? ⟨w.heap.size, 0, none⟩ = some (.int .i64 r) := Blk.cell P.1 0
      have c1 : wE.cell? ⟨w.heap.size, 1, none⟩ = some (.int .i64 r) := Blk.cell P.1 1
      have c2 : wE.cell? ⟨w.heap.size, 2, none⟩ = some (.slice (some ⟨B2, 0, none⟩) k cap2) := Blk.cell P.1 2
      refine bodyPost_ret (v := .agg #[.int .i64 r, .int .i64 r, .slice (some ⟨B2, 0, none⟩) k cap2]) (by simp [results, Tryz.results23, go_sem, c0, c1, c2]) rfl ?_
      exact ⟨B2, cap2, rfl, h1, by omega, h4.mk (Mk.of P.2) (by omega), h5.mod P.2 (Nat.le_refl _)⟩


/-- A list that is written out, and the matrix of it. -/
theorem lawOfPL (l : List Int) (n : Nat) (hl : l.length = n) (h1 : 1 ≤ n) (hn : n ≤ 1000000) (h : ∀ x ∈ l, -1000000 ≤ x ∧ x ≤ 1000000) (r : Int) (b cap : Nat) (w : World) (hb : Blk b (l.map (Value.int .i64)).toArray 3 w) :
    Calls Tryz.prog 23 #[.int .i64 r, .slice (some ⟨b, 0, none⟩) n cap] w fun e w' => OwnM r n (oneL l) w e w' := by
  subst hl
  exact lawOfP r _ _ cap (ix l) h1 hn (lits_small h) w (row_lit hb)

def chainL : List Int := [0, 1, 0, 0, 0, 1, 0, 0, 0]
set_option maxRecDepth 20000 in
set_option maxHeartbeats 2000000 in
theorem lawChain (w : World) : Calls Tryz.prog 22 #[] w fun e w' => OwnM 3 9 (oneL chainL) w e w' := by
  have G : Grown w (((w.alloc (.cells #[.int .i64 0, .int .i64 0, .slice none 0 0] 24)).alloc (.cells #[.int .i64 0, .int .i64 1, .int .i64 0, .int .i64 0, .int .i64 0, .int .i64 1, .int .i64 0, .int .i64 0, .int .i64 0] 3))) := ((Grown.refl _).alloc _ _).alloc _ _
  have br : Blk w.heap.size #[.int .i64 0, .int .i64 0, .slice none 0 0] 24 (((w.alloc (.cells #[.int .i64 0, .int .i64 0, .slice none 0 0] 24)).alloc (.cells #[.int .i64 0, .int .i64 1, .int .i64 0, .int .i64 0, .int .i64 0, .int .i64 1, .int .i64 0, .int .i64 0, .int .i64 0] 3))) := Blk.grown (Blk.new w _ _) ((Grown.refl _).alloc _ _)
  have O1 := hide (lawOfPL chainL 9 rfl (by omega) (by omega) (by decide) 3 (w.heap.size + 1) 9 _ (blk_new2 w (.cells #[.int .i64 0, .int .i64 0, .slice none 0 0] 24) #[.int .i64 0, .int .i64 1, .int .i64 0, .int .i64 0, .int .i64 0, .int .i64 1, .int .i64 0, .int .i64 0, .int .i64 0] 3))
  have HB := hide (And.intro G br)
  clear G br
  go_enter Tryz.func22, Tryz.ntmps22
  go_wp2_with fail
  generalize ((w.alloc (.cells #[.int .i64 0, .int .i64 0, .slice none 0 0] 24)).alloc (.cells #[.int .i64 0, .int .i64 1, .int .i64 0, .int .i64 0, .int .i64 0, .int .i64 1, .int .i64 0, .int .i64 0, .int .i64 0] 3)) = w1 at *
  refine (unhide O1).mono ?_
  rintro e w2 ⟨B, cap, rfl, hc, hB, own, k⟩
  have b2 := Blk.kp (unhide HB).2 k
  have e0 : w2.cell? ⟨w.heap.size, 0, none⟩ = some (.int .i64 0) := Blk.cell b2 0
  have e1 : w2.cell? ⟨w.heap.size, 1, none⟩ = some (.int .i64 0) := Blk.cell b2 1
  have e2 : w2.cell? ⟨w.heap.size, 2, none⟩ = some (.slice none 0 0) := Blk.cell b2 2
  have f := Blk.free b2
  have R := hide (And.intro b2 (And.intro hc (And.intro hB (And.intro own k))))
  clear b2 hc hB own k O1
  go_wp2
  obtain ⟨b2, hc, hB, own, k⟩ := unhide R
  have lb := Blk.lt (unhide HB).2
  have P := putM b2 (.int .i64 3) (.int .i64 3) (.slice (some ⟨B, 0, none⟩) 9 cap)
  generalize (((w2.setCell ⟨w.heap.size, 0, none⟩ (.int .i64 3)).setCell ⟨w.heap.size, 1, none⟩ (.int .i64 3)).setCell ⟨w.heap.size, 2, none⟩ (.slice (some ⟨B, 0, none⟩) 9 cap)) = wE at *
  have c0 : wE.cell? ⟨w.heap.size, 0, none⟩ = some (.int .i64 3) := Blk.cell P.1 0
  have c1 : wE.cell? ⟨w.heap.size, 1, none⟩ = some (.int .i64 3) := Blk.cell P.1 1
  have c2 : wE.cell? ⟨w.heap.size, 2, none⟩ = some (.slice (some ⟨B, 0, none⟩) 9 cap) := Blk.cell P.1 2
  refine bodyPost_ret (v := .agg #[.int .i64 3, .int .i64 3, .slice (some ⟨B, 0, none⟩) 9 cap]) (by simp [results, Tryz.results22, go_sem, c0, c1, c2]) rfl ?_
  exact ⟨B, cap, rfl, hc, by omega, own.mk (Mk.of P.2) (by omega), ((Kp.of (unhide HB).1).trans k).mod P.2 (Nat.le_refl _)⟩

end Go.Proofs.YtopaakjildmjcaaGreat

/- The laws' helper awake: some of the chapter's examples. -/
namespace Go.Proofs.YtopaakjildmjcaaGreat
open Go.RowKit Go.Shelf Go.Proofs.Wd
set_option linter.unusedVariables false
set_option linter.unusedSimpArgs false
set_option maxRecDepth 10000
attribute [local go_sem ↓] Go.wp_at_zero Go.wp_at_succ

def flowL : List Int := [1, 4, 8, 0, 1, 4, 0, 0, 1]
theorem chain_up : upTo (oneL chainL) 3 3 = true := by decide +kernel
theorem chain_flow : ∀ i, i < 9 → flowZ (oneL chainL) 3 17179869184 i = oneL flowL i := by decide +kernel
theorem chain_I64 : ∀ i, i < 9 → I64 (oneL chainL i) := oneL_I64 (l := chainL) (by decide)
theorem chain_upO : upO 3 3 9 (oneL chainL) = true := by
  unfold upO
  rw [if_pos (show sqA 3 3 9 from sqA_of (n := 3) (by omega))]
  exact chain_up
/-- The flow of the chapter's J. -/
theorem chainFlow (U : Nat) (c0 : Bool) (n0 : Int) (hn0 : 0 ≤ n0 ∧ n0 < 100000000000000000) (B cap : Nat) (hc : 9 ≤ cap) (w : World) (h : UC U c0 n0 w) (own : Own B 9 (oneL chainL) w) :
    Calls Tryz.prog 11 #[.pointer (some ⟨U, 0, none⟩), .agg #[.int .i64 3, .int .i64 3, .slice (some ⟨B, 0, none⟩) 9 cap], .int .i64 17179869184] w fun e w' => ValP 3 3 9 (oneL flowL) 0 (fun w' => UW U (c0 || flowC (oneL chainL) 3 17179869184) n0 200000 w' ∧ Mk U w w') w e w' := by
  have bU : B ≠ U := by
    obtain ⟨cur, h1, _⟩ := own
    exact blk_ne h1 h (by decide +kernel)
  refine (polyFlow_ok U 3 B 0 cap c0 n0 17179869184 (by unfold I64; omega) hn0 (oneL chainL) (by omega) hc chain_I64 chain_up w h (fun j hj => by
    obtain ⟨cur, h1, h2⟩ := own
    rw [Nat.zero_add, Blk.cell h1, h2 j hj]) bU).mono ?_
  rintro e w' ⟨ao, cap2, B2, rfl, h1, h2, h3, h4⟩
  exact ⟨ao, cap2, B2, rfl, h1, h2, h3.imp id fun h => ⟨h.1, h.2.congr chain_flow⟩, h4⟩

set_option maxRecDepth 20000 in
set_option maxHeartbeats 4000000 in
theorem lawPolyAwake (w : World) : Calls Tryz.prog 7 #[] w fun e w' => e = .returned (.bool true) ∧ Kp w w' := by
  have N1 := hide (unitNew w)
  go_enter Tryz.func7, Tryz.ntmps7
  go_wp2_with fail
  refine (unhide N1).mono ?_
  rintro e w1 ⟨rfl, h1, g1⟩
  have S1 := hide (And.intro h1 (Kp.of g1))
  clear h1 g1 N1
  go_wp2_with fail
  refine (lawChain w1).mono ?_
  rintro e w2 ⟨B, cap, rfl, hc, hB, own, k2⟩
  have F2 := hide (chainFlow w.heap.size false 0 ⟨by omega, by omega⟩ B cap hc w2 (Blk.kp (unhide S1).1 k2) own)
  have K2 : Hid (Kp w w2) := (unhide S1).2.trans k2
  clear own hc hB k2 S1
  go_wp2_with fail
  refine (unhide F2).mono ?_
  rintro e w3 ⟨_, cf, Bf, rfl, hcf, hBf, hof, hu, m3⟩
  obtain ⟨rfl, hown⟩ := hof.resolve_left (by omega)
  have K3 : Kp w w3 := (unhide K2).mk m3 (Nat.le_refl _)
  have S3 : Hid (Kp w (w3.alloc (.cells #[.int .i64 3, .int .i64 3, .slice (some ⟨Bf, 0, none⟩) 9 cf] 24)) ∧ Row (w3.alloc (.cells #[.int .i64 3, .int .i64 3, .slice (some ⟨Bf, 0, none⟩) 9 cf] 24)) (some ⟨Bf, 0, none⟩) 9 (oneL flowL) ∧ Blk w3.heap.size #[.int .i64 3, .int .i64 3, .slice (some ⟨Bf, 0, none⟩) 9 cf] 24 (w3.alloc (.cells #[.int .i64 3, .int .i64 3, .slice (some ⟨Bf, 0, none⟩) 9 cf] 24))) := ⟨K3.alloc _ _, hown.row.grown ((Grown.refl _).alloc _ _), Blk.new _ _ _⟩
  clear hcf hBf hof hown hu m3 K3 K2 F2
  go_wp2_with fail
  generalize w3.alloc (.cells #[.int .i64 3, .int .i64 3, .slice (some ⟨Bf, 0, none⟩) 9 cf] 24) = w4 at *
  generalize w3.heap.size = Fx at *
  have CW : Hid (∀ wx, Kp w4 wx → wx.cell? ⟨Fx, 0, none⟩ = some (.int .i64 3) ∧ wx.cell? ⟨Fx, 1, none⟩ = some (.int .i64 3) ∧ wx.cell? ⟨Fx, 2, none⟩ = some (.slice (some ⟨Bf, 0, none⟩) 9 cf)) := fun wx k => ⟨Blk.cell (Blk.kp (unhide S3).2.2 k) 0, Blk.cell (Blk.kp (unhide S3).2.2 k) 1, Blk.cell (Blk.kp (unhide S3).2.2 k) 2⟩
  obtain ⟨x0, x1, x2⟩ := unhide CW w4 (Kp.refl _)
  have hxa := heap_gt x0
  have KD : Hid (Kp w4 (w4.alloc (.cells #[.int .i64 1, .int .i64 4, .int .i64 8, .int .i64 0, .int .i64 1, .int .i64 4, .int .i64 0, .int .i64 0, .int .i64 1] 3)).drew) := (show Kp w4 (w4.alloc (.cells #[.int .i64 1, .int .i64 4, .int .i64 8, .int .i64 0, .int .i64 1, .int .i64 4, .int .i64 0, .int .i64 0, .int .i64 1] 3)) from (Kp.refl _).alloc _ _)
  have T1 : Hid (Calls Tryz.prog 23 #[.int .i64 3, .slice (some ⟨w4.heap.size, 0, none⟩) 9 9] (w4.alloc (.cells #[.int .i64 1, .int .i64 4, .int .i64 8, .int .i64 0, .int .i64 1, .int .i64 4, .int .i64 0, .int .i64 0, .int .i64 1] 3)).drew fun e w' => OwnM 3 9 (oneL flowL) (w4.alloc (.cells #[.int .i64 1, .int .i64 4, .int .i64 8, .int .i64 0, .int .i64 1, .int .i64 4, .int .i64 0, .int .i64 0, .int .i64 1] 3)).drew e w') := lawOfPL flowL 9 rfl (by omega) (by omega) (by decide) 3 w4.heap.size 9 _ (show Blk w4.heap.size #[.int .i64 1, .int .i64 4, .int .i64 8, .int .i64 0, .int .i64 1, .int .i64 4, .int .i64 0, .int .i64 0, .int .i64 1] 3 (w4.alloc (.cells #[.int .i64 1, .int .i64 4, .int .i64 8, .int .i64 0, .int .i64 1, .int .i64 4, .int .i64 0, .int .i64 0, .int .i64 1] 3)).drew from Blk.new w4 _ _)
  go_region_held3 (fun w' => w'.cell? ⟨Fx, 0, none⟩ = some (.int .i64 3) ∧ w'.cell? ⟨Fx, 1, none⟩ = some (.int .i64 3) ∧ w'.cell? ⟨Fx, 2, none⟩ = some (.slice (some ⟨Bf, 0, none⟩) 9 cf))
      (simp [go_sem, *])
      (first
        | (go_at_call 23; refine (unhide T1).mono ?_; clear T1; rintro e w5 ⟨B5, c5, rfl, _, _, own5, k5⟩; have K5 : Hid (Kp w4 w5) := ((unhide KD).trans k5); have R5 := hide own5.row; obtain ⟨y0, y1, y2⟩ := unhide CW w5 (unhide K5); have hya := heap_gt y0; clear own5 k5 KD)
        | (go_at_call 14; refine (kitSameM 3 3 (some ⟨Bf, 0, none⟩) (some ⟨B5, 0, none⟩) 9 cf c5 (oneL flowL) (by omega) _ ((unhide S3).2.1.kp (unhide K5)) (unhide R5)).mono ?_; clear R5; rintro e w6 ⟨rfl, k6⟩; have K6 : Hid (Kp w4 w6) := ((unhide K5).trans k6); obtain ⟨z0, z1, z2⟩ := unhide CW w6 (unhide K6); have hza := heap_gt z0; clear k6)
        | (go_at_call 22; refine (lawChain _).mono ?_; rintro e w7 ⟨B7, c7, rfl, _, _, own7, k7⟩; have K7 : Hid (Kp w4 w7) := ((unhide K6).trans k7); have R7 := hide own7.row; obtain ⟨v0, v1, v2⟩ := unhide CW w7 (unhide K7); have hva := heap_gt v0; clear own7 k7)
        | (go_at_call 17; refine (polyUpper 3 3 (some ⟨B7, 0, none⟩) 9 c7 (oneL chainL) _ (unhide R7)).mono ?_; clear R7; rintro e w8 ⟨rfl, g8⟩; have K8 : Hid (Kp w4 w8) := ((unhide K7).grown g8); obtain ⟨t0, t1, t2⟩ := unhide CW w8 (unhide K8); have hta := heap_gt t0; rw [chain_upO]; clear g8))
  go_wp2
  go_ret
  exact ⟨rfl, (unhide S3).1.trans (unhide K8)⟩

end Go.Proofs.YtopaakjildmjcaaGreat
