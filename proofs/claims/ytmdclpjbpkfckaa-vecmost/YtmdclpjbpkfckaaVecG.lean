/- VecKnown: the chapter's examples. -/
import Derived.Test.YtmdclpjbpkfckaaVecF
namespace Go.Proofs.Ytmdclpjbpkfckaa
open Go.RowKit Go.Proofs.Wd
set_option linter.unusedVariables false
set_option linter.unusedSimpArgs false

set_option maxHeartbeats 4000000 in
theorem lawVecKnown (w : World) : Calls Try.prog 5 #[] w fun e w' => e = .returned (.bool true) ∧ Kp w w' := by
  have N1 := hide (unitNew w)
  have hU := Nat.le_refl w.heap.size
  generalize e : w.heap.size = U at N1 hU
  replace hU : w.heap.size ≤ U := by omega
  have HE := hide hU
  clear e hU
  go_enter Try.func5, Try.ntmps5
  go_wp2_with fail
  refine (unhide N1).mono ?_
  rintro e w1 ⟨rfl, h1, g1⟩
  have S1 : Hid (UC U false 0 w1 ∧ Kp w w1) := ⟨h1, Kp.of g1⟩
  have hlt := Blk.lt h1
  have HL := hide hlt
  clear h1 g1 N1 hlt
  go_wp2_with fail
  refine (vecDot_of _ _ _ (fun e w' => UC U false 2 w' ∧ Kp w w') 21474836480 0 _ ?_).mono ?_
  · have G : Grown w1 ((w1.alloc (.cells #[.int .i64 4294967296] 3)).alloc (.cells #[.int .i64 21474836480] 3)) := ((Grown.refl _).alloc _ _).alloc _ _
    refine (unitDot_ok U false 0 _ _ 1 1 1 (ix [4294967296]) (ix [21474836480]) ⟨by omega, by omega⟩ (by omega) ?_ ?_ _ (Blk.grown (unhide S1).1 G) ((row_lit (l := [4294967296]) (Blk.new w1 _ _)).grown ((Grown.refl _).alloc _ _)) (off_blk (by have := unhide HL; omega)) (row_lit (l := [21474836480]) (blk_new2 _ _ _ _)) (off_blk (by have := unhide HL; omega))).mono ?_
    · exact ix_I64 (l := [4294967296]) (by intro x hx; simp at hx; unfold I64; omega)
    · exact ix_I64 (l := [21474836480]) (by intro x hx; simp at hx; unfold I64; omega)
    · rintro e w' ⟨rfl, h, m⟩
      have e1 : dotN (ix [4294967296]) (ix [21474836480]) 1 = 21474836480 := by decide
      have e2 : dotC (ix [4294967296]) (ix [21474836480]) 1 = false := by decide
      rw [e2] at h
      rw [e1]
      exact ⟨rfl, h, ((unhide S1).2.grown G).mod m (unhide HE)⟩
  rintro e w2 ⟨rfl, s2⟩
  have S2 := hide s2
  have HL2 := hide (Blk.lt s2.1)
  clear s2 S1 HL
  go_wp2_with fail
  refine (vecMost_ok U false 2 _ 3 3 (ix [3, -7, 5]) (by omega) ⟨by omega, by omega⟩ ?_ _ (Blk.grown (unhide S2).1 ((Grown.refl _).alloc _ _)) (row_lit (l := [3, -7, 5]) (Blk.new w2 _ _)) (off_blk (by have := unhide HL2; omega))).mono ?_
  · exact ix_I64 (l := [3, -7, 5]) (by intro x hx; simp at hx; unfold I64; omega)
  rintro e w3 ⟨rfl, h3, m3⟩
  have S3 : Hid (UC U false 3 w3 ∧ Kp w w3) := by
    have e2 : mostC (ix [3, -7, 5]) 3 = false := by decide
    have e3 : mostK (ix [3, -7, 5]) 3 = 1 := by decide
    rw [e2, e3] at h3
    exact ⟨h3, ((unhide S2).2.grown ((Grown.refl _).alloc _ _)).mod m3 (unhide HE)⟩
  have e1 : mostN (ix [3, -7, 5]) 3 = 7 := by decide
  rw [e1]
  clear h3 m3 S2 HL2 e1
  go_wp2_with fail
  refine (vecMost_ok U false 3 none 0 0 (fun _ => 0) (by omega) ⟨by omega, by omega⟩ (fun _ h => absurd h (Nat.not_lt_zero _)) _ (unhide S3).1 (Or.inl rfl) (fun h => absurd h (Nat.lt_irrefl _))).mono ?_
  rintro e w4 ⟨rfl, h4, m4⟩
  have S4 : Hid (UC U false 3 w4 ∧ Kp w w4) := by
    have e2 : mostC (fun _ => 0) 0 = false := rfl
    have e3 : mostK (fun _ => 0) 0 = 0 := rfl
    rw [e2, e3] at h4
    exact ⟨h4, (unhide S3).2.mod m4 (unhide HE)⟩
  have e1 : mostN (fun _ => 0) 0 = 0 := rfl
  rw [e1]
  clear h4 m4 S3 e1
  go_wp2_with fail
  refine (vecSum_size U false 3 _ _ 1 1 2 2 (by omega) (by omega) (by omega) ⟨by omega, by omega⟩ _ (Blk.grown (unhide S4).1 (((Grown.refl _).alloc _ _).alloc _ _))).mono ?_
  rintro e w5 ⟨rfl, h5, m5⟩
  have S5 : Hid (UC U false 3 w5 ∧ Kp w w5) := ⟨h5, ((unhide S4).2.grown (((Grown.refl _).alloc _ _).alloc _ _)).mod m5 (unhide HE)⟩
  clear h5 m5 S4
  go_wp2_with fail
  refine (vecSum_none none none none 0 0 0 0 w5 (Or.inl rfl)).mono ?_
  rintro e w6 ⟨rfl, g6⟩
  have S6 : Hid (Kp w w6) := (unhide S5).2.grown g6
  clear g6 S5
  go_wp2_with fail
  refine (lawVecAwake w6).mono ?_
  rintro e w7 ⟨rfl, k7⟩
  have S7 : Hid (Kp w w7) := (unhide S6).trans k7
  clear k7 S6
  go_wp2
  go_ret
  exact ⟨rfl, unhide S7⟩

end Go.Proofs.Ytmdclpjbpkfckaa
