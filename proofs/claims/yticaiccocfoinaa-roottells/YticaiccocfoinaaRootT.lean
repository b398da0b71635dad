/- The document's hypotenuse, and the walk of the law RootTells: beside the document's answer. -/
import Derived.Test.YticaiccocfoinaaRootS
import Derived.Test.YticaiccocfoinaaRootE
namespace Go.Proofs.Yticaiccocfoinaa
open Go.RowKit Go.Proofs.Wd
set_option linter.unusedVariables false
set_option linter.unusedSimpArgs false

/-- The taking of a side. -/
def Tkn (a x : Int) (p : Bool) : Prop := (a = -9223372036854775808 ∧ x = -9223372036854775807 ∧ p = true) ∨ (-9223372036854775807 ≤ a ∧ x = a ∧ p = false)
theorem tkn (a : Int) (h : I64 a) : Tkn a (tk a) (nb a) := by
  by_cases c : a = -9223372036854775808
  · exact Or.inl ⟨c, by unfold tk; rw [if_pos c], by unfold nb; simpa using c⟩
  · refine Or.inr ⟨by unfold I64 at h; omega, by unfold tk; rw [if_neg c], by unfold nb; simpa using c⟩

set_option maxHeartbeats 4000000 in
theorem refHypot_core (a b x y PX PY H R : Int) (p q : Bool) (ca : Tkn a x p) (cb : Tkn b y q) (r0 : 0 ≤ R) (r1 : R < 18446744073709551616) (w : World)
    (X : Hid (∀ w, Calls Try.prog 25 #[.int .i64 x, .int .i64 x] w fun e w' => e = .returned (.agg #[.int .i64 (hiOf PX), .int .u64 (loOf PX)]) ∧ Grown w w'))
    (Y : Hid (∀ w, Calls Try.prog 25 #[.int .i64 y, .int .i64 y] w fun e w' => e = .returned (.agg #[.int .i64 (hiOf PY), .int .u64 (loOf PY)]) ∧ Grown w w'))
    (A : Hid (∀ w, Calls Try.prog 27 #[.agg #[.int .i64 (hiOf PX), .int .u64 (loOf PX)], .agg #[.int .i64 (hiOf PY), .int .u64 (loOf PY)]] w fun e w' => e = .returned (.agg #[.int .i64 (hiOf H), .int .u64 (loOf H)]) ∧ Grown w w'))
    (N : Hid (∀ w, Calls Try.prog 24 #[.agg #[.int .i64 (hiOf H), .int .u64 (loOf H)]] w fun e w' => e = .returned (.int .u64 R) ∧ Grown w w')) :
    Calls Try.prog 13 #[.int .i64 a, .int .i64 b] w fun e w' => e = .returned (.tuple #[.int .i64 (fitI R), .bool (fitB R || p || q)]) ∧ Grown w w' := by
  rcases ca with ⟨rfl, rfl, rfl⟩ | ⟨ca, rfl, rfl⟩ <;> rcases cb with ⟨rfl, rfl, rfl⟩ | ⟨cb, rfl, rfl⟩ <;> by_cases c : 9223372036854775807 < R
  · have F : fitI R = 9223372036854775807 ∧ fitB R = true := by unfold fitI fitB; rw [if_pos c]; simp; omega
    rw [F.1, F.2]
    clear F
    go_enter Try.func13, Try.ntmps13
    go_wp2_with fail
    refine (unhide X _).mono ?_
    rintro e w1 ⟨rfl, hg1⟩
    go_wp2_with fail
    refine (unhide Y _).mono ?_
    rintro e w2 ⟨rfl, hg2⟩
    have k2 : Grown w w2 := gtrans hg1 hg2
    clear hg1 hg2
    go_wp2_with fail
    refine (unhide A _).mono ?_
    rintro e w3 ⟨rfl, hg3⟩
    go_wp2_with fail
    refine (unhide N _).mono ?_
    rintro e w4 ⟨rfl, hg4⟩
    have k4 : Grown w w4 := gtrans k2 (gtrans hg3 hg4)
    clear k2 hg3 hg4
    go_wp2
    go_ret2
    exact ⟨rfl, k4⟩
  · have F := fit_inF R (by unfold Fx; omega)
    rw [F.1, F.2]
    have hw : IntKind.i64.wrap R = R := by rw [IntKind.wrap_i64]; omega
    have HW := hide hw
    clear hw
    clear F
    go_enter Try.func13, Try.ntmps13
    go_wp2_with fail
    refine (unhide X _).mono ?_
    rintro e w1 ⟨rfl, hg1⟩
    go_wp2_with fail
    refine (unhide Y _).mono ?_
    rintro e w2 ⟨rfl, hg2⟩
    have k2 : Grown w w2 := gtrans hg1 hg2
    clear hg1 hg2
    go_wp2_with fail
    refine (unhide A _).mono ?_
    rintro e w3 ⟨rfl, hg3⟩
    go_wp2_with fail
    refine (unhide N _).mono ?_
    rintro e w4 ⟨rfl, hg4⟩
    have k4 : Grown w w4 := gtrans k2 (gtrans hg3 hg4)
    clear k2 hg3 hg4
    go_wp2
    go_ret2
    exact ⟨by first | rfl | (rw [unhide HW]; rfl), k4⟩
  · have F : fitI R = 9223372036854775807 ∧ fitB R = true := by unfold fitI fitB; rw [if_pos c]; simp; omega
    rw [F.1, F.2]
    clear F
    go_enter Try.func13, Try.ntmps13
    go_wp2_with fail
    refine (unhide X _).mono ?_
    rintro e w1 ⟨rfl, hg1⟩
    go_wp2_with fail
    refine (unhide Y _).mono ?_
    rintro e w2 ⟨rfl, hg2⟩
    have k2 : Grown w w2 := gtrans hg1 hg2
    clear hg1 hg2
    go_wp2_with fail
    refine (unhide A _).mono ?_
    rintro e w3 ⟨rfl, hg3⟩
    go_wp2_with fail
    refine (unhide N _).mono ?_
    rintro e w4 ⟨rfl, hg4⟩
    have k4 : Grown w w4 := gtrans k2 (gtrans hg3 hg4)
    clear k2 hg3 hg4
    go_wp2
    go_ret2
    exact ⟨rfl, k4⟩
  · have F := fit_inF R (by unfold Fx; omega)
    rw [F.1, F.2]
    have hw : IntKind.i64.wrap R = R := by rw [IntKind.wrap_i64]; omega
    have HW := hide hw
    clear hw
    clear F
    go_enter Try.func13, Try.ntmps13
    go_wp2_with fail
    refine (unhide X _).mono ?_
    rintro e w1 ⟨rfl, hg1⟩
    go_wp2_with fail
    refine (unhide Y _).mono ?_
    rintro e w2 ⟨rfl, hg2⟩
    have k2 : Grown w w2 := gtrans hg1 hg2
    clear hg1 hg2
    go_wp2_with fail
    refine (unhide A _).mono ?_
    rintro e w3 ⟨rfl, hg3⟩
    go_wp2_with fail
    refine (unhide N _).mono ?_
    rintro e w4 ⟨rfl, hg4⟩
    have k4 : Grown w w4 := gtrans k2 (gtrans hg3 hg4)
    clear k2 hg3 hg4
    go_wp2
    go_ret2
    exact ⟨by first | rfl | (rw [unhide HW]; rfl), k4⟩
  · have F : fitI R = 9223372036854775807 ∧ fitB R = true := by unfold fitI fitB; rw [if_pos c]; simp; omega
    rw [F.1, F.2]
    clear F
    go_enter Try.func13, Try.ntmps13
    go_wp2_with fail
    refine (unhide X _).mono ?_
    rintro e w1 ⟨rfl, hg1⟩
    go_wp2_with fail
    refine (unhide Y _).mono ?_
    rintro e w2 ⟨rfl, hg2⟩
    have k2 : Grown w w2 := gtrans hg1 hg2
    clear hg1 hg2
    go_wp2_with fail
    refine (unhide A _).mono ?_
    rintro e w3 ⟨rfl, hg3⟩
    go_wp2_with fail
    refine (unhide N _).mono ?_
    rintro e w4 ⟨rfl, hg4⟩
    have k4 : Grown w w4 := gtrans k2 (gtrans hg3 hg4)
    clear k2 hg3 hg4
    go_wp2
    go_ret2
    exact ⟨rfl, k4⟩
  · have F := fit_inF R (by unfold Fx; omega)
    rw [F.1, F.2]
    have hw : IntKind.i64.wrap R = R := by rw [IntKind.wrap_i64]; omega
    have HW := hide hw
    clear hw
    clear F
    go_enter Try.func13, Try.ntmps13
    go_wp2_with fail
    refine (unhide X _).mono ?_
    rintro e w1 ⟨rfl, hg1⟩
    go_wp2_with fail
    refine (unhide Y _).mono ?_
    rintro e w2 ⟨rfl, hg2⟩
    have k2 : Grown w w2 := gtrans hg1 hg2
    clear hg1 hg2
    go_wp2_with fail
    refine (unhide A _).mono ?_
    rintro e w3 ⟨rfl, hg3⟩
    go_wp2_with fail
    refine (unhide N _).mono ?_
    rintro e w4 ⟨rfl, hg4⟩
    have k4 : Grown w w4 := gtrans k2 (gtrans hg3 hg4)
    clear k2 hg3 hg4
    go_wp2
    go_ret2
    exact ⟨by first | rfl | (rw [unhide HW]; rfl), k4⟩
  · have F : fitI R = 9223372036854775807 ∧ fitB R = true := by unfold fitI fitB; rw [if_pos c]; simp; omega
    rw [F.1, F.2]
    clear F
    go_enter Try.func13, Try.ntmps13
    go_wp2_with fail
    refine (unhide X _).mono ?_
    rintro e w1 ⟨rfl, hg1⟩
    go_wp2_with fail
    refine (unhide Y _).mono ?_
    rintro e w2 ⟨rfl, hg2⟩
    have k2 : Grown w w2 := gtrans hg1 hg2
    clear hg1 hg2
    go_wp2_with fail
    refine (unhide A _).mono ?_
    rintro e w3 ⟨rfl, hg3⟩
    go_wp2_with fail
    refine (unhide N _).mono ?_
    rintro e w4 ⟨rfl, hg4⟩
    have k4 : Grown w w4 := gtrans k2 (gtrans hg3 hg4)
    clear k2 hg3 hg4
    go_wp2
    go_ret2
    exact ⟨rfl, k4⟩
  · have F := fit_inF R (by unfold Fx; omega)
    rw [F.1, F.2]
    have hw : IntKind.i64.wrap R = R := by rw [IntKind.wrap_i64]; omega
    have HW := hide hw
    clear hw
    clear F
    go_enter Try.func13, Try.ntmps13
    go_wp2_with fail
    refine (unhide X _).mono ?_
    rintro e w1 ⟨rfl, hg1⟩
    go_wp2_with fail
    refine (unhide Y _).mono ?_
    rintro e w2 ⟨rfl, hg2⟩
    have k2 : Grown w w2 := gtrans hg1 hg2
    clear hg1 hg2
    go_wp2_with fail
    refine (unhide A _).mono ?_
    rintro e w3 ⟨rfl, hg3⟩
    go_wp2_with fail
    refine (unhide N _).mono ?_
    rintro e w4 ⟨rfl, hg4⟩
    have k4 : Grown w w4 := gtrans k2 (gtrans hg3 hg4)
    clear k2 hg3 hg4
    go_wp2
    go_ret2
    exact ⟨by rw [show decide (x < -9223372036854775807) = false from by simpa using ca, show decide (y < -9223372036854775807) = false from by simpa using cb]; rfl, k4⟩

theorem refHypotR (a b : Int) (ha : I64 a) (hb : I64 b) (w : World) :
    Calls Try.prog 13 #[.int .i64 a, .int .i64 b] w fun e w' => e = .returned (.tuple #[.int .i64 (fitI (nr (hyp a b))), .bool (fitB (nr (hyp a b)) || nb a || nb b)]) ∧ Grown w w' := by
  have h := hyp_range a b ha hb
  have t1 := tk_Fx a ha; have t2 := tk_Fx b hb
  have n1 : nr (hyp a b) < 18446744073709551616 := nr_lt _ _ h.1 (by omega) (by omega)
  exact refHypot_core a b (tk a) (tk b) (tk a * tk a) (tk b * tk b) (hyp a b) (nr (hyp a b)) (nb a) (nb b) (tkn a ha) (tkn b hb) (nr_nonneg _) n1 w
    (hide fun w => refMul (tk a) (tk a) (Fx_I64 t1) (Fx_I64 t1) w) (hide fun w => refMul (tk b) (tk b) (Fx_I64 t2) (Fx_I64 t2) w)
    (hide fun w => refAddV (tk a * tk a) (tk b * tk b) w) (hide fun w => refNearestR (hyp a b) h.1 h.2 w)

set_option maxHeartbeats 2000000 in
set_option maxRecDepth 100000 in
theorem lawRootTells (h l a b : Int) (hh : I64 h) (hl : U64 l) (ha : I64 a) (hb : I64 b) (w : World) :
    Calls Try.prog 3 #[.agg #[.int .i64 h, .int .u64 l], .int .i64 a, .int .i64 b] w fun e w' => e = .returned (.bool true) ∧ Grown w w' := by
  obtain ⟨v, rfl, rfl, hv⟩ := as_val h l hh hl
  have P1 := hide (fun w => rootWhole v w)
  rw [hv] at P1
  have R1 := hide (fun w => refWholeR v hv w)
  have P2 := hide (fun w => rootSqrt a ha w)
  have R2 := hide (fun w => refSqrtR a ha w)
  have P3 := hide (fun w => rootHypot a b ha hb w)
  have R3 := hide (fun w => refHypotR a b ha hb w)
  have W := hide (fun w => rootAwake w)
  generalize whN v = u1 at *
  generalize whE v = u2 at *
  generalize sqN a = u3 at *
  obtain ⟨u4, hu4⟩ : ∃ z, decide (a < 0) = z := ⟨_, rfl⟩
  rw [hu4] at P2 R2
  generalize fitI (nr (hyp a b)) = u5 at *
  obtain ⟨u6, hu6⟩ : ∃ z, (fitB (nr (hyp a b)) || nb a || nb b) = z := ⟨_, rfl⟩
  rw [hu6] at P3 R3
  clear hu4 hu6 hv hh hl ha hb
  go_enter Try.func3, Try.ntmps3
  go_wp2_with fail
  refine (unhide P1 _).mono ?_
  rintro e w1 ⟨rfl, hg1⟩
  obtain ⟨d0, d1⟩ := gat2 hg1 w.heap.size (.int .i64 (hiOf v)) (.int .u64 (loOf v)) (by constructor <;> simp [go_sem])
  have k1 : Grown w w1 := gtrans ((Grown.refl _).alloc _ _) hg1
  clear hg1
  go_wp2_with fail
  refine (unhide R1 _).mono ?_
  rintro e w2 ⟨rfl, hg2⟩
  have k2 : Grown w w2 := gtrans k1 hg2
  clear k1 hg2 d0 d1
  go_wp2_with fail
  refine (unhide P2 _).mono ?_
  rintro e w3 ⟨rfl, hg3⟩
  have k3 : Grown w w3 := gtrans k2 hg3
  clear k2 hg3
  go_wp2_with fail
  refine (unhide R2 _).mono ?_
  rintro e w4 ⟨rfl, hg4⟩
  have k4 : Grown w w4 := gtrans k3 hg4
  clear k3 hg4
  go_wp2_with fail
  refine (unhide P3 _).mono ?_
  rintro e w5 ⟨rfl, hg5⟩
  have k5 : Grown w w5 := gtrans k4 hg5
  clear k4 hg5
  go_wp2_with fail
  refine (unhide R3 _).mono ?_
  rintro e w6 ⟨rfl, hg6⟩
  have k6 : Grown w w6 := gtrans k5 hg6
  clear k5 hg6
  cases u4 <;> cases u6 <;> (go_wp2_with fail; refine (unhide W _).mono ?_; rintro e w7 ⟨rfl, hg7⟩; go_wp2; go_ret; exact ⟨rfl, gtrans k6 hg7⟩)

end Go.Proofs.Yticaiccocfoinaa
