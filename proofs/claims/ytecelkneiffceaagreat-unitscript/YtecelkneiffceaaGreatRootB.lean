/- Package root's nearest, square, Sqrt and Hypot, walked: what each returns, in whole numbers. -/
import Derived.Test.YtecelkneiffceaaGreatRootA
import Derived.Test.YtecelkneiffceaaGreatFixD
namespace Go.Proofs.YtecelkneiffceaaGreat
open Go.RowKit Go.Proofs.Wd
set_option linter.unusedVariables false
set_option linter.unusedSimpArgs false
set_option maxRecDepth 10000

theorem cmpI_gt (x y : Int) (h : y < x) : cmpI x y = 1 := by unfold cmpI; rw [if_neg (by omega), if_neg (by omega)]
theorem cmpI_le (x y : Int) (h : x ≤ y) : cmpI x y ≤ 0 := by unfold cmpI; split; omega; split <;> omega

set_option maxHeartbeats 1000000 in
theorem rootNearest (v : Int) (h0 : 0 ≤ v) (h1 : v < 170141183460469231731687303715884105728) (w : World) :
    Calls Tryz.prog 62 #[.agg #[.int .i64 (hiOf v), .int .u64 (loOf v)]] w fun e w' => e = .returned (.tuple #[.int .i64 (fitI (nr v)), .bool (fitB (nr v))]) ∧ Grown w w' := by
  have hw : wrapW v = v := wrapW_in v (by omega)
  have W := hide (fun w => rootWhole v w)
  rw [hw] at W
  by_cases c : v < 85070591730234615865843651857942052864
  · have g := wh_good v ⟨h0, c⟩
    rw [g.1, g.2] at W
    have r0 := rt_nonneg v
    have r1 := rt_lt63 v h0 c
    have ri := rt_is v h0
    obtain ⟨-, ri, -⟩ := ri
    have M := hide (fun w => wideMul (rt v) (rt v) (by unfold I64; omega) (by unfold I64; omega) w)
    have O := hide (fun w => wideOf (rt v) (by unfold I64; omega) w)
    have A := hide (fun w => addV (rt v * rt v) (rt v) w)
    have P0 := Int.mul_nonneg r0 r0
    have K := hide (fun w => cmpV v (rt v * rt v + rt v) w)
    rw [hw, wrapW_in (rt v * rt v + rt v) (by omega)] at K
    clear g hw
    by_cases d : rt v * rt v + rt v < v
    · have hn : nr v = rt v + 1 := by unfold nr; rw [if_pos d]
      have F := hide (fun w => fixAdd (rt v) 1 (by unfold I64; omega) (by unfold I64; omega) w)
      unfold cutB at F
      rw [tk_of (rt v) (by unfold Fx; omega), nb_of (rt v) (by unfold Fx; omega), show tk 1 = 1 from by decide, show nb 1 = false from by decide, Bool.or_false, Bool.or_false] at F
      rw [cmpI_gt _ _ d] at K
      rw [hn]
      clear d hn ri P0
      generalize rt v = r at *
      obtain ⟨u, hu⟩ : ∃ u, fitI (r + 1) = u := ⟨_, rfl⟩
      obtain ⟨z, hz⟩ : ∃ z, fitB (r + 1) = z := ⟨_, rfl⟩
      rw [hu, hz] at F ⊢
      clear hu hz
      go_enter Tryz.func62, Tryz.ntmps62
      go_wp2_with fail
      refine (unhide W _).mono ?_
      rintro e w1 ⟨rfl, hg1⟩
      obtain ⟨a0, a1⟩ := gat2 hg1 w.heap.size (.int .i64 (hiOf v)) (.int .u64 (loOf v)) (by constructor <;> simp [go_sem])
      have k1 : Grown w w1 := gtrans ((Grown.refl _).alloc _ _) hg1
      clear hg1
      go_wp2_with fail
      refine (unhide M _).mono ?_
      rintro e w2 ⟨rfl, hg2⟩
      go_wp2_with fail
      refine (unhide O _).mono ?_
      rintro e w3 ⟨rfl, hg3⟩
      go_wp2_with fail
      refine (unhide A _).mono ?_
      rintro e w4 ⟨rfl, hg4⟩
      have hg := gtrans hg2 (gtrans hg3 hg4)
      obtain ⟨b0, b1⟩ := gat2 hg _ _ _ ⟨a0, a1⟩
      have k4 : Grown w w4 := gtrans k1 hg
      have l4 := heap_gt b0
      clear hg2 hg3 hg4 hg k1 a0 a1
      go_wp2_with fail
      refine (unhide K _).mono ?_
      rintro e w5 ⟨rfl, hg5⟩
      have k5 : Grown w w5 := gtrans (k4.alloc _ _) hg5
      clear hg5 k4
      go_wp2_with fail
      refine (unhide F _).mono ?_
      rintro e w6 ⟨rfl, hg6⟩
      go_wp2
      go_ret2
      exact ⟨rfl, gtrans k5 hg6⟩
    · have hn : nr v = rt v := by unfold nr; rw [if_neg d]
      have F := fit_inF (rt v) (by unfold Fx; omega)
      rw [hn, F.1, F.2]
      have kc := cmpI_le v (rt v * rt v + rt v) (by omega)
      generalize cmpI v (rt v * rt v + rt v) = q at *
      clear d hn ri P0 F
      generalize rt v = r at *
      go_enter Tryz.func62, Tryz.ntmps62
      go_wp2_with fail
      refine (unhide W _).mono ?_
      rintro e w1 ⟨rfl, hg1⟩
      obtain ⟨a0, a1⟩ := gat2 hg1 w.heap.size (.int .i64 (hiOf v)) (.int .u64 (loOf v)) (by constructor <;> simp [go_sem])
      have k1 : Grown w w1 := gtrans ((Grown.refl _).alloc _ _) hg1
      clear hg1
      go_wp2_with fail
      refine (unhide M _).mono ?_
      rintro e w2 ⟨rfl, hg2⟩
      go_wp2_with fail
      refine (unhide O _).mono ?_
      rintro e w3 ⟨rfl, hg3⟩
      go_wp2_with fail
      refine (unhide A _).mono ?_
      rintro e w4 ⟨rfl, hg4⟩
      have hg := gtrans hg2 (gtrans hg3 hg4)
      obtain ⟨b0, b1⟩ := gat2 hg _ _ _ ⟨a0, a1⟩
      have k4 : Grown w w4 := gtrans k1 hg
      have l4 := heap_gt b0
      clear hg2 hg3 hg4 hg k1 a0 a1
      go_wp2_with fail
      refine (unhide K _).mono ?_
      rintro e w5 ⟨rfl, hg5⟩
      have k5 : Grown w w5 := gtrans (k4.alloc _ _) hg5
      clear hg5 k4
      go_wp2
      go_ret2
      exact ⟨rfl, k5⟩
  · have g := wh_bad v (by omega)
    rw [g.1, g.2] at W
    have F := nr_fit v (by omega)
    rw [F.1, F.2]
    clear g F hw
    go_enter Tryz.func62, Tryz.ntmps62
    go_wp2_with fail
    refine (unhide W _).mono ?_
    rintro e w1 ⟨rfl, hg1⟩
    go_wp2
    go_ret2
    exact ⟨rfl, gtrans ((Grown.refl _).alloc _ _) hg1⟩

/-- What Sqrt answers. -/
def sqN (a : Int) : Int := if a < 0 then 0 else nr (a * 4294967296)
theorem sq_lt63 (a : Int) (h0 : 0 ≤ a) (h : I64 a) : nr (a * 4294967296) < 9223372036854775808 :=
  nr_lt _ 9223372036854775808 (by omega) (by decide) (by unfold I64 at h; omega)
set_option maxHeartbeats 400000 in
theorem rootSqrt (a : Int) (ha : I64 a) (w : World) :
    Calls Tryz.prog 42 #[.int .i64 a] w fun e w' => e = .returned (.tuple #[.int .i64 (sqN a), .bool (decide (a < 0))]) ∧ Grown w w' := by
  by_cases c : a < 0
  · have e1 : sqN a = 0 := by unfold sqN; rw [if_pos c]
    have e2 : decide (a < 0) = true := by simpa using c
    rw [e1, e2]
    clear e1 e2
    go_enter Tryz.func42, Tryz.ntmps42
    go_wp2
    go_ret2
    exact ⟨rfl, Grown.refl _⟩
  · have e1 : sqN a = nr (a * 4294967296) := by unfold sqN; rw [if_neg c]
    have e2 : decide (a < 0) = false := by simpa using c
    have b := sq_lt63 a (by omega) ha
    have b0 := nr_nonneg (a * 4294967296)
    have F := fit_inF (nr (a * 4294967296)) (by unfold Fx; omega)
    have M := hide (fun w => wideMul a 4294967296 ha (by unfold I64; omega) w)
    have N := hide (fun w => rootNearest (a * 4294967296) (by omega) (by unfold I64 at ha; omega) w)
    rw [F.1, F.2] at N
    rw [e1, e2]
    clear e1 e2 b b0 F ha
    go_enter Tryz.func42, Tryz.ntmps42
    go_wp2_with fail
    refine (unhide M _).mono ?_
    rintro e w1 ⟨rfl, hg1⟩
    go_wp2_with fail
    refine (unhide N _).mono ?_
    rintro e w2 ⟨rfl, hg2⟩
    go_wp2
    go_ret2
    exact ⟨rfl, gtrans hg1 hg2⟩

/-- The sum of both squares. -/
def hyp (a b : Int) : Int := tk a * tk a + tk b * tk b
theorem sq_nonneg (x : Int) : 0 ≤ x * x := by
  by_cases c : 0 ≤ x
  · exact Int.mul_nonneg c c
  · have := Int.mul_nonneg (by omega : 0 ≤ -x) (by omega : 0 ≤ -x)
    have e : -x * -x = x * x := by grind
    omega
theorem hyp_range (a b : Int) (ha : I64 a) (hb : I64 b) : 0 ≤ hyp a b ∧ hyp a b ≤ 170141183460469231694793815568465002498 := by
  unfold hyp
  have x := prod_range (tk a) (tk a) (tk_Fx a ha) (tk_Fx a ha)
  have y := prod_range (tk b) (tk b) (tk_Fx b hb) (tk_Fx b hb)
  have := sq_nonneg (tk a)
  have := sq_nonneg (tk b)
  omega
end Go.Proofs.YtecelkneiffceaaGreat
