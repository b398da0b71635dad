/- The parts of package fix: what take, narrow, shifted and reckon return. -/
import Derived.Test.YtopaakjildmjcaaGreatWideV
import Derived.Test.YtopaakjildmjcaaGreatFixMath
import Derived.Deep.DeepCutAuto
import Derived.Deep.RegionHeld3
import Derived.Shelf.Abstract
namespace Go.Proofs.YtopaakjildmjcaaGreat
open Go.RowKit Go.Proofs.Wd
set_option linter.unusedVariables false
set_option linter.unusedSimpArgs false
set_option maxRecDepth 10000
attribute [local go_sem ↓] Go.wp_at_zero Go.wp_at_succ

set_option maxHeartbeats 400000 in
theorem fixTake (a : Int) (h : I64 a) (w : World) :
    Calls Tryz.prog 116 #[.int .i64 a] w fun e w' => e = .returned (.tuple #[.agg #[.int .i64 (hiOf (tk a)), .int .u64 (loOf (tk a))], .bool (nb a)]) ∧ Grown w w' := by
  by_cases hs : a = -9223372036854775808
  · rw [show tk a = -9223372036854775807 from by unfold tk; rw [if_pos hs], show nb a = true from by unfold nb; simp [hs]]
    have O := hide (fun w => wideOf (-9223372036854775807) (by unfold I64; omega) w)
    go_enter Tryz.func116, Tryz.ntmps116
    go_wp2_with fail
    refine (unhide O _).mono ?_
    rintro e w1 ⟨rfl, hg⟩
    obtain ⟨d0, d1⟩ := gat2 hg w.heap.size (.int .i64 0) (.int .u64 0) (by constructor <;> simp [go_sem])
    have hgw : Grown w w1 := gtrans ((Grown.refl _).alloc _ _) hg
    have f1 := fun o => frz hgw w.heap.size o (by omega)
    go_wp2
    simp [bodyPost, results, Tryz.results116, go_sem, d0, d1]
    exact Grown.setCell (Grown.setCell hgw (by dsimp only; omega) _) (by dsimp only; omega) _
  · rw [show tk a = a from by unfold tk; rw [if_neg hs], show nb a = false from by unfold nb; simp [hs]]
    have O := hide (fun w => wideOf a h w)
    go_enter Tryz.func116, Tryz.ntmps116
    go_wp2_with fail
    refine (unhide O _).mono ?_
    rintro e w1 ⟨rfl, hg⟩
    obtain ⟨d0, d1⟩ := gat2 hg w.heap.size (.int .i64 0) (.int .u64 0) (by constructor <;> simp [go_sem])
    have hgw : Grown w w1 := gtrans ((Grown.refl _).alloc _ _) hg
    have f1 := fun o => frz hgw w.heap.size o (by omega)
    go_wp2
    simp [bodyPost, results, Tryz.results116, go_sem, d0, d1]
    exact Grown.setCell (Grown.setCell hgw (by dsimp only; omega) _) (by dsimp only; omega) _

set_option maxHeartbeats 400000 in
theorem fixNarrow (a : Int) (h : I64 a) (w : World) :
    Calls Tryz.prog 100 #[.agg #[.int .i64 (hiOf a), .int .u64 (loOf a)]] w fun e w' => e = .returned (.int .i64 a) ∧ Grown w w' := by
  have e1 : wrap64 (loOf a) = a := by unfold I64 at h; simp only [wrap64]; unfold loOf; omega
  go_enter Tryz.func100, Tryz.ntmps100
  go_wp2
  go_ret
  rw [e1]
  exact ⟨rfl, (Grown.refl _).alloc _ _⟩

set_option maxHeartbeats 400000 in
theorem fixShifted (A n : Int) (h3 : 0 ≤ n) (h4 : n ≤ 127) (w : World) :
    Calls Tryz.prog 98 #[.agg #[.int .i64 (hiOf A), .int .u64 (loOf A)], .int .i64 n] w fun e w' => e = .returned (.agg #[.int .i64 (hiOf (rdiv (wrapW A) (2 ^ n.toNat))), .int .u64 (loOf (rdiv (wrapW A) (2 ^ n.toNat)))]) ∧ Grown w w' := by
  have R := hide (fun w => roundV A n h3 h4 w)
  generalize rdiv (wrapW A) (2 ^ n.toNat) = Q at *
  go_enter Tryz.func98, Tryz.ntmps98
  go_wp2_with fail
  refine (unhide R _).mono ?_
  rintro e w1 ⟨rfl, hg⟩
  obtain ⟨d0, d1⟩ := gat2 hg w.heap.size (.int .i64 (hiOf A)) (.int .u64 (loOf A)) (by constructor <;> simp [go_sem])
  obtain ⟨c0, c1⟩ := gat2 hg (w.heap.size + 1) (.int .i64 0) (.int .u64 0) (by constructor <;> simp [go_sem])
  have hgw : Grown w w1 := gtrans (((Grown.refl _).alloc _ _).alloc _ _) hg
  have f0 := fun o => frz hgw w.heap.size o (by omega)
  have f1 := fun o => frz hgw (w.heap.size + 1) o (by omega)
  go_wp2
  simp [bodyPost, results, Tryz.results98, go_sem, d0, d1, c0, c1]
  exact Grown.setCell (Grown.setCell (Grown.setCell (Grown.setCell hgw (by dsimp only; omega) _) (by dsimp only; omega) _) (by dsimp only; omega) _) (by dsimp only; omega) _

set_option maxHeartbeats 1000000 in
theorem fixReckon (a b R : Int) (F : Nat) (ha : I64 a) (hb : I64 b) (hR : wrapW R = R) (eF : ∀ args w, (callFunc F args).run Tryz.prog w = .ok (.enter F args) w)
    (O : Hid (∀ w, Calls Tryz.prog F #[.agg #[.int .i64 (hiOf (tk a)), .int .u64 (loOf (tk a))], .agg #[.int .i64 (hiOf (tk b)), .int .u64 (loOf (tk b))]] w fun e w' => e = .returned (.agg #[.int .i64 (hiOf R), .int .u64 (loOf R)]) ∧ Grown w w')) (w : World) :
    Calls Tryz.prog 95 #[.int .i64 a, .int .i64 b, .func (.func F) #[] #[]] w fun e w' => e = .returned (.tuple #[.int .i64 (fitI R), .bool (cutB R a b)]) ∧ Grown w w' := by
  have T1 := hide (fun w => fixTake a ha w)
  have T2 := hide (fun w => fixTake b hb w)
  have K := hide (fun w => fitV R w)
  rw [hR] at K
  unfold cutB
  clear hR ha hb
  generalize tk a = x at *
  generalize tk b = y at *
  generalize nb a = p at *
  generalize nb b = q at *
  generalize fitI R = u at *
  generalize fitB R = v at *
  go_enter Tryz.func95, Tryz.ntmps95
  go_wp2_with fail
  refine (unhide T1 _).mono ?_
  rintro e w1 ⟨rfl, hg1⟩
  go_wp2_with fail
  refine (unhide T2 _).mono ?_
  rintro e w2 ⟨rfl, hg2⟩
  obtain ⟨a0, a1⟩ := gat2 hg2 w1.heap.size (.int .i64 (hiOf x)) (.int .u64 (loOf x)) (by constructor <;> simp [go_sem, *])
  have z1 := heap_gt a0
  have g2 : Grown w w2 := gtrans (hg1.alloc _ _) hg2
  clear hg1 hg2
  go_wp2_with fail
  refine (unhide O _).mono ?_
  rintro e w3 ⟨rfl, hg3⟩
  go_wp2_with fail
  refine (unhide K _).mono ?_
  rintro e w4 ⟨rfl, hg4⟩
  have g4 : Grown w w4 := gtrans (g2.alloc _ _) (gtrans hg3 hg4)
  clear g2 hg3 hg4 a0 a1
  cases v <;> cases p <;> cases q <;> (go_wp2; go_ret2; exact ⟨rfl, g4⟩)

end Go.Proofs.YtopaakjildmjcaaGreat
