/- The operations of package fix, as funcs of two wide numbers: what each returns. -/
import Derived.Test.YtnelkhmahmoclaaGreatDoorFixA
import Derived.Test.YtnelkhmahmoclaaGreatDoorDiv64
namespace Go.Proofs.YtnelkhmahmoclaaGreatDoor
open Go.RowKit Go.Proofs.Wd
set_option linter.unusedVariables false
set_option linter.unusedSimpArgs false
set_option maxRecDepth 10000
attribute [local go_sem ↓] Go.wp_at_zero Go.wp_at_succ

set_option maxHeartbeats 1000000 in
theorem fixSub1 (A B : Int) (w : World) :
    Calls Tryz.prog 73 #[.agg #[.int .i64 (hiOf A), .int .u64 (loOf A)], .agg #[.int .i64 (hiOf B), .int .u64 (loOf B)]] w fun e w' => e = .returned (.agg #[.int .i64 (hiOf (A - B)), .int .u64 (loOf (A - B))]) ∧ Grown w w' := by
  have N1 := hide (fun w => negV B w)
  have A1 := hide (fun w => addV A (-B) w)
  rw [show A + -B = A - B from by omega] at A1
  generalize A - B = C at *
  go_enter Tryz.func73, Tryz.ntmps73
  go_wp2
  go_region_held3 (fun w' => (w'.cell? ⟨w.heap.size, 0, none⟩ = some (.int .i64 (hiOf A)) ∧ w'.cell? ⟨w.heap.size, 1, none⟩ = some (.int .u64 (loOf A))) ∧ (w'.cell? ⟨w.heap.size + 1, 0, none⟩ = some (.int .i64 (hiOf B)) ∧ w'.cell? ⟨w.heap.size + 1, 1, none⟩ = some (.int .u64 (loOf B))))
    (simp [go_sem, *])
    (first
      | (go_at_call 26; refine (unhide N1 _).mono ?_; rintro e w1 ⟨rfl, hg1⟩; obtain ⟨a0, a1⟩ := gat2 hg1 w.heap.size (.int .i64 (hiOf A)) (.int .u64 (loOf A)) (by constructor <;> simp [go_sem, *]); obtain ⟨b0, b1⟩ := gat2 hg1 (w.heap.size + 1) (.int .i64 (hiOf B)) (.int .u64 (loOf B)) (by constructor <;> simp [go_sem, *]); obtain ⟨c0, c1⟩ := gat2 hg1 (w.heap.size + 1 + 1) (.int .i64 0) (.int .u64 0) (by constructor <;> simp [go_sem, *]); have k1 : Grown w w1 := gtrans (by exact Grown.drew ((((Grown.refl _).alloc _ _).alloc _ _).alloc _ _)) hg1)
      | (go_at_call 24; refine (unhide A1 _).mono ?_; rintro e w2 ⟨rfl, hg2⟩; obtain ⟨a20, a21⟩ := gat2 hg2 w.heap.size (.int .i64 (hiOf A)) (.int .u64 (loOf A)) (by constructor <;> simp [go_sem, *]); obtain ⟨b20, b21⟩ := gat2 hg2 (w.heap.size + 1) (.int .i64 (hiOf B)) (.int .u64 (loOf B)) (by constructor <;> simp [go_sem, *]); obtain ⟨c20, c21⟩ := gat2 hg2 (w.heap.size + 1 + 1) (.int .i64 0) (.int .u64 0) (by constructor <;> simp [go_sem, *]); have k2 : Grown w w2 := gtrans k1 hg2; have f2 := fun o => frz k2 (w.heap.size + 1 + 1) o (by omega)))
  go_wp2
  simp [bodyPost, results, Tryz.results73, go_sem, *]
  exact Grown.setCell (Grown.setCell k2 (by dsimp only; omega) _) (by dsimp only; omega) _

end Go.Proofs.YtnelkhmahmoclaaGreatDoor
