/- What sums, signs, products and comparisons are: the walk of the law WideSums. -/
import Derived.Test.YtpmlfidnojcplaaRefMul
namespace Go.Proofs.Ytpmlfidnojcplaa
open Go.RowKit Go.Proofs.Wd
set_option linter.unusedVariables false
set_option linter.unusedSimpArgs false
attribute [local go_sem ↓] Go.wp_at_zero Go.wp_at_succ

set_option maxHeartbeats 4000000 in
set_option maxRecDepth 100000 in
theorem lawWideSums (ah al bh bl m n : Int) (h1 : I64 ah) (h2 : U64 al) (h3 : I64 bh) (h4 : U64 bl) (h5 : I64 m) (h6 : I64 n) (w : World) :
    Calls Try.prog 3 #[.agg #[.int .i64 ah, .int .u64 al], .agg #[.int .i64 bh, .int .u64 bl], .int .i64 m, .int .i64 n] w fun e w' => e = .returned (.bool true) ∧ Grown w w' := by
  go_enter Try.func3, Try.ntmps3
  go_wp2
  go_region_held3 (fun w' => w'.cell? ⟨w.heap.size, 0, none⟩ = some (.int .i64 ah) ∧ w'.cell? ⟨w.heap.size, 1, none⟩ = some (.int .u64 al) ∧ w'.cell? ⟨w.heap.size + 1, 0, none⟩ = some (.int .i64 bh) ∧ w'.cell? ⟨w.heap.size + 1, 1, none⟩ = some (.int .u64 bl) ∧ Grown w w')
    (first | exact keep2 hg9 (by assumption) | (refine ⟨?_, ?_, ?_, ?_, Grown.drew (((Grown.refl _).alloc _ _).alloc _ _)⟩ <;> simp [go_sem, *]))
    (first
      | (go_at_call 9; refine (wideOf n h6 _).mono ?_; rintro e w9 ⟨rfl, hg9⟩)
      | (go_at_call 10; refine (refOf n h6 _).mono ?_; rintro e w9 ⟨rfl, hg9⟩)
      | (go_at_call 11; refine (wideAdd ah al bh bl h1 h2 h3 h4 _).mono ?_; rintro e w9 ⟨rfl, hg9⟩)
      | (go_at_call 12; refine (refAdd ah al bh bl h1 h2 h3 h4 _).mono ?_; rintro e w9 ⟨rfl, hg9⟩)
      | (go_at_call 13; refine (wideNeg ah al h1 h2 _).mono ?_; rintro e w9 ⟨rfl, hg9⟩)
      | (go_at_call 14; refine (refNeg ah al h1 h2 _).mono ?_; rintro e w9 ⟨rfl, hg9⟩)
      | (go_at_call 15; refine (wideMul m n h5 h6 _).mono ?_; rintro e w9 ⟨rfl, hg9⟩)
      | (go_at_call 16; refine (refMul m n h5 h6 _).mono ?_; rintro e w9 ⟨rfl, hg9⟩)
      | (go_at_call 17; refine (wideCmp ah al bh bl h1 h2 h3 h4 _).mono ?_; rintro e w9 ⟨rfl, hg9⟩)
      | (go_at_call 18; refine (refCmp ah al bh bl h1 h2 h3 h4 _).mono ?_; rintro e w9 ⟨rfl, hg9⟩)
      | (go_at_call 19; refine (lawAwake _).mono ?_; rintro e w9 ⟨rfl, hg9⟩))
  have hgw9 : Grown w w9 := by rename_i hH; exact hH.2.2.2.2
  go_wp2
  go_ret
  exact ⟨rfl, hgw9⟩

end Go.Proofs.Ytpmlfidnojcplaa
