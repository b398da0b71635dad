/- Sums and products of wide numbers are those of a ring: the walk of the law WideRing. -/
import Derived.Test.YtpmlfidnojcplaaWideV
import Derived.Test.YtpmlfidnojcplaaKnownWalk
namespace Go.Proofs.Ytpmlfidnojcplaa
open Go.RowKit Go.Proofs.Wd
set_option linter.unusedVariables false
set_option linter.unusedSimpArgs false
attribute [local go_sem ↓] Go.wp_at_zero Go.wp_at_succ

set_option maxHeartbeats 4000000 in
theorem lawWideRing_core (A B C l m n : Int) (hA : wrapW A = A) (h4 : I64 l) (h5 : I64 m) (h6 : I64 n) (w : World) :
    Calls Try.prog 6 #[.agg #[.int .i64 (hiOf A), .int .u64 (loOf A)], .agg #[.int .i64 (hiOf B), .int .u64 (loOf B)], .agg #[.int .i64 (hiOf C), .int .u64 (loOf C)], .int .i64 l, .int .i64 m, .int .i64 n] w fun e w' => e = .returned (.bool true) ∧ Grown w w' := by
  clear hA
  have O0 := hide (fun w => wideOf 0 (by unfold I64; omega) w)
  go_enter Try.func6, Try.ntmps6
  go_wp2_with fail
  refine (lawWideKnown _).mono ?_
  rintro e w1 ⟨rfl, hg1⟩
  obtain ⟨a0, a1⟩ := gat2 hg1 w.heap.size (.int .i64 (hiOf A)) (.int .u64 (loOf A)) (by constructor <;> simp [go_sem])
  obtain ⟨b0, b1⟩ := gat2 hg1 (w.heap.size + 1) (.int .i64 (hiOf B)) (.int .u64 (loOf B)) (by constructor <;> simp [go_sem])
  obtain ⟨c0, c1⟩ := gat2 hg1 (w.heap.size + 1 + 1) (.int .i64 (hiOf C)) (.int .u64 (loOf C)) (by constructor <;> simp [go_sem])
  have hgw1 : Grown w w1 := gtrans ((((Grown.refl _).alloc _ _).alloc _ _).alloc _ _) hg1
  clear hg1
  have e1 : B + A = A + B := Int.add_comm _ _
  have e2 : A + B + C = A + (B + C) := Int.add_assoc _ _ _
  have e3 : hiOf (A + -A) = 0 := by rw [Int.add_right_neg]; decide
  have e5 : loOf (A + -A) = 0 := by rw [Int.add_right_neg]; decide
  have e4 : A + 0 = A := Int.add_zero _
  go_wp2
  go_region_held3 (fun w' => w'.cell? ⟨w.heap.size, 0, none⟩ = some (.int .i64 (hiOf A)) ∧ w'.cell? ⟨w.heap.size, 1, none⟩ = some (.int .u64 (loOf A)) ∧ w'.cell? ⟨w.heap.size + 1, 0, none⟩ = some (.int .i64 (hiOf B)) ∧ w'.cell? ⟨w.heap.size + 1, 1, none⟩ = some (.int .u64 (loOf B)) ∧ w'.cell? ⟨w.heap.size + 1 + 1, 0, none⟩ = some (.int .i64 (hiOf C)) ∧ w'.cell? ⟨w.heap.size + 1 + 1, 1, none⟩ = some (.int .u64 (loOf C)) ∧ Grown w w')
    (first | exact keep3 hg9 (by assumption) | (refine ⟨?_, ?_, ?_, ?_, ?_, ?_, hgw1⟩ <;> simp [go_sem, *]))
    (first
      | (go_at_call 11; refine (addV _ _ _).mono ?_; rintro e w9 ⟨rfl, hg9⟩)
      | (go_at_call 13; refine (negV _ _).mono ?_; rintro e w9 ⟨rfl, hg9⟩)
      | (go_at_call 9; refine (unhide O0 _).mono ?_; rintro e w9 ⟨rfl, hg9⟩))
  have hgw9 : Grown w w9 := by rename_i hH; exact hH.2.2.2.2.2.2
  have bm : -4611686018427387904 ≤ m / 2 ∧ m / 2 < 4611686018427387904 := by unfold I64 at h5; omega
  have bn : -4611686018427387904 ≤ n / 2 ∧ n / 2 < 4611686018427387904 := by unfold I64 at h6; omega
  generalize m / 2 = M at *
  generalize n / 2 = N at *
  have f1 : M * l = l * M := Int.mul_comm _ _
  have f2 : l * (M + N) = l * M + l * N := Int.mul_add _ _ _
  have f3 : l * 1 = l := Int.mul_one _
  have h5' : I64 M := by unfold I64; omega
  have h6' : I64 N := by unfold I64; omega
  have h7' : I64 (M + N) := by unfold I64; omega
  have h8' : I64 1 := by unfold I64; omega
  clear e1 e2 e3 e4 e5 a0 a1 b0 b1 c0 c1 hgw1 O0
  go_wp2_with fail
  refine (wideMul _ _ h4 h5' _).mono ?_
  rintro e w2 ⟨rfl, hg2⟩
  go_wp2_with fail
  refine (wideMul _ _ h5' h4 _).mono ?_
  rintro e w3 ⟨rfl, hg3⟩
  go_wp2_with fail
  refine (wideMul _ _ h4 h7' _).mono ?_
  rintro e w4 ⟨rfl, hg4⟩
  go_wp2_with fail
  refine (wideMul _ _ h4 h5' _).mono ?_
  rintro e w5 ⟨rfl, hg5⟩
  go_wp2_with fail
  refine (wideMul _ _ h4 h6' _).mono ?_
  rintro e w6 ⟨rfl, hg6⟩
  go_wp2_with fail
  refine (addV _ _ _).mono ?_
  rintro e w7 ⟨rfl, hg7⟩
  go_wp2_with fail
  refine (wideMul _ _ h4 h8' _).mono ?_
  rintro e w8 ⟨rfl, hg8⟩
  go_wp2_with fail
  refine (wideOf _ h4 _).mono ?_
  rintro e w10 ⟨rfl, hg10⟩
  go_wp2
  go_ret
  exact ⟨rfl, gtrans hgw9 (gtrans hg2 (gtrans hg3 (gtrans hg4 (gtrans hg5 (gtrans hg6 (gtrans hg7 (gtrans hg8 hg10)))))))⟩

theorem lawWideRing (ah al bh bl ch cl l m n : Int) (h1 : I64 ah) (h2 : U64 al) (h3 : I64 bh) (h4 : U64 bl) (h5 : I64 ch) (h6 : U64 cl) (h7 : I64 l) (h8 : I64 m) (h9 : I64 n) (w : World) :
    Calls Try.prog 6 #[.agg #[.int .i64 ah, .int .u64 al], .agg #[.int .i64 bh, .int .u64 bl], .agg #[.int .i64 ch, .int .u64 cl], .int .i64 l, .int .i64 m, .int .i64 n] w fun e w' => e = .returned (.bool true) ∧ Grown w w' := by
  obtain ⟨A, rfl, rfl, hA⟩ := as_val ah al h1 h2
  obtain ⟨B, rfl, rfl, hB⟩ := as_val bh bl h3 h4
  obtain ⟨C, rfl, rfl, hC⟩ := as_val ch cl h5 h6
  exact lawWideRing_core A B C l m n hA h7 h8 h9 w

end Go.Proofs.Ytpmlfidnojcplaa
