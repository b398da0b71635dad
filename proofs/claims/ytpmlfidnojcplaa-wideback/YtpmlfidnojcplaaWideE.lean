/- The chapter's examples: what the law's own helpers rounds, divides and awake return. -/
import Derived.Test.YtpmlfidnojcplaaWideD
namespace Go.Proofs.Ytpmlfidnojcplaa
open Go.RowKit Go.Proofs.Wd
set_option linter.unusedVariables false
set_option linter.unusedSimpArgs false
attribute [local go_sem ↓] Go.wp_at_zero Go.wp_at_succ

theorem val_I64 (n : Int) (h : I64 n) : val (hiOf n) (loOf n) = n := by
  rw [val_of, wrapW_in]; unfold I64 at h; omega

set_option maxHeartbeats 1000000 in
theorem lawRounds (n k want : Int) (hn : I64 n) (h0 : 0 ≤ k) (h1 : k ≤ 127) (hw : I64 want) (h : rdiv n (2 ^ k.toNat) = want) (w : World) :
    Calls Try.prog 26 #[.int .i64 n, .int .i64 k, .int .i64 want] w fun e w' => e = .returned (.bool true) ∧ Grown w w' := by
  have R1 := hide (fun w => wideRound (hiOf n) (loOf n) k (hiOf_I64 _) (loOf_U64 _) h0 h1 w)
  rw [val_I64 n hn, h] at R1
  clear h
  go_enter Try.func26, Try.ntmps26
  go_wp2_with fail
  refine (wideOf n hn _).mono ?_
  rintro e w1 ⟨rfl, hg1⟩
  go_wp2_with fail
  refine (unhide R1 _).mono ?_
  rintro e w2 ⟨rfl, hg2⟩
  have hgw : Grown w w2 := gtrans hg1 hg2
  clear hg1 hg2
  go_wp2
  go_region_held3 (fun w' => w'.cell? ⟨w2.heap.size, 0, none⟩ = some (.int .i64 (hiOf want)) ∧ w'.cell? ⟨w2.heap.size, 1, none⟩ = some (.int .u64 (loOf want)))
      (simp [go_sem, *])
      (first
        | (go_at_call 9; refine (wideOf want hw _).mono ?_; rintro e w3 ⟨rfl, hg3⟩; obtain ⟨a0, a1⟩ := gat2 hg3 w2.heap.size (.int .i64 (hiOf want)) (.int .u64 (loOf want)) (by constructor <;> simp [go_sem, *]); have hgw3 : Grown w w3 := gtrans (by exact Grown.drew (hgw.alloc _ _)) hg3))
  go_wp2
  go_ret
  exact ⟨rfl, hgw3⟩

set_option maxHeartbeats 1000000 in
theorem lawDivides (n k want : Int) (hn : I64 n) (hk : I64 k) (hk0 : k ≠ 0) (hw : I64 want) (h : rdiv n k = want) (hD : DivSays (mhi (absI n) % absI k) (loOf (absI n)) (absI k)) (w : World) :
    Calls Try.prog 27 #[.int .i64 n, .int .i64 k, .int .i64 want] w fun e w' => e = .returned (.bool true) ∧ Grown w w' := by
  have R1 := hide (fun w => wideDiv (hiOf n) (loOf n) k (hiOf_I64 _) (loOf_U64 _) hk hk0 (by rw [val_I64 n hn]; exact hD) w)
  rw [val_I64 n hn, h] at R1
  clear h hD
  go_enter Try.func27, Try.ntmps27
  go_wp2_with fail
  refine (wideOf n hn _).mono ?_
  rintro e w1 ⟨rfl, hg1⟩
  go_wp2_with fail
  refine (unhide R1 _).mono ?_
  rintro e w2 ⟨rfl, hg2⟩
  have hgw : Grown w w2 := gtrans hg1 hg2
  clear hg1 hg2
  go_wp2
  go_region_held3 (fun w' => w'.cell? ⟨w2.heap.size, 0, none⟩ = some (.int .i64 (hiOf want)) ∧ w'.cell? ⟨w2.heap.size, 1, none⟩ = some (.int .u64 (loOf want)))
      (simp [go_sem, *])
      (first
        | (go_at_call 9; refine (wideOf want hw _).mono ?_; rintro e w3 ⟨rfl, hg3⟩; obtain ⟨a0, a1⟩ := gat2 hg3 w2.heap.size (.int .i64 (hiOf want)) (.int .u64 (loOf want)) (by constructor <;> simp [go_sem, *]); have hgw3 : Grown w w3 := gtrans (by exact Grown.drew (hgw.alloc _ _)) hg3))
  go_wp2
  go_ret
  exact ⟨rfl, hgw3⟩

set_option maxHeartbeats 1000000 in
theorem lawAwake (w : World) :
    Calls Try.prog 19 #[] w fun e w' => e = .returned (.bool true) ∧ Grown w w' := by
  have M1 := hide (fun w => wideMul 4611686018427387904 8 (by unfold I64; omega) (by unfold I64; omega) w)
  rw [show hiOf (4611686018427387904 * 8) = 2 from by decide, show loOf (4611686018427387904 * 8) = 0 from by decide] at M1
  have O1 := hide (fun w => wideOf (-1) (by unfold I64; omega) w)
  rw [show hiOf (-1) = -1 from by decide, show loOf (-1) = 18446744073709551615 from by decide] at O1
  have R1 := hide (fun w => lawRounds 5 1 2 (by unfold I64; omega) (by omega) (by omega) (by unfold I64; omega) (by decide) w)
  have D1 := hide (fun w => lawDivides 7 2 4 (by unfold I64; omega) (by unfold I64; omega) (by omega) (by unfold I64; omega) (by decide) (div64_says0 7 2 (by unfold U64; omega) (by unfold U64; omega) (by omega)) w)
  go_enter Try.func19, Try.ntmps19
  go_wp2_with fail
  refine (unhide M1 _).mono ?_
  rintro e w1 ⟨rfl, hg1⟩
  go_wp2_with fail
  refine (unhide O1 _).mono ?_
  rintro e w2 ⟨rfl, hg2⟩
  go_wp2_with fail
  refine (unhide R1 _).mono ?_
  rintro e w3 ⟨rfl, hg3⟩
  go_wp2_with fail
  refine (unhide D1 _).mono ?_
  rintro e w4 ⟨rfl, hg4⟩
  go_wp2
  go_ret
  exact ⟨rfl, gtrans hg1 (gtrans hg2 (gtrans hg3 hg4))⟩

end Go.Proofs.Ytpmlfidnojcplaa
