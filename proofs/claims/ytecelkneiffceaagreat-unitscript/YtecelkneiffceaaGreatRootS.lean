/- The document's answer for layer 3: above, root, Whole, nearest, Sqrt and Hypot, walked: what each returns, in whole numbers. -/
import Derived.Test.YtecelkneiffceaaGreatRootR
namespace Go.Proofs.YtecelkneiffceaaGreat
open Go.RowKit Go.Proofs.Wd
set_option linter.unusedVariables false
set_option linter.unusedSimpArgs false
set_option maxRecDepth 10000

theorem cmpI_gtB (x y : Int) : (decide (0 < cmpI x y)) = decide (y < x) := by
  by_cases c : y < x
  · rw [cmpI_gt x y c]; simp [c]
  · have := cmpI_le x y (by omega)
    rw [show decide (y < x) = false from by simpa using c]; simp; omega

set_option maxHeartbeats 1000000 in
theorem refAbove (n v : Int) (hn : U64 n) (h0 : 0 ≤ v) (h1 : v < 170141183460469231731687303715884105728) (w : World) :
    Calls Tryz.prog 106 #[.int .u64 n, .agg #[.int .i64 (hiOf v), .int .u64 (loOf v)]] w fun e w' => e = .returned (.bool (decide (v < n * n))) ∧ Grown w w' := by
  have SQ := hide (fun w => refSquare n hn w)
  have K := hide (fun w => refCmpV (n * n) v w)
  unfold U64 at hn
  by_cases c1 : 13043817825332782212 < n
  · have hq : decide (v < n * n) = true := by
      have := sq_le (by decide : (0 : Int) ≤ 13043817825332782213) (by omega : 13043817825332782213 ≤ n)
      simp; omega
    rw [hq]
    have hd : decide (13043817825332782212 < n) = true := by simpa using c1
    have c2 : 9223372036854775808 ≤ n := by omega
    clear hq SQ K c1
    go_enter Tryz.func106, Tryz.ntmps106
    go_wp2
    go_quiet (fail)
    go_wp2
    go_ret
    exact ⟨rfl, Grown.drew ((Grown.refl _).alloc _ _)⟩
  · have hq : n * n ≤ 170141183460469231731687303715884105727 := by
      have := sq_le hn.1 (by omega : n ≤ 13043817825332782212)
      omega
    have hq0 := Int.mul_nonneg hn.1 hn.1
    rw [wrapW_in (n * n) (by omega), wrapW_in v (by omega)] at K
    have hB := cmpI_gtB (n * n) v
    generalize decide (v < n * n) = z at *
    generalize cmpI (n * n) v = q at *
    have hd : decide (13043817825332782212 < n) = false := by simpa using c1
    clear hq hq0 h0 h1 c1
    by_cases c2 : 9223372036854775808 ≤ n
    · go_enter Tryz.func106, Tryz.ntmps106
      go_wp2
      go_region_held3 (fun w' => w'.cell? ⟨w.heap.size, 0, none⟩ = some (.int .i64 (hiOf v)) ∧ w'.cell? ⟨w.heap.size, 1, none⟩ = some (.int .u64 (loOf v)) ∧ Grown w w')
        (first | exact keep1 hg8 (by assumption) | exact keep1 hg9 (by assumption) | (refine ⟨?_, ?_, Grown.drew ((Grown.refl _).alloc _ _)⟩ <;> simp [go_sem, *]))
        (first
          | (go_at_call 92; refine (unhide SQ _).mono ?_; rintro e w8 ⟨rfl, hg8⟩)
          | (go_at_call 93; refine (unhide K _).mono ?_; rintro e w9 ⟨rfl, hg9⟩))
      go_wp2
      go_ret
      exact ⟨by first | rfl | (rw [← hB]; rfl), (keep1 (Grown.refl w9) (by assumption)).2.2⟩
    · go_enter Tryz.func106, Tryz.ntmps106
      go_wp2
      go_region_held3 (fun w' => w'.cell? ⟨w.heap.size, 0, none⟩ = some (.int .i64 (hiOf v)) ∧ w'.cell? ⟨w.heap.size, 1, none⟩ = some (.int .u64 (loOf v)) ∧ Grown w w')
        (first | exact keep1 hg8 (by assumption) | exact keep1 hg9 (by assumption) | (refine ⟨?_, ?_, Grown.drew ((Grown.refl _).alloc _ _)⟩ <;> simp [go_sem, *]))
        (first
          | (go_at_call 92; refine (unhide SQ _).mono ?_; rintro e w8 ⟨rfl, hg8⟩)
          | (go_at_call 93; refine (unhide K _).mono ?_; rintro e w9 ⟨rfl, hg9⟩))
      go_wp2
      go_ret
      exact ⟨by first | rfl | (rw [← hB]; rfl), (keep1 (Grown.refl w9) (by assumption)).2.2⟩

/-- What holds when the bits from k on are done. -/
def RInv (v : Int) (k : Nat) (o : Int) : Prop := 0 ≤ o ∧ o + 2 ^ k ≤ 18446744073709551616 ∧ o * o ≤ v ∧ v < (o + 2 ^ k) * (o + 2 ^ k)
theorem rinv_up (v : Int) (k : Nat) (o : Int) (h : RInv v (k + 1) o) (c : ¬ v < (o + 2 ^ k) * (o + 2 ^ k)) : RInv v k (o + 2 ^ k) := by
  obtain ⟨a, b, d, e⟩ := h
  have p : (0 : Int) < 2 ^ k := Int.pow_pos (by decide)
  rw [Int.pow_succ] at b e
  unfold RInv
  generalize (2 : Int) ^ k = K at *
  rw [show o + K + K = o + K * 2 from by omega]
  exact ⟨by omega, b, by omega, e⟩
theorem rinv_dn (v : Int) (k : Nat) (o : Int) (h : RInv v (k + 1) o) (c : v < (o + 2 ^ k) * (o + 2 ^ k)) : RInv v k o := by
  obtain ⟨a, b, d, e⟩ := h
  have p : (0 : Int) < 2 ^ k := Int.pow_pos (by decide)
  rw [Int.pow_succ] at b
  unfold RInv
  generalize (2 : Int) ^ k = K at *
  exact ⟨a, by omega, d, c⟩
theorem rinv_end (v o : Int) (h : RInv v 0 o) : o = rt v := by
  obtain ⟨a, b, d, e⟩ := h
  exact (rt_eq v o ⟨a, d, e⟩).symm
theorem rinv_room (v : Int) (k : Nat) (o : Int) (h : RInv v (k + 1) o) : 0 ≤ o ∧ o + 2 ^ k < 18446744073709551616 ∧ 0 < (2 : Int) ^ k := by
  obtain ⟨a, b, d, e⟩ := h
  have p : (0 : Int) < 2 ^ k := Int.pow_pos (by decide)
  rw [Int.pow_succ] at b
  generalize (2 : Int) ^ k = K at *
  omega
theorem rinv_start (v : Int) (h0 : 0 ≤ v) (h1 : v < 170141183460469231731687303715884105728) : RInv v 64 0 := by
  unfold RInv
  rw [show (0 : Int) + 2 ^ 64 = 18446744073709551616 from by decide]
  omega

set_option maxHeartbeats 1000000 in
theorem refRoot (v : Int) (h0 : 0 ≤ v) (h1 : v < 170141183460469231731687303715884105728) (w : World) :
    Calls Tryz.prog 91 #[.agg #[.int .i64 (hiOf v), .int .u64 (loOf v)]] w fun e w' => e = .returned (.int .u64 (rt v)) ∧ Grown w w' := by
  have AB := hide (fun n hn w => refAbove n v hn h0 h1 w)
  have ST := hide (rinv_start v h0 h1)
  clear h0 h1
  go_enter Tryz.func91, Tryz.ntmps91
  go_wp2
  go_loopw [3, 4] (fun s i wr => ∃ (k : Nat) (o : Int), k ≤ 64 ∧ i = .int .i64 ((k : Int) - 1) ∧ s = .int .u64 o ∧ Hid (RInv v k o) ∧ (wr.cell? ⟨w.heap.size, 0, none⟩ = some (.int .i64 (hiOf v)) ∧ wr.cell? ⟨w.heap.size, 1, none⟩ = some (.int .u64 (loOf v))) ∧ Grown w wr) (fun _ i _ => (intOf i + 1).toNat)
  case atStart => exact ⟨64, 0, by omega, rfl, rfl, ST, ⟨by simp [go_sem], by simp [go_sem]⟩, (Grown.refl _).alloc _ _⟩
  case round =>
    obtain ⟨k, o, hk, rfl, rfl, hi, ⟨c0, c1⟩, hgr⟩ := hrel
    by_cases hk0 : k = 0
    · subst hk0
      have e := rinv_end v o (unhide hi)
      go_wp2
      go_ret
      exact ⟨by rw [e]; rfl, hgr⟩
    · obtain ⟨j, rfl⟩ : ∃ j, k = j + 1 := ⟨k - 1, by omega⟩
      rw [show ((j + 1 : Nat) : Int) - 1 = (j : Int) from by omega]
      obtain ⟨m0, m1, m2⟩ := rinv_room v j o (unhide hi)
      have UP := hide (rinv_up v j o (unhide hi)); have DN := hide (rinv_dn v j o (unhide hi))
      have AA := hide (unhide AB (o + 2 ^ j) (by unfold U64; omega))
      clear hk0 ST AB hi
      by_cases c : v < (o + 2 ^ j) * (o + 2 ^ j)
      · have IV := hide (unhide DN c)
        rw [show decide (v < (o + 2 ^ j) * (o + 2 ^ j)) = true from by simpa using c] at AA
        clear c UP DN
        go_wp2_with fail
        refine (unhide AA _).mono ?_
        rintro e w1 ⟨rfl, hg1⟩
        obtain ⟨d0, d1⟩ := gat2 hg1 _ _ _ ⟨c0, c1⟩
        have k1 : Grown w w1 := gtrans hgr hg1
        clear hg1 hgr c0 c1
        go_wp2
        go_roundw
        case rel => exact ⟨j, o, by omega, by go_num, rfl, IV, ⟨d0, d1⟩, k1⟩
        case measure => simp [intOf]
      · have IV := hide (unhide UP c)
        rw [show decide (v < (o + 2 ^ j) * (o + 2 ^ j)) = false from by simpa using c] at AA
        clear c UP DN
        go_wp2_with fail
        refine (unhide AA _).mono ?_
        rintro e w1 ⟨rfl, hg1⟩
        obtain ⟨d0, d1⟩ := gat2 hg1 _ _ _ ⟨c0, c1⟩
        have k1 : Grown w w1 := gtrans hgr hg1
        clear hg1 hgr c0 c1
        go_wp2
        go_roundw
        case rel => exact ⟨j, o + 2 ^ j, by omega, by go_num, rfl, IV, ⟨d0, d1⟩, k1⟩
        case measure => simp [intOf]

theorem whE_le (v : Int) (h0 : 0 ≤ v) (h1 : v < 170141183460469231731687303715884105728) : (rt v ≤ 9223372036854775807 → whN v = rt v ∧ whE v = 0) ∧ (9223372036854775807 < rt v → whN v = 0 ∧ whE v = 2) := by
  constructor
  · intro h
    by_cases c : v < 85070591730234615865843651857942052864
    · exact wh_good v ⟨h0, c⟩
    · have := rt_ge63 v (by omega); omega
  · intro h
    by_cases c : v < 85070591730234615865843651857942052864
    · have := rt_lt63 v h0 c; omega
    · exact wh_bad v (by omega)

set_option maxHeartbeats 1000000 in
theorem refNearestR (v : Int) (h0 : 0 ≤ v) (h1 : v ≤ 170141183460469231694793815568465002498) (w : World) :
    Calls Tryz.prog 74 #[.agg #[.int .i64 (hiOf v), .int .u64 (loOf v)]] w fun e w' => e = .returned (.int .u64 (nr v)) ∧ Grown w w' := by
  have R := hide (fun w => refRoot v h0 (by omega) w)
  have r0 := rt_nonneg v
  have r1 := rt_lt64 v h0 (by omega)
  obtain ⟨-, r2, -⟩ := rt_is v h0
  have r3 := Int.mul_nonneg r0 r0
  have Q := hide (fun w => refSquare (rt v) (by unfold U64; omega) w)
  have A := hide (fun w => refAddV (rt v * rt v) (rt v) w)
  rw [show hiOf (rt v) = 0 from by unfold hiOf; omega, show loOf (rt v) = rt v from by unfold loOf; omega] at A
  have K := hide (fun w => refCmpV v (rt v * rt v + rt v) w)
  rw [wrapW_in v (by omega), wrapW_in (rt v * rt v + rt v) (by omega)] at K
  by_cases c : rt v * rt v + rt v < v
  · have e : nr v = rt v + 1 := by unfold nr; rw [if_pos c]
    rw [e]
    rw [cmpI_gt _ _ c] at K
    clear e c r2 r3 h0 h1
    generalize rt v = r at *
    go_enter Tryz.func74, Tryz.ntmps74
    go_wp2_with fail
    refine (unhide R _).mono ?_
    rintro e w1 ⟨rfl, hg1⟩
    obtain ⟨d0, d1⟩ := gat2 hg1 w.heap.size (.int .i64 (hiOf v)) (.int .u64 (loOf v)) (by constructor <;> simp [go_sem])
    have k1 : Grown w w1 := gtrans ((Grown.refl _).alloc _ _) hg1
    clear hg1
    go_wp2_with fail
    refine (unhide Q _).mono ?_
    rintro e w2 ⟨rfl, hg2⟩
    go_wp2_with fail
    refine (unhide A _).mono ?_
    rintro e w3 ⟨rfl, hg3⟩
    obtain ⟨b0, b1⟩ := gat2 (gtrans hg2 hg3) _ _ _ ⟨d0, d1⟩
    have k3 : Grown w w3 := gtrans k1 (gtrans hg2 hg3)
    have l3 := heap_gt b0
    clear hg2 hg3 k1 d0 d1
    go_wp2_with fail
    refine (unhide K _).mono ?_
    rintro e w4 ⟨rfl, hg4⟩
    have k4 : Grown w w4 := gtrans (k3.alloc _ _) hg4
    clear hg4 k3
    go_wp2
    go_ret
    exact ⟨rfl, k4⟩
  · have e : nr v = rt v := by unfold nr; rw [if_neg c]
    rw [e]
    have kc := cmpI_le v (rt v * rt v + rt v) (by omega)
    generalize cmpI v (rt v * rt v + rt v) = q at *
    clear e c r2 r3 h0 h1
    generalize rt v = r at *
    go_enter Tryz.func74, Tryz.ntmps74
    go_wp2_with fail
    refine (unhide R _).mono ?_
    rintro e w1 ⟨rfl, hg1⟩
    obtain ⟨d0, d1⟩ := gat2 hg1 w.heap.size (.int .i64 (hiOf v)) (.int .u64 (loOf v)) (by constructor <;> simp [go_sem])
    have k1 : Grown w w1 := gtrans ((Grown.refl _).alloc _ _) hg1
    clear hg1
    go_wp2_with fail
    refine (unhide Q _).mono ?_
    rintro e w2 ⟨rfl, hg2⟩
    go_wp2_with fail
    refine (unhide A _).mono ?_
    rintro e w3 ⟨rfl, hg3⟩
    obtain ⟨b0, b1⟩ := gat2 (gtrans hg2 hg3) _ _ _ ⟨d0, d1⟩
    have k3 : Grown w w3 := gtrans k1 (gtrans hg2 hg3)
    have l3 := heap_gt b0
    clear hg2 hg3 k1 d0 d1
    go_wp2_with fail
    refine (unhide K _).mono ?_
    rintro e w4 ⟨rfl, hg4⟩
    have k4 : Grown w w4 := gtrans (k3.alloc _ _) hg4
    clear hg4 k3
    go_wp2
    go_ret
    exact ⟨rfl, k4⟩

set_option maxHeartbeats 400000 in
theorem refSqrtR (a : Int) (ha : I64 a) (w : World) :
    Calls Tryz.prog 50 #[.int .i64 a] w fun e w' => e = .returned (.tuple #[.int .i64 (sqN a), .bool (decide (a < 0))]) ∧ Grown w w' := by
  by_cases c : a < 0
  · have e1 : sqN a = 0 := by unfold sqN; rw [if_pos c]
    have e2 : decide (a < 0) = true := by simpa using c
    rw [e1, e2]
    clear e1 e2
    go_enter Tryz.func50, Tryz.ntmps50
    go_wp2
    go_ret2
    exact ⟨rfl, Grown.refl _⟩
  · have e1 : sqN a = nr (a * 4294967296) := by unfold sqN; rw [if_neg c]
    have e2 : decide (a < 0) = false := by simpa using c
    have b := sq_lt63 a (by omega) ha
    have b0 := nr_nonneg (a * 4294967296)
    have M := hide (fun w => refMul a 4294967296 ha (by unfold I64; omega) w)
    have N := hide (fun w => refNearestR (a * 4294967296) (by omega) (by unfold I64 at ha; omega) w)
    rw [e1, e2]
    clear e1 e2 ha
    generalize nr (a * 4294967296) = q at *
    go_enter Tryz.func50, Tryz.ntmps50
    go_wp2_with fail
    refine (unhide M _).mono ?_
    rintro e w1 ⟨rfl, hg1⟩
    go_wp2_with fail
    refine (unhide N _).mono ?_
    rintro e w2 ⟨rfl, hg2⟩
    go_wp2
    go_ret2
    exact ⟨by first | rfl | (rw [show IntKind.i64.wrap q = q from by rw [IntKind.wrap_i64]; omega]; rfl), gtrans hg1 hg2⟩

end Go.Proofs.YtecelkneiffceaaGreat
