/- Package root's whole root: half, guess, newton and Whole, walked: what each returns, in whole numbers. -/
import Derived.Test.YtecelkneiffceaaGreatRootMath
import Derived.Test.YtecelkneiffceaaGreatDiv64
import Derived.Test.YtecelkneiffceaaGreatWideV
import Derived.Deep.RegionHeld3
import Derived.Deep.DeepCutAuto
import Derived.WalkMore
namespace Go.Proofs.YtecelkneiffceaaGreat
open Go.RowKit Go.Proofs.Wd
set_option linter.unusedVariables false
set_option linter.unusedSimpArgs false
set_option maxRecDepth 10000

/-- math/bits.Len64 of 0. -/
theorem len64_0 (w : World) :
    Calls Tryz.prog 114 #[.int .u64 0] w fun e w' => e = .returned (.int .i64 0) ∧ w' = w := by
  have IX := fun w => Go.Lib.run_index_len8tab w 9 .u8 0 Tryz.underlying9 (by omega) (by omega)
  have h : Lib.len8 0 = 0 := by decide +kernel
  rw [h] at IX
  clear h
  go_enter Tryz.func114, Tryz.ntmps114
  go_wp2
  go_ret
  exact ⟨rfl, rfl⟩

/-- 2 to half of n, upwards. -/
def halfP (n : Int) : Int := 2 ^ ((n + 1) / 2).toNat
theorem halfP_pos (n : Int) : 0 < halfP n := Int.pow_pos (by decide)
theorem halfP_le (n : Int) (h : n ≤ 126) : halfP n ≤ 9223372036854775808 := by
  unfold halfP
  exact Int.le_trans (pow_le _ 63 (by omega)) (by decide)
theorem halfP_sq (n v : Int) (h0 : 0 ≤ n) (h : v < 2 ^ n.toNat) : v < halfP n * halfP n := by
  unfold halfP
  rw [← Int.pow_add]
  exact Int.lt_of_lt_of_le h (pow_le _ _ (by omega))

set_option maxHeartbeats 400000 in
theorem rootHalf (n : Int) (h0 : 0 ≤ n) (h1 : n ≤ 126) (w : World) :
    Calls Tryz.prog 115 #[.int .i64 n] w fun e w' => e = .returned (.int .u64 (halfP n)) ∧ Grown w w' := by
  have b0 : 0 ≤ (n + 1) / 2 := by omega
  have b1 : (n + 1) / 2 ≤ 63 := by omega
  have hp := halfP_le n h1
  have hq := halfP_pos n
  have ht : (n + 1).tdiv 2 = (n + 1) / 2 := Int.tdiv_eq_ediv_of_nonneg (by omega)
  go_enter Tryz.func115, Tryz.ntmps115
  go_wp2
  go_ret
  exact ⟨by rw [IntKind.wrap_u64]; unfold halfP at *; rw [Int.emod_eq_of_lt (by omega) (by omega)]; rfl, Grown.refl _⟩

theorem len_le62 (h n : Int) (hh : h < 4611686018427387904) (hn : LenIs h n) : n ≤ 62 := by
  obtain ⟨a, b, c, d⟩ := hn
  by_cases g : n ≤ 62
  · exact g
  · have := pow_le 62 (n - 1).toNat (by omega)
    have e : (2 : Int) ^ 62 = 4611686018427387904 := by decide
    omega
theorem len_val (h l n : Int) (hl : U64 l) (hn : LenIs h n) : val h l < 2 ^ (64 + n).toNat := by
  obtain ⟨a, b, c, d⟩ := hn
  unfold U64 at hl
  unfold val
  rw [show (64 + n).toNat = n.toNat + 64 from by omega, Int.pow_add, show (2 : Int) ^ 64 = 18446744073709551616 from by decide]
  generalize (2 : Int) ^ n.toNat = p at *
  have : (h + 1) * 18446744073709551616 ≤ p * 18446744073709551616 := Int.mul_le_mul_of_nonneg_right (by omega) (by decide)
  omega

set_option maxHeartbeats 400000 in
theorem rootGuess (h l : Int) (h0 : 0 ≤ h) (h1 : h < 4611686018427387904) (hl : U64 l) (hv : 0 < val h l) (w : World) :
    Calls Tryz.prog 103 #[.agg #[.int .i64 h, .int .u64 l]] w fun e w' => ∃ x, e = .returned (.int .u64 x) ∧ (val h l < x * x ∧ 0 < x ∧ x ≤ 9223372036854775808) ∧ Grown w w' := by
  have hl' := hl
  unfold U64 at hl'
  by_cases hz : h = 0
  · subst hz
    have hl0 : 0 < l := by unfold val at hv; omega
    clear h0 h1 hv
    go_enter Tryz.func103, Tryz.ntmps103
    go_wp2_with fail
    refine (len64_0 _).mono ?_
    rintro e w1 ⟨rfl, rfl⟩
    go_wp2_with fail
    refine (len64 l hl0 hl'.2 _).mono ?_
    rintro e w1 ⟨n, rfl, hn, rfl⟩
    have hn' := hn
    obtain ⟨n1, n2, -, n4⟩ := hn'
    have HS := hide (halfP_sq n (val 0 l) (by omega) (by unfold val; omega))
    have HP := hide (halfP_pos n); have HL := hide (halfP_le n (by omega))
    clear n4 hn
    go_wp2_with fail
    refine (rootHalf n (by omega) (by omega) _).mono ?_
    rintro e w1 ⟨rfl, hg1⟩
    go_wp2
    go_ret
    exact ⟨_, rfl, ⟨unhide HS, unhide HP, unhide HL⟩, gtrans ((Grown.refl _).alloc _ _) hg1⟩
  · have hh0 : 0 < h := by omega
    have hh1 : h < 18446744073709551616 := by omega
    clear h0 hv hz
    go_enter Tryz.func103, Tryz.ntmps103
    go_wp2_with fail
    refine (len64 h hh0 hh1 _).mono ?_
    rintro e w1 ⟨n, rfl, hn, rfl⟩
    have n5 := len_le62 h n h1 hn
    have n6 := len_val h l n hl hn
    have HS := hide (halfP_sq (64 + n) (val h l) (by obtain ⟨a, b, c, d⟩ := hn; omega) n6)
    have HP := hide (halfP_pos (64 + n)); have HL := hide (halfP_le (64 + n) (by omega))
    have n1 : 1 ≤ n := hn.1
    clear hn n6
    go_wp2_with fail
    refine (rootHalf (64 + n) (by omega) (by omega) _).mono ?_
    rintro e w1 ⟨rfl, hg1⟩
    go_wp2
    go_ret
    exact ⟨_, rfl, ⟨unhide HS, unhide HP, unhide HL⟩, gtrans ((Grown.refl _).alloc _ _) hg1⟩

theorem val_high (h l : Int) (hl : U64 l) : val h l / 18446744073709551616 = h := by unfold U64 at hl; unfold val; omega

set_option maxHeartbeats 1000000 in
theorem rootNewton (h l x : Int) (h0 : 0 ≤ h) (h1 : h < 4611686018427387904) (hl : U64 l) (hv : 0 < val h l) (hx : rt (val h l) ≤ x) (hx1 : x ≤ 9223372036854775808) (w : World) :
    Calls Tryz.prog 102 #[.agg #[.int .i64 h, .int .u64 l], .int .u64 x] w fun e w' => e = .returned (.int .u64 (rt (val h l))) ∧ Grown w w' := by
  have hlt : h < rt (val h l) := by
    have := high_lt (val h l) hv (by unfold U64 at hl; unfold val; omega)
    rw [val_high h l hl] at this
    exact this
  have D := hide (fun y h1 h2 => div64_all h l y h0 h1 h2 hl)
  have N1 := hide (fun y (hy : 0 < y) => newton_ge (val h l) y (by omega) hy)
  have N2 := hide (fun y (hy : 0 < y) => newton_end (val h l) y (by omega) hy)
  have P0 := hide (fun y (hy : 0 < y) => (Int.ediv_nonneg (by omega : 0 ≤ val h l) (Int.le_of_lt hy) : 0 ≤ val h l / y))
  have hwr : IntKind.u64.wrap h = h := by rw [IntKind.wrap_u64]; omega
  clear hl hv
  generalize rt (val h l) = r at *
  obtain ⟨v, hV⟩ : ∃ v, val h l = v := ⟨_, rfl⟩
  rw [hV] at N1 N2 P0
  have HV := hide hV
  clear hV
  go_enter Tryz.func102, Tryz.ntmps102
  go_wp2
  go_step3
  go_wp2
  go_step3
  go_wp2
  go_loopw [1] (fun s wr => ∃ y : Int, s = .int .u64 y ∧ r ≤ y ∧ y ≤ 9223372036854775808 ∧ (wr.cell? ⟨w.heap.size, 0, none⟩ = some (.int .i64 h) ∧ wr.cell? ⟨w.heap.size, 1, none⟩ = some (.int .u64 l)) ∧ Grown w wr) (fun s _ => (intOf s).toNat)
  case atStart => exact ⟨x, rfl, hx, hx1, ⟨by simp [go_sem], by simp [go_sem]⟩, (Grown.refl _).alloc _ _⟩
  case round =>
    obtain ⟨y, rfl, y1, y2, ⟨c0, c1⟩, hgr⟩ := hrel
    have y0 : 0 < y := by omega
    have C := hide (unhide D y (by omega) (by unfold U64; omega))
    have q0 := unhide P0 y y0
    have q1 := unhide N1 y y0
    have q2 := unhide N2 y y0 y1
    obtain ⟨q, hq⟩ : ∃ q, v / y = q := ⟨_, rfl⟩
    unfold DivSays at C
    rw [unhide HV, hq] at C
    rw [hq] at q0 q1 q2
    clear hq
    by_cases c : q < y
    · clear q2
      go_wp2_with fail
      refine (unhide C _).mono ?_
      rintro e w1 ⟨rfl, hg1⟩
      obtain ⟨d0, d1⟩ := gat2 hg1 _ _ _ ⟨c0, c1⟩
      have k1 : Grown w w1 := gtrans hgr hg1
      clear hg1 hgr c0 c1
      go_wp2
      go_roundw
      case rel => exact ⟨(y + q) / 2, by go_num, q1, by omega, ⟨d0, d1⟩, k1⟩
      case measure => simp [intOf]; omega
    · have e : y = r := q2 (by omega)
      subst e
      have c' : y ≤ q := by omega
      clear q2
      go_wp2_with fail
      refine (unhide C _).mono ?_
      rintro e w1 ⟨rfl, hg1⟩
      have k1 : Grown w w1 := gtrans hgr hg1
      go_wp2
      (try rw [Exit.noGoto_ret])
      go_ret
      exact ⟨rfl, k1⟩

theorem keep1 {w W w1 : World} {b0 : Nat} {x0 x1 : Value} (h : Grown W w1)
    (hv : W.cell? ⟨b0, 0, none⟩ = some x0 ∧ W.cell? ⟨b0, 1, none⟩ = some x1 ∧ Grown w W) :
    w1.cell? ⟨b0, 0, none⟩ = some x0 ∧ w1.cell? ⟨b0, 1, none⟩ = some x1 ∧ Grown w w1 :=
  ⟨gat h hv.1, gat h hv.2.1, gtrans hv.2.2 h⟩

/-- What Whole answers: a number, and an error. -/
def whN (v : Int) : Int := if 0 ≤ v ∧ v < 85070591730234615865843651857942052864 then rt v else 0
def whE (v : Int) : Int := if 0 ≤ v ∧ v < 85070591730234615865843651857942052864 then 0 else 2
theorem wh_bad (v : Int) (h : ¬ (0 ≤ v ∧ v < 85070591730234615865843651857942052864)) : whN v = 0 ∧ whE v = 2 := by unfold whN whE; rw [if_neg h, if_neg h]; exact ⟨rfl, rfl⟩
theorem wh_good (v : Int) (h : 0 ≤ v ∧ v < 85070591730234615865843651857942052864) : whN v = rt v ∧ whE v = 0 := by unfold whN whE; rw [if_pos h, if_pos h]; exact ⟨rfl, rfl⟩

set_option maxHeartbeats 1000000 in
theorem rootWhole_hl (h l : Int) (hh : I64 h) (hl : U64 l) (w : World) :
    Calls Tryz.prog 85 #[.agg #[.int .i64 h, .int .u64 l]] w fun e w' => e = .returned (.tuple #[.int .i64 (whN (val h l)), .int .i64 (whE (val h l))]) ∧ Grown w w' := by
  have hh' := hh
  have hl' := hl
  unfold I64 at hh'
  unfold U64 at hl'
  by_cases c1 : h < 0
  · rw [(wh_bad (val h l) (by unfold val; omega)).1, (wh_bad (val h l) (by unfold val; omega)).2]
    go_enter Tryz.func85, Tryz.ntmps85
    go_wp2
    go_ret2
    exact ⟨rfl, (Grown.refl _).alloc _ _⟩
  · have c1' : 0 ≤ h := by omega
    by_cases c2 : 4611686018427387904 ≤ h
    · rw [(wh_bad (val h l) (by unfold val; omega)).1, (wh_bad (val h l) (by unfold val; omega)).2]
      go_enter Tryz.func85, Tryz.ntmps85
      go_wp2
      go_ret2
      exact ⟨rfl, (Grown.refl _).alloc _ _⟩
    · have c2' : h < 4611686018427387904 := by omega
      have O := hide (fun w => wideOf 0 (by unfold I64; omega) w)
      rw [show hiOf 0 = 0 from by decide, show loOf 0 = 0 from by decide] at O
      have W := wh_good (val h l) (by unfold val; omega)
      rw [W.1, W.2]
      clear W hh c1 c2
      by_cases c3 : h = 0 ∧ l = 0
      · obtain ⟨rfl, rfl⟩ := c3
        have e0 : rt (val 0 0) = 0 := rt_eq _ _ ⟨by decide, by decide, by decide⟩
        rw [e0]
        clear e0 hl
        go_enter Tryz.func85, Tryz.ntmps85
        go_wp2
        go_region_held3 (fun w' => w'.cell? ⟨w.heap.size, 0, none⟩ = some (.int .i64 0) ∧ w'.cell? ⟨w.heap.size, 1, none⟩ = some (.int .u64 0) ∧ Grown w w')
          (first | exact keep1 hg9 (by assumption) | (refine ⟨?_, ?_, Grown.drew ((Grown.refl _).alloc _ _)⟩ <;> simp [go_sem, *]))
          (first | (go_at_call 86; refine (unhide O _).mono ?_; rintro e w9 ⟨rfl, hg9⟩))
        go_wp2
        go_ret2
        exact ⟨rfl, gtrans ((Grown.refl _).alloc _ _) hg9⟩
      · have hv0 : 0 < val h l := by unfold val; omega
        have G := hide (fun w => rootGuess h l c1' c2' hl hv0 w)
        have N := hide (fun x a b w => rootNewton h l x c1' c2' hl hv0 a b w)
        have L := hide (fun x (hx : 0 < x) a => Int.le_of_lt (rt_lt (val h l) x (Int.le_of_lt hv0) (Int.le_of_lt hx) a))
        have r0 := rt_nonneg (val h l)
        have r1 := rt_lt63 (val h l) (by omega) (by unfold val; omega)
        by_cases hz : h = 0
        · subst hz
          have hne : (l == 0) = false := by
            have : l ≠ 0 := fun b => c3 ⟨rfl, b⟩
            simp [this]
          clear c3 hv0 hl
          generalize rt (val 0 l) = r at *
          have HW : Hid (IntKind.i64.wrap r = r) := hide (by rw [IntKind.wrap_i64]; omega)
          go_enter Tryz.func85, Tryz.ntmps85
          go_wp2
          go_region_held3 (fun w' => w'.cell? ⟨w.heap.size, 0, none⟩ = some (.int .i64 0) ∧ w'.cell? ⟨w.heap.size, 1, none⟩ = some (.int .u64 l) ∧ Grown w w')
            (first | exact keep1 hg9 (by assumption) | (refine ⟨?_, ?_, Grown.drew ((Grown.refl _).alloc _ _)⟩ <;> simp [go_sem, *]))
            (first | (go_at_call 86; refine (unhide O _).mono ?_; rintro e w9 ⟨rfl, hg9⟩))
          obtain ⟨d0, d1, k9⟩ := keep1 (Grown.refl w9) (by assumption)
          go_wp2
          go_region_held3 (fun w' => w'.cell? ⟨w.heap.size, 0, none⟩ = some (.int .i64 0) ∧ w'.cell? ⟨w.heap.size, 1, none⟩ = some (.int .u64 l) ∧ Grown w w')
            (first | exact keep1 hg8 (by assumption) | exact keep1 hg7 (by assumption) | exact ⟨d0, d1, Grown.drew k9⟩)
            (first
              | (go_at_call 103; refine (unhide G _).mono ?_; rintro e w8 ⟨x, rfl, ⟨x1, x2, x3⟩, hg8⟩; have x4 := unhide L x x2 x1; clear x1)
              | (go_at_call 102; refine (unhide N x x4 x3 _).mono ?_; rintro e w7 ⟨rfl, hg7⟩))
          go_wp2
          go_ret2
          exact ⟨by rw [unhide HW]; rfl, (keep1 (Grown.refl w7) (by assumption)).2.2⟩
        · have hne : (h == 0) = false := by simp [hz]
          clear c3 hv0 hl hz
          generalize rt (val h l) = r at *
          have HW : Hid (IntKind.i64.wrap r = r) := hide (by rw [IntKind.wrap_i64]; omega)
          go_enter Tryz.func85, Tryz.ntmps85
          go_wp2
          go_region_held3 (fun w' => w'.cell? ⟨w.heap.size, 0, none⟩ = some (.int .i64 h) ∧ w'.cell? ⟨w.heap.size, 1, none⟩ = some (.int .u64 l) ∧ Grown w w')
            (first | exact keep1 hg9 (by assumption) | (refine ⟨?_, ?_, Grown.drew ((Grown.refl _).alloc _ _)⟩ <;> simp [go_sem, *]))
            (first | (go_at_call 86; refine (unhide O _).mono ?_; rintro e w9 ⟨rfl, hg9⟩))
          obtain ⟨d0, d1, k9⟩ := keep1 (Grown.refl w9) (by assumption)
          go_wp2
          go_region_held3 (fun w' => w'.cell? ⟨w.heap.size, 0, none⟩ = some (.int .i64 h) ∧ w'.cell? ⟨w.heap.size, 1, none⟩ = some (.int .u64 l) ∧ Grown w w')
            (first | exact keep1 hg8 (by assumption) | exact keep1 hg7 (by assumption) | exact ⟨d0, d1, Grown.drew k9⟩)
            (first
              | (go_at_call 103; refine (unhide G _).mono ?_; rintro e w8 ⟨x, rfl, ⟨x1, x2, x3⟩, hg8⟩; have x4 := unhide L x x2 x1; clear x1)
              | (go_at_call 102; refine (unhide N x x4 x3 _).mono ?_; rintro e w7 ⟨rfl, hg7⟩))
          go_wp2
          go_ret2
          exact ⟨by rw [unhide HW]; rfl, (keep1 (Grown.refl w7) (by assumption)).2.2⟩

theorem rootWhole (v : Int) (w : World) :
    Calls Tryz.prog 85 #[.agg #[.int .i64 (hiOf v), .int .u64 (loOf v)]] w fun e w' => e = .returned (.tuple #[.int .i64 (whN (wrapW v)), .int .i64 (whE (wrapW v))]) ∧ Grown w w' := by
  have q := rootWhole_hl (hiOf v) (loOf v) (hiOf_I64 _) (loOf_U64 _) w
  rw [val_of] at q
  exact q

end Go.Proofs.YtecelkneiffceaaGreat
