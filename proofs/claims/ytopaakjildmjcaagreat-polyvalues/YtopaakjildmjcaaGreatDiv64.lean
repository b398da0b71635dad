/- math/bits.Div64, walked: the quotient and the rest of two halves by one. -/
import Derived.Test.YtopaakjildmjcaaGreatLen64
import Derived.Test.YtopaakjildmjcaaGreatDivMath
import Derived.Test.YtopaakjildmjcaaGreatWideD
import Derived.Deep.DeepCutAuto
import Derived.Deep.CutBlock
namespace Go.Proofs.YtopaakjildmjcaaGreat
open Go.RowKit Go.Proofs.Wd
set_option linter.unusedVariables false
set_option linter.unusedSimpArgs false
set_option maxRecDepth 10000

set_option maxHeartbeats 4000000 in
set_option maxRecDepth 100000 in
theorem div64_gen (h l y : Int) (h1 : 0 < h) (h2 : h < y) (h3 : y < 18446744073709551616) (h4 : U64 l) : DivSays h l y := by
  intro w
  unfold U64 at h4
  have hyh : decide (y ≤ h) = false := by simp; omega
  go_enter Tryz.func146, Tryz.ntmps146
  go_wp2_with fail
  refine (lead64 y (by omega) h3 _).mono ?_
  rintro e w1 ⟨s, rfl, ⟨s1, s2, s3, s4⟩, rfl⟩
  obtain ⟨S, hS⟩ : ∃ S, (2 : Int) ^ s.toNat = S := ⟨_, rfl⟩
  obtain ⟨Y, hY⟩ : ∃ Y, y * S = Y := ⟨_, rfl⟩
  rw [hS, hY] at s3 s4
  have rdy := div_ready h l y s S hS h1 h2 s1 s2 (by rw [hY]; exact s3) (by rw [hY]; exact s4) h4.1 h4.2
  rw [hY] at rdy
  obtain ⟨S0, H0, H1, ru, u0, u1, hN⟩ := rdy
  obtain ⟨HS, hHS⟩ : ∃ HS, h * S = HS := ⟨_, rfl⟩
  rw [hHS] at H0 H1 ru u0 u1 hN
  obtain ⟨u, hu⟩ : ∃ u, HS + l / 2 ^ (64 - s).toNat = u := ⟨_, rfl⟩
  rw [hu] at ru u0 u1 hN
  obtain ⟨t, ht⟩ : ∃ t, IntKind.u64.wrap (l * S) = t := ⟨_, rfl⟩
  have ht' : l * S % 18446744073709551616 = t := by rw [← ht, IntKind.wrap_u64]
  rw [ht'] at hN
  have t0 : 0 ≤ t := by omega
  have t1 : t < 18446744073709551616 := by omega
  have my := mask32 Y (by omega) s4
  have mt := mask32 t t0 t1
  obtain ⟨y1, hy1⟩ : ∃ y1, Y / 4294967296 = y1 := ⟨_, rfl⟩
  obtain ⟨y0, hy0⟩ : ∃ y0, Y % 4294967296 = y0 := ⟨_, rfl⟩
  obtain ⟨v1, hv1⟩ : ∃ v1, t / 4294967296 = v1 := ⟨_, rfl⟩
  obtain ⟨v0, hv0⟩ : ∃ v0, t % 4294967296 = v0 := ⟨_, rfl⟩
  rw [hy0] at my
  rw [hv0] at mt
  have eY : Y = y1 * 4294967296 + y0 := by omega
  have bY1 : 2147483648 ≤ y1 := by omega
  have bY2 : y1 < 4294967296 := by omega
  have bY3 : 0 ≤ y0 := by omega
  have bY4 : y0 < 4294967296 := by omega
  have bv1 : 0 ≤ v1 := by omega
  have bv2 : v1 < 4294967296 := by omega
  have bv3 : 0 ≤ v0 := by omega
  have bv4 : v0 < 4294967296 := by omega
  have eN : (h * 18446744073709551616 + l) * S = (u * 4294967296 + v1) * 4294967296 + v0 := by rw [hN]; omega
  have fg := first_guess u v1 y1 y0 bY1 bY3 bY4 u0 (by omega) bv1 bv2
  rw [← eY] at fg
  obtain ⟨q, hq⟩ : ∃ q, u / y1 = q := ⟨_, rfl⟩
  rw [hq] at fg
  obtain ⟨p, hp⟩ : ∃ p, q * y1 = p := ⟨_, rfl⟩
  rw [hp] at fg
  obtain ⟨fg1, fg2, fg3, fg4⟩ := fg
  have kn := knuth (h * 18446744073709551616 + l) y S Y u v1 v0 (by omega) S0 hY.symm eN bv3 bv4
  have U0 : 0 ≤ (u * 4294967296 + v1) / Y := Int.ediv_nonneg (by omega) (by omega)
  have U1 := digit_lt u v1 Y (by omega) u1 bv2
  have HSS := hide hS
  have HY := hide eY; have HU := hide hu; have HN := hide eN; have HP := hide hp; have HQ := hide hq; have HK := hide kn; have HF := hide fg1; have HUU := hide U1; have HU0 := hide U0
  have q0 : 0 ≤ q := by omega
  have p0 : 0 ≤ p := by rw [← hp]; exact Int.mul_nonneg q0 (by omega)
  have p1 : p ≤ u := by omega
  clear eY hu eN hN kn fg1 ht' U0 U1 hy0 hv0
  obtain ⟨G, hG⟩ : ∃ G, (u * 4294967296 + v1) / Y = G := ⟨_, rfl⟩
  have HG := hide hG
  have G0 : 0 ≤ G := by rw [← hG]; exact unhide HU0
  have G1 : G < 4294967296 := by rw [← hG]; exact unhide HUU
  have G2 : G ≤ q := by rw [← hG]; exact unhide HF
  clear hG
  go_upto_block 0 with fail
  go_cut [15, 16] (fun s15 s16 wx => s15 = .int .u64 G ∧ wx = w1)
  case first =>
    clear hS hY hHS ru ht my mt hy1 hv1 hp hq
    go_wp2
    go_loop [15, 16] (fun a b => ∃ q r : Int, a = .int .u64 q ∧ b = .int .u64 r ∧ G ≤ q ∧ q ≤ 4294967297 ∧ Hid (r = u - q * y1) ∧ 0 ≤ r ∧ r < 4294967296) (fun a _ => (intOf a).toNat)
    case atStart => exact ⟨u / y1, u - p, rfl, rfl, by rw [unhide HQ]; exact G2, by rw [unhide HQ]; exact fg2, by rw [unhide HQ, unhide HP]; exact hide rfl, by omega, by omega⟩
    case round =>
      obtain ⟨q, r, rfl, rfl, i1, i2, i3, i4, i5⟩ := hrel
      by_cases c1 : 4294967296 ≤ q
      · have i6 : G ≤ q - 1 := by omega
        have i7 : Hid (r + y1 = u - (q - 1) * y1) := by have := unhide i3; exact hide (by rw [this]; grind)
        by_cases c2 : 4294967296 ≤ r + y1
        · have i8 : q - 1 = G := by
            have a := rest_great u v1 y1 y0 (q - 1) (r + y1) (unhide i7) c2 (by omega) (by omega) bY3 bY4 (by omega)
            rw [← unhide HY] at a
            rw [← unhide HG]; exact digit _ _ _ (by omega) (by rw [unhide HG]; exact i6) a
          have I8 := hide i8
          clear i8
          go_wp2
          go_meet
          exact ⟨by rw [unhide I8], rfl⟩
        · go_wp2
          go_round
          case rel => exact ⟨q - 1, r + y1, rfl, rfl, i6, by omega, i7, by omega, by omega⟩
          case measure => simp [intOf]; omega
      · have c1' : q < 4294967296 := by omega
        have q0 : 0 ≤ q := by omega
        have pq0 : 0 ≤ q * y0 := Int.mul_nonneg q0 bY3
        have pq1 : q * y0 ≤ q * 4294967296 := Int.mul_le_mul_of_nonneg_left (by omega) q0
        have gs := guess u v1 y1 y0 q r (unhide i3)
        rw [← unhide HY] at gs
        have qz : q = 0 → q * y0 = 0 := fun h => by rw [h]; simp
        by_cases c2 : 4294967296 * r + v1 < q * y0
        · have i6 : G ≤ q - 1 := by rw [← unhide HG]; exact too_great _ _ _ (by omega) (gs.1 c2)
          have i7 : Hid (r + y1 = u - (q - 1) * y1) := by have := unhide i3; exact hide (by rw [this]; grind)
          have q1 : 1 ≤ q := by omega
          clear gs qz
          by_cases c3 : 4294967296 ≤ r + y1
          · have i8 : q - 1 = G := by
              have a := rest_great u v1 y1 y0 (q - 1) (r + y1) (unhide i7) c3 (by omega) (by omega) bY3 bY4 (by omega)
              rw [← unhide HY] at a
              rw [← unhide HG]; exact digit _ _ _ (by omega) (by rw [unhide HG]; exact i6) a
            have I8 := hide i8
            clear i8
            go_wp2
            go_meet
            exact ⟨by rw [unhide I8], rfl⟩
          · go_wp2
            go_round
            case rel => exact ⟨q - 1, r + y1, rfl, rfl, i6, by omega, i7, by omega, by omega⟩
            case measure => simp [intOf]; omega
        · have i8 : q = G := by
            rw [← unhide HG]; exact digit _ _ _ (by omega) (by rw [unhide HG]; exact i1) (by have := gs.2; omega)
          have I8 := hide i8
          clear gs qz i8
          go_wp2
          go_meet
          exact ⟨by rw [unhide I8], rfl⟩
  case rest =>
  obtain ⟨rfl, rfl⟩ := hcut
  have e1 := Int.emod_add_mul_ediv (u * 4294967296 + v1) Y
  have R0 := Int.emod_nonneg (u * 4294967296 + v1) (by omega : Y ≠ 0)
  have R1 := Int.emod_lt_of_pos (u * 4294967296 + v1) (by omega : 0 < Y)
  rw [unhide HG] at e1
  obtain ⟨R, hR⟩ : ∃ R, (u * 4294967296 + v1) % Y = R := ⟨_, rfl⟩
  rw [hR] at e1 R0 R1
  have rr : IntKind.u64.wrap (IntKind.u64.wrap (IntKind.u64.wrap (u * 4294967296) + v1) - IntKind.u64.wrap (G * Y)) = R := by
    rw [Int.mul_comm Y G] at e1
    simp only [IntKind.wrap_u64]
    generalize G * Y = P at *
    omega
  have HR := hide hR
  have E1 := hide e1
  clear hR e1
  have gg := first_guess R v0 y1 y0 bY1 bY3 bY4 R0 (by rw [← unhide HY]; exact R1) bv3 bv4
  rw [← unhide HY] at gg
  obtain ⟨qq, hqq⟩ : ∃ qq, R / y1 = qq := ⟨_, rfl⟩
  rw [hqq] at gg
  obtain ⟨pp, hpp⟩ : ∃ pp, qq * y1 = pp := ⟨_, rfl⟩
  rw [hpp] at gg
  obtain ⟨gg1, gg2, gg3, gg4⟩ := gg
  obtain ⟨G2, hG2⟩ : ∃ G2, (R * 4294967296 + v0) / Y = G2 := ⟨_, rfl⟩
  have HG2 := hide hG2
  have G20 : 0 ≤ G2 := by rw [← hG2]; exact Int.ediv_nonneg (by omega) (by omega)
  have G21 : G2 < 4294967296 := by rw [← hG2]; exact digit_lt R v0 Y (by omega) R1 bv4
  have G22 : G2 ≤ qq := by rw [← hG2]; exact gg1
  have qq0 : 0 ≤ qq := by omega
  have pp0 : 0 ≤ pp := by rw [← hpp]; exact Int.mul_nonneg qq0 (by omega)
  have pp1 : pp ≤ R := by omega
  have HQ2 := hide hqq; have HP2 := hide hpp
  clear gg1 hG2 hS hY hHS ru ht my mt hy1 hv1 hp hq
  go_upto_block 2 with fail
  go_cut [18, 16] (fun s18 s16 wx => s18 = .int .u64 G2 ∧ wx = wc)
  case first =>
    clear rr hqq hpp
    go_wp2
    go_loop [18, 16] (fun a b => ∃ q r : Int, a = .int .u64 q ∧ b = .int .u64 r ∧ G2 ≤ q ∧ q ≤ 4294967297 ∧ Hid (r = R - q * y1) ∧ 0 ≤ r ∧ r < 4294967296) (fun a _ => (intOf a).toNat)
    case atStart => exact ⟨R / y1, R - pp, rfl, rfl, by rw [unhide HQ2]; exact G22, by rw [unhide HQ2]; exact gg2, by rw [unhide HQ2, unhide HP2]; exact hide rfl, by omega, by omega⟩
    case round =>
      obtain ⟨q, r, rfl, rfl, i1, i2, i3, i4, i5⟩ := hrel
      by_cases c1 : 4294967296 ≤ q
      · have i6 : G2 ≤ q - 1 := by omega
        have i7 : Hid (r + y1 = R - (q - 1) * y1) := by have := unhide i3; exact hide (by rw [this]; grind)
        by_cases c2 : 4294967296 ≤ r + y1
        · have i8 : q - 1 = G2 := by
            have a := rest_great R v0 y1 y0 (q - 1) (r + y1) (unhide i7) c2 (by omega) (by omega) bY3 bY4 (by omega)
            rw [← unhide HY] at a
            rw [← unhide HG2]; exact digit _ _ _ (by omega) (by rw [unhide HG2]; exact i6) a
          have I8 := hide i8
          clear i8
          go_wp2
          go_meet
          exact ⟨by rw [unhide I8], rfl⟩
        · go_wp2
          go_round
          case rel => exact ⟨q - 1, r + y1, rfl, rfl, i6, by omega, i7, by omega, by omega⟩
          case measure => simp [intOf]; omega
      · have c1' : q < 4294967296 := by omega
        have q0 : 0 ≤ q := by omega
        have pq0 : 0 ≤ q * y0 := Int.mul_nonneg q0 bY3
        have pq1 : q * y0 ≤ q * 4294967296 := Int.mul_le_mul_of_nonneg_left (by omega) q0
        have gs := guess R v0 y1 y0 q r (unhide i3)
        rw [← unhide HY] at gs
        have qz : q = 0 → q * y0 = 0 := fun h => by rw [h]; simp
        by_cases c2 : 4294967296 * r + v0 < q * y0
        · have i6 : G2 ≤ q - 1 := by rw [← unhide HG2]; exact too_great _ _ _ (by omega) (gs.1 c2)
          have i7 : Hid (r + y1 = R - (q - 1) * y1) := by have := unhide i3; exact hide (by rw [this]; grind)
          have q1 : 1 ≤ q := by omega
          clear gs qz
          by_cases c3 : 4294967296 ≤ r + y1
          · have i8 : q - 1 = G2 := by
              have a := rest_great R v0 y1 y0 (q - 1) (r + y1) (unhide i7) c3 (by omega) (by omega) bY3 bY4 (by omega)
              rw [← unhide HY] at a
              rw [← unhide HG2]; exact digit _ _ _ (by omega) (by rw [unhide HG2]; exact i6) a
            have I8 := hide i8
            clear i8
            go_wp2
            go_meet
            exact ⟨by rw [unhide I8], rfl⟩
          · go_wp2
            go_round
            case rel => exact ⟨q - 1, r + y1, rfl, rfl, i6, by omega, i7, by omega, by omega⟩
            case measure => simp [intOf]; omega
        · have i8 : q = G2 := by
            rw [← unhide HG2]; exact digit _ _ _ (by omega) (by rw [unhide HG2]; exact i1) (by have := gs.2; omega)
          have I8 := hide i8
          clear gs qz i8
          go_wp2
          go_meet
          exact ⟨by rw [unhide I8], rfl⟩
  case rest =>
  obtain ⟨rfl, rfl⟩ := hcut
  have kn := unhide HK
  rw [unhide HG, unhide HR, unhide HG2] at kn
  have e2 := Int.emod_add_mul_ediv (R * 4294967296 + v0) Y
  have R2a := Int.emod_nonneg (R * 4294967296 + v0) (by omega : Y ≠ 0)
  have R2b := Int.emod_lt_of_pos (R * 4294967296 + v0) (by omega : 0 < Y)
  rw [unhide HG2] at e2
  obtain ⟨RR, hRR⟩ : ∃ RR, (R * 4294967296 + v0) % Y = RR := ⟨_, rfl⟩
  rw [hRR] at e2 R2a R2b kn
  have fin : IntKind.u64.wrap (IntKind.u64.wrap (IntKind.u64.wrap (R * 4294967296) + v0) - IntKind.u64.wrap (G2 * Y)) / 2 ^ s.toNat = val h l % y := by
    have rr2 : IntKind.u64.wrap (IntKind.u64.wrap (IntKind.u64.wrap (R * 4294967296) + v0) - IntKind.u64.wrap (G2 * Y)) = RR := by
      rw [Int.mul_comm Y G2] at e2
      simp only [IntKind.wrap_u64]
      generalize G2 * Y = P at *
      omega
    rw [rr2, unhide HSS]; exact kn.2
  have FIN := hide fin; have FQ := hide (show G * 4294967296 + G2 = val h l / y from kn.1)
  clear fin kn e2 hRR rr hqq hpp
  go_wp2
  go_ret2
  exact ⟨by rw [← unhide FIN, ← unhide FQ]; rfl, Grown.refl _⟩

/-- math/bits.Div64 does what it says wherever it may be called. -/
theorem div64_all (h l y : Int) (h1 : 0 ≤ h) (h2 : h < y) (h3 : U64 y) (h4 : U64 l) : DivSays h l y := by
  by_cases e : h = 0
  · subst e; exact div64_says0 l y h4 h3 h2
  · exact div64_gen h l y (by omega) h2 h3.2 h4

end Go.Proofs.YtopaakjildmjcaaGreat
