/- What is rounded is half a step away at most, and comparing is an order: the walk of the law WideNear. -/
import Derived.Test.YtpmlfidnojcplaaWideV
import Derived.Test.YtpmlfidnojcplaaNearMath
import Derived.Deep.DeepCutAuto
namespace Go.Proofs.Ytpmlfidnojcplaa
open Go.RowKit Go.Proofs.Wd
set_option linter.unusedVariables false
set_option linter.unusedSimpArgs false
attribute [local go_sem ↓] Go.wp_at_zero Go.wp_at_succ

theorem with_gat2 {W w1 : World} {G : Prop} (h : Grown W w1) (b : Nat) (x y : Value) (h0 : W.cell? ⟨b, 0, none⟩ = some x) (h1 : W.cell? ⟨b, 1, none⟩ = some y) (k : w1.cell? ⟨b, 0, none⟩ = some x → w1.cell? ⟨b, 1, none⟩ = some y → G) : G := k (gat h h0) (gat h h1)
theorem keep5 {w W w1 : World} {b0 b1 b2 b3 b4 : Nat} {x00 x01 x10 x11 x20 x21 x30 x31 x40 x41 : Value} (h : Grown W w1)
    (hv : W.cell? ⟨b0, 0, none⟩ = some x00 ∧ W.cell? ⟨b0, 1, none⟩ = some x01 ∧ W.cell? ⟨b1, 0, none⟩ = some x10 ∧ W.cell? ⟨b1, 1, none⟩ = some x11 ∧ W.cell? ⟨b2, 0, none⟩ = some x20 ∧ W.cell? ⟨b2, 1, none⟩ = some x21 ∧ W.cell? ⟨b3, 0, none⟩ = some x30 ∧ W.cell? ⟨b3, 1, none⟩ = some x31 ∧ W.cell? ⟨b4, 0, none⟩ = some x40 ∧ W.cell? ⟨b4, 1, none⟩ = some x41 ∧ Grown w W) :
    w1.cell? ⟨b0, 0, none⟩ = some x00 ∧ w1.cell? ⟨b0, 1, none⟩ = some x01 ∧ w1.cell? ⟨b1, 0, none⟩ = some x10 ∧ w1.cell? ⟨b1, 1, none⟩ = some x11 ∧ w1.cell? ⟨b2, 0, none⟩ = some x20 ∧ w1.cell? ⟨b2, 1, none⟩ = some x21 ∧ w1.cell? ⟨b3, 0, none⟩ = some x30 ∧ w1.cell? ⟨b3, 1, none⟩ = some x31 ∧ w1.cell? ⟨b4, 0, none⟩ = some x40 ∧ w1.cell? ⟨b4, 1, none⟩ = some x41 ∧ Grown w w1 :=
  ⟨gat h hv.1, gat h hv.2.1, gat h hv.2.2.1, gat h hv.2.2.2.1, gat h hv.2.2.2.2.1, gat h hv.2.2.2.2.2.1, gat h hv.2.2.2.2.2.2.1, gat h hv.2.2.2.2.2.2.2.1, gat h hv.2.2.2.2.2.2.2.2.1, gat h hv.2.2.2.2.2.2.2.2.2.1, gtrans hv.2.2.2.2.2.2.2.2.2.2 h⟩

set_option maxHeartbeats 4000000 in
set_option maxRecDepth 100000 in
theorem lawWideNear_core (A B C m n : Int) (hA : wrapW A = A) (hB : wrapW B = B) (hC : wrapW C = C) (h4 : I64 m) (h5 : I64 n) (w : World) :
    Calls Try.prog 8 #[.int .i64 m, .int .i64 n, .agg #[.int .i64 (hiOf A), .int .u64 (loOf A)], .agg #[.int .i64 (hiOf B), .int .u64 (loOf B)], .agg #[.int .i64 (hiOf C), .int .u64 (loOf C)]] w fun e w' => e = .returned (.bool true) ∧ Grown w w' := by
  have hrg := mul_range m n h4 h5
  have hx : wrapW (m * n) = m * n := wrapW_in _ (by omega)
  have R1 := hide (fun w => roundV (m * n) 32 (by omega) (by omega) w)
  have hnear := near32 (m * n)
  have hrr := rdiv32_range (m * n) hrg
  rw [hx, show (2 : Int) ^ (32 : Int).toNat = 4294967296 from by decide] at R1
  obtain ⟨R, hR⟩ : ∃ R, rdiv (m * n) 4294967296 = R := ⟨_, rfl⟩
  rw [hR] at R1 hnear hrr
  have F1 := hide (fun w => fitV R w)
  rw [wrapW_in R (by omega)] at F1
  have HA := hide hA; have HB := hide hB; have HC := hide hC
  have HX := hide hx; have HAB := hide (hilo_ne A B hA hB); have HN := hide hnear
  clear hx hA hB hC hR hrr hrg hnear
  go_enter Try.func8, Try.ntmps8
  go_wp2_with fail
  refine (lawAwake _).mono ?_
  rintro e w1 ⟨rfl, hg1⟩
  go_wp2_with fail
  refine (wideMul m n h4 h5 _).mono ?_
  rintro e w2 ⟨rfl, hg2⟩
  go_wp2_with fail
  refine (unhide R1 _).mono ?_
  rintro e w3 ⟨rfl, hg3⟩
  obtain ⟨x0, x1⟩ := gat2 hg3 w2.heap.size (.int .i64 (hiOf (m * n))) (.int .u64 (loOf (m * n))) (by constructor <;> simp [go_sem])
  have hgw0 : Grown w w2 := gtrans ((((Grown.refl _).alloc _ _).alloc _ _).alloc _ _) (gtrans hg1 hg2)
  have hgw : Grown w w3 := gtrans (hgw0.alloc _ _) hg3
  obtain ⟨a0, a1⟩ := gat2 (gtrans hg1 hg2) w.heap.size (.int .i64 (hiOf A)) (.int .u64 (loOf A)) (by constructor <;> simp [go_sem])
  obtain ⟨b0, b1⟩ := gat2 (gtrans hg1 hg2) (w.heap.size + 1) (.int .i64 (hiOf B)) (.int .u64 (loOf B)) (by constructor <;> simp [go_sem])
  obtain ⟨c0, c1⟩ := gat2 (gtrans hg1 hg2) (w.heap.size + 1 + 1) (.int .i64 (hiOf C)) (.int .u64 (loOf C)) (by constructor <;> simp [go_sem])
  have l0 := heap_gt a0; have l1 := heap_gt b0; have l2 := heap_gt c0
  obtain ⟨a2, a3⟩ := gat2 hg3 w.heap.size (.int .i64 (hiOf A)) (.int .u64 (loOf A)) (by constructor <;> simp [go_sem, *])
  obtain ⟨b2, b3⟩ := gat2 hg3 (w.heap.size + 1) (.int .i64 (hiOf B)) (.int .u64 (loOf B)) (by constructor <;> simp [go_sem, *])
  obtain ⟨c2, c3⟩ := gat2 hg3 (w.heap.size + 1 + 1) (.int .i64 (hiOf C)) (.int .u64 (loOf C)) (by constructor <;> simp [go_sem, *])
  clear a0 a1 b0 b1 c0 c1 hg1 hg2 hg3
  have l3 := heap_gt a2; have l4 := heap_gt b2; have l5 := heap_gt c2; have l6 := heap_gt x0
  have hgw' : Grown w (w3.alloc (.cells #[.int .i64 (hiOf R), .int .u64 (loOf R)] 24)) := hgw.alloc _ _
  go_wp2
  go_region_held3 (fun w' => w'.cell? ⟨w.heap.size, 0, none⟩ = some (.int .i64 (hiOf A)) ∧ w'.cell? ⟨w.heap.size, 1, none⟩ = some (.int .u64 (loOf A)) ∧ w'.cell? ⟨w.heap.size + 1, 0, none⟩ = some (.int .i64 (hiOf B)) ∧ w'.cell? ⟨w.heap.size + 1, 1, none⟩ = some (.int .u64 (loOf B)) ∧ w'.cell? ⟨w.heap.size + 1 + 1, 0, none⟩ = some (.int .i64 (hiOf C)) ∧ w'.cell? ⟨w.heap.size + 1 + 1, 1, none⟩ = some (.int .u64 (loOf C)) ∧ w'.cell? ⟨w2.heap.size, 0, none⟩ = some (.int .i64 (hiOf (m * n))) ∧ w'.cell? ⟨w2.heap.size, 1, none⟩ = some (.int .u64 (loOf (m * n))) ∧ w'.cell? ⟨w3.heap.size, 0, none⟩ = some (.int .i64 (hiOf R)) ∧ w'.cell? ⟨w3.heap.size, 1, none⟩ = some (.int .u64 (loOf R)) ∧ Grown w w')
    (first | exact keep5 hg9 (by assumption) | (refine ⟨?_, ?_, ?_, ?_, ?_, ?_, ?_, ?_, ?_, ?_, hgw'⟩ <;> simp [go_sem, *]))
    (first | (go_at_call 17; refine (cmpV _ _ _).mono ?_; rintro e w9 ⟨rfl, hg9⟩))
  go_upto_region 5 with fail
  obtain ⟨a4, a5, b4, b5, c4, c5, x4, x5, r4, r5, hgw9⟩ := keep5 (Grown.refl w9) (by assumption)
  clear a2 a3 b2 b3 c2 c3 x0 x1 l0 l1 l2 hgw0 hgw hgw' hg9
  go_cut [69, 15, 16] (fun s69 s15 s16 wx => s69 = .bool false ∧ Grown w9 wx)
  case first =>
    have cmp_lt : ∀ x y, x < y → cmpI x y = -1 := fun x y h => by unfold cmpI; rw [if_pos h]
    have cmp_gt : ∀ x y, y < x → cmpI x y = 1 := fun x y h => by unfold cmpI; rw [if_neg (by omega), if_neg (by omega)]
    have cmp_eq : ∀ x, cmpI x x = 0 := fun x => by unfold cmpI; rw [if_neg (by omega), if_pos rfl]
    have K1 := hide cmp_lt; have K2 := hide cmp_gt; have K3 := hide cmp_eq
    clear cmp_lt cmp_gt cmp_eq
    by_cases o1 : A = B
    · subst o1
      have q1 : cmpI (wrapW A) (wrapW A) = 0 := unhide K3 _
      go_wp2
      go_meet
      exact ⟨rfl, Grown.refl _⟩
    · have hne := unhide HAB o1
      by_cases o2 : B < A
      · have q1 : cmpI (wrapW A) (wrapW B) = 1 := unhide K2 _ _ (by rw [unhide HA, unhide HB]; exact o2)
        have q2 : cmpI (wrapW B) (wrapW A) = -1 := unhide K1 _ _ (by rw [unhide HA, unhide HB]; exact o2)
        clear o1 o2
        by_cases g : (hiOf A == hiOf B) = true
        · have g2 : (loOf A == loOf B) = false := by
            rw [beq_eq_false_iff_ne]; rcases hne with h | h
            · exact absurd (by simpa using g) h
            · exact h
          clear hne
          go_wp2
          go_meet
          exact ⟨rfl, Grown.refl _⟩
        · have g2 : (hiOf A == hiOf B) = false := by simpa using g
          clear hne g
          go_wp2
          go_meet
          exact ⟨rfl, Grown.refl _⟩
      · have o3 : A < B := by omega
        have q1 : cmpI (wrapW A) (wrapW B) = -1 := unhide K1 _ _ (by rw [unhide HA, unhide HB]; exact o3)
        have q2 : cmpI (wrapW B) (wrapW A) = 1 := unhide K2 _ _ (by rw [unhide HA, unhide HB]; exact o3)
        clear o1 o2
        by_cases g : (hiOf A == hiOf B) = true
        · have g2 : (loOf A == loOf B) = false := by
            rw [beq_eq_false_iff_ne]; rcases hne with h | h
            · exact absurd (by simpa using g) h
            · exact h
          clear hne
          by_cases o4 : B < C
          · have q3 : cmpI (wrapW B) (wrapW C) = -1 := unhide K1 _ _ (by rw [unhide HB, unhide HC]; exact o4)
            have q4 : cmpI (wrapW A) (wrapW C) = -1 := unhide K1 _ _ (by rw [unhide HA, unhide HC]; omega)
            clear o3 o4
            go_wp2_with fail
            refine (cmpV _ _ _).mono ?_
            rintro e wa ⟨rfl, hga⟩
            obtain ⟨a6, a7⟩ := gat2 hga _ _ _ ⟨a4, a5⟩
            obtain ⟨c6, c7⟩ := gat2 hga _ _ _ ⟨c4, c5⟩
            go_wp2_with fail
            refine (cmpV _ _ _).mono ?_
            rintro e wb ⟨rfl, hgb⟩
            go_wp2
            go_meet
            exact ⟨rfl, gtrans hga hgb⟩
          · have q3 : 0 ≤ cmpI (wrapW B) (wrapW C) := by
              rw [unhide HB, unhide HC]; unfold cmpI; rw [if_neg o4]; split <;> omega
            clear o3 o4
            go_wp2_with fail
            refine (cmpV _ _ _).mono ?_
            rintro e wa ⟨rfl, hga⟩
            go_wp2
            go_meet
            exact ⟨rfl, hga⟩
        · have g2 : (hiOf A == hiOf B) = false := by simpa using g
          clear hne g
          by_cases o4 : B < C
          · have q3 : cmpI (wrapW B) (wrapW C) = -1 := unhide K1 _ _ (by rw [unhide HB, unhide HC]; exact o4)
            have q4 : cmpI (wrapW A) (wrapW C) = -1 := unhide K1 _ _ (by rw [unhide HA, unhide HC]; omega)
            clear o3 o4
            go_wp2_with fail
            refine (cmpV _ _ _).mono ?_
            rintro e wa ⟨rfl, hga⟩
            obtain ⟨a6, a7⟩ := gat2 hga _ _ _ ⟨a4, a5⟩
            obtain ⟨c6, c7⟩ := gat2 hga _ _ _ ⟨c4, c5⟩
            go_wp2_with fail
            refine (cmpV _ _ _).mono ?_
            rintro e wb ⟨rfl, hgb⟩
            go_wp2
            go_meet
            exact ⟨rfl, gtrans hga hgb⟩
          · have q3 : 0 ≤ cmpI (wrapW B) (wrapW C) := by
              rw [unhide HB, unhide HC]; unfold cmpI; rw [if_neg o4]; split <;> omega
            clear o3 o4
            go_wp2_with fail
            refine (cmpV _ _ _).mono ?_
            rintro e wa ⟨rfl, hga⟩
            go_wp2
            go_meet
            exact ⟨rfl, hga⟩
  case rest =>
    obtain ⟨rfl, hgc⟩ := hcut
    obtain ⟨x6, x7⟩ := gat2 hgc _ _ _ ⟨x4, x5⟩
    obtain ⟨r6, r7⟩ := gat2 hgc _ _ _ ⟨r4, r5⟩
    have hgwc : Grown w wc := gtrans hgw9 hgc
    clear a4 a5 b4 b5 c4 c5 x4 x5 r4 r5 hgc hgw9
    by_cases hfb : fitB R = true
    · rw [hfb] at F1
      clear hfb
      go_wp2_with fail
      refine (unhide F1 _).mono ?_
      rintro e wf ⟨rfl, hgf⟩
      go_wp2
      go_ret
      exact ⟨rfl, gtrans hgwc hgf⟩
    · have hfb' : fitB R = false := by simpa using hfb
      obtain ⟨hk, hi⟩ := fit_in R hfb'
      rw [hfb', hk] at F1
      obtain ⟨T, hT⟩ : ∃ T, m * n + -(R * 4294967296) = T := ⟨_, rfl⟩
      have hn := unhide HN
      rw [hT] at hn
      have MU := hide (fun w => wideMul R 4294967296 hi (by unfold I64; omega) w)
      have NE := hide (fun w => negV (R * 4294967296) w)
      have AD := hide (fun w => addV (m * n) (-(R * 4294967296)) w)
      rw [hT] at AD
      have OH := hide (fun w => wideOf 2147483648 (by unfold I64; omega) w)
      have NH := hide (fun w => negV 2147483648 w)
      have CM1 := hide (fun w => cmpV T 2147483648 w)
      have CM2 := hide (fun w => cmpV T (-2147483648) w)
      rw [wrapW_in T (by omega), show wrapW 2147483648 = 2147483648 from by decide] at CM1
      rw [wrapW_in T (by omega), show wrapW (-2147483648) = -2147483648 from by decide] at CM2
      clear HX HN hfb hfb' hk hT HA HB HC HAB R1
      go_wp2_with fail
      refine (unhide F1 _).mono ?_
      rintro e wf ⟨rfl, hgf⟩
      obtain ⟨x8, x9⟩ := gat2 hgf _ _ _ ⟨x6, x7⟩
      have hgwf : Grown w wf := gtrans hgwc hgf
      clear hgf hgwc x6 x7 r6 r7 F1
      have lf := heap_gt x8; have nf := Nat.ne_of_gt lf; have of' := Nat.ne_of_lt lf
      go_upto_region 10 with fail
      go_cut [19] (fun s19 wx => ∃ g, s19 = .pointer (some ⟨g, 0, none⟩) ∧ wx.cell? ⟨g, 0, none⟩ = some (.int .i64 (hiOf T)) ∧ wx.cell? ⟨g, 1, none⟩ = some (.int .u64 (loOf T)) ∧ Grown w wx)
      case first =>
        go_region_held3 (fun w' => w'.cell? ⟨w2.heap.size, 0, none⟩ = some (.int .i64 (hiOf (m * n))) ∧ w'.cell? ⟨w2.heap.size, 1, none⟩ = some (.int .u64 (loOf (m * n))))
          (simp [go_sem, *])
          (first
            | (go_at_call 15; refine (unhide MU _).mono ?_; rintro e wm ⟨rfl, hgm⟩; have hgwm : Grown w wm := gtrans (by first | exact Grown.drew hgwf | exact Grown.drew (Grown.alloc hgwf _ _)) hgm; obtain ⟨xm0, xm1⟩ := gat2 hgm w2.heap.size (.int .i64 (hiOf (m * n))) (.int .u64 (loOf (m * n))) (by constructor <;> simp [go_sem, *]); have lm := heap_gt xm0; have nm := Nat.ne_of_gt lm; have om := Nat.ne_of_lt lm; (try (refine with_gat2 hgm wf.heap.size (.int .i64 0) (.int .u64 0) ?_ ?_ ?_; (focus (first | assumption | (simp [go_sem]; done))); (focus (first | assumption | (simp [go_sem]; done))); intro ym00 ym01)))
            | (go_at_call 13; refine (unhide NE _).mono ?_; rintro e wn ⟨rfl, hgn⟩; have hgwn : Grown w wn := gtrans (by first | exact hgwm | exact Grown.alloc hgwm _ _) hgn; obtain ⟨xn0, xn1⟩ := gat2 hgn w2.heap.size (.int .i64 (hiOf (m * n))) (.int .u64 (loOf (m * n))) (by constructor <;> simp [go_sem, *]); have ln := heap_gt xn0; have nn := Nat.ne_of_gt ln; have on := Nat.ne_of_lt ln; (try (refine with_gat2 hgn wf.heap.size (.int .i64 0) (.int .u64 0) ?_ ?_ ?_; (focus (first | assumption | (simp [go_sem]; done))); (focus (first | assumption | (simp [go_sem]; done))); intro yn00 yn01)); (try (refine with_gat2 hgn wm.heap.size (.int .i64 0) (.int .u64 0) ?_ ?_ ?_; (focus (first | assumption | (simp [go_sem]; done))); (focus (first | assumption | (simp [go_sem]; done))); intro yn10 yn11)))
            | (go_at_call 11; refine (unhide AD _).mono ?_; rintro e wa ⟨rfl, hga⟩; have hgwa : Grown w wa := gtrans (by first | exact hgwn | exact Grown.alloc hgwn _ _) hga; have z0 := fun o => frz hgwa wf.heap.size o hgwf.2.2; have z1 := fun o => frz hgwa wm.heap.size o hgwm.2.2; have z2 := fun o => frz hgwa wn.heap.size o hgwn.2.2; obtain ⟨xa0, xa1⟩ := gat2 hga w2.heap.size (.int .i64 (hiOf (m * n))) (.int .u64 (loOf (m * n))) (by constructor <;> simp [go_sem, *]); have la := heap_gt xa0; have na := Nat.ne_of_gt la; have oa := Nat.ne_of_lt la; (try (refine with_gat2 hga wf.heap.size (.int .i64 0) (.int .u64 0) ?_ ?_ ?_; (focus (first | assumption | (simp [go_sem]; done))); (focus (first | assumption | (simp [go_sem]; done))); intro ya00 ya01)); (try (refine with_gat2 hga wm.heap.size (.int .i64 0) (.int .u64 0) ?_ ?_ ?_; (focus (first | assumption | (simp [go_sem]; done))); (focus (first | assumption | (simp [go_sem]; done))); intro ya10 ya11)); (try (refine with_gat2 hga wn.heap.size (.int .i64 0) (.int .u64 0) ?_ ?_ ?_; (focus (first | assumption | (simp [go_sem]; done))); (focus (first | assumption | (simp [go_sem]; done))); intro ya20 ya21))))
        all_goals go_wp2_with fail
        all_goals go_meet
        all_goals refine ⟨_, rfl, ?_, ?_, ?_⟩
        all_goals first | (simp [go_sem, *]; done) | exact Grown.alloc hgwa _ _ | exact Grown.setCell (Grown.setCell hgwa hgwf.2.2 _) hgwf.2.2 _ | exact Grown.setCell (Grown.setCell hgwa hgwm.2.2 _) hgwm.2.2 _ | exact Grown.setCell (Grown.setCell hgwa hgwn.2.2 _) hgwn.2.2 _
      case rest =>
        obtain ⟨g, rfl, t0, t1, hgt⟩ := hcut
        clear x8 x9 lf nf of' MU NE AD hgwf
        by_cases v1 : T = 2147483648
        · have he : R.tmod 2 = 0 := Int.tmod_eq_zero_of_dvd (Int.dvd_of_emod_eq_zero (hn.2.2 (Or.inl v1)))
          rw [show cmpI T 2147483648 = 0 from by unfold cmpI; rw [if_neg (by omega), if_pos v1]] at CM1
          rw [show cmpI T (-2147483648) = 1 from by unfold cmpI; rw [if_neg (by omega), if_neg (by omega)]] at CM2
          clear v1 hn
          go_wp2_with fail
          refine (unhide OH _).mono ?_
          rintro e wh ⟨rfl, hgh⟩
          obtain ⟨t2, t3⟩ := gat2 hgh _ _ _ ⟨t0, t1⟩
          have hgwh : Grown w wh := gtrans hgt hgh
          have lg := heap_gt t2
          have ng := Nat.ne_of_gt lg; have og := Nat.ne_of_lt lg
          clear t0 t1 hgt hgh
          go_wp2_with fail
          refine (unhide CM1 _).mono ?_
          rintro e wi ⟨rfl, hgi⟩
          obtain ⟨t4, t5⟩ := gat2 hgi g (.int .i64 (hiOf T)) (.int .u64 (loOf T)) (by constructor <;> simp [go_sem, *])
          obtain ⟨k4, k5⟩ := gat2 hgi wh.heap.size (.int .i64 (hiOf 2147483648)) (.int .u64 (loOf 2147483648)) (by constructor <;> simp [go_sem, *])
          have hgwi : Grown w wi := gtrans (hgwh.alloc _ _) hgi
          clear hgi t2 t3
          go_wp2
          go_region_held3 (fun w' => w'.cell? ⟨g, 0, none⟩ = some (.int .i64 (hiOf T)) ∧ w'.cell? ⟨g, 1, none⟩ = some (.int .u64 (loOf T)) ∧ w'.cell? ⟨wh.heap.size, 0, none⟩ = some (.int .i64 (hiOf 2147483648)) ∧ w'.cell? ⟨wh.heap.size, 1, none⟩ = some (.int .u64 (loOf 2147483648)) ∧ Grown w w')
            (first | exact keep2 hg9 (by assumption) | (refine ⟨?_, ?_, ?_, ?_, hgwi⟩ <;> simp [go_sem, *]))
            (first
              | (go_at_call 13; refine (unhide NH _).mono ?_; rintro e w9 ⟨rfl, hg9⟩)
              | (go_at_call 17; refine (unhide CM2 _).mono ?_; rintro e w9 ⟨rfl, hg9⟩))
          have hgw9 : Grown w w9 := by rename_i hH; exact hH.2.2.2.2
          go_wp2
          go_ret
          exact ⟨rfl, hgw9⟩
        by_cases v2 : T = -2147483648
        · have he : R.tmod 2 = 0 := Int.tmod_eq_zero_of_dvd (Int.dvd_of_emod_eq_zero (hn.2.2 (Or.inr v2)))
          rw [show cmpI T 2147483648 = -1 from by unfold cmpI; rw [if_pos (by omega)]] at CM1
          rw [show cmpI T (-2147483648) = 0 from by unfold cmpI; rw [if_neg (by omega), if_pos v2]] at CM2
          clear v1 v2 hn
          go_wp2_with fail
          refine (unhide OH _).mono ?_
          rintro e wh ⟨rfl, hgh⟩
          obtain ⟨t2, t3⟩ := gat2 hgh _ _ _ ⟨t0, t1⟩
          have hgwh : Grown w wh := gtrans hgt hgh
          have lg := heap_gt t2
          have ng := Nat.ne_of_gt lg; have og := Nat.ne_of_lt lg
          clear t0 t1 hgt hgh
          go_wp2_with fail
          refine (unhide CM1 _).mono ?_
          rintro e wi ⟨rfl, hgi⟩
          obtain ⟨t4, t5⟩ := gat2 hgi g (.int .i64 (hiOf T)) (.int .u64 (loOf T)) (by constructor <;> simp [go_sem, *])
          obtain ⟨k4, k5⟩ := gat2 hgi wh.heap.size (.int .i64 (hiOf 2147483648)) (.int .u64 (loOf 2147483648)) (by constructor <;> simp [go_sem, *])
          have hgwi : Grown w wi := gtrans (hgwh.alloc _ _) hgi
          clear hgi t2 t3
          go_wp2
          go_region_held3 (fun w' => w'.cell? ⟨g, 0, none⟩ = some (.int .i64 (hiOf T)) ∧ w'.cell? ⟨g, 1, none⟩ = some (.int .u64 (loOf T)) ∧ w'.cell? ⟨wh.heap.size, 0, none⟩ = some (.int .i64 (hiOf 2147483648)) ∧ w'.cell? ⟨wh.heap.size, 1, none⟩ = some (.int .u64 (loOf 2147483648)) ∧ Grown w w')
            (first | exact keep2 hg9 (by assumption) | (refine ⟨?_, ?_, ?_, ?_, hgwi⟩ <;> simp [go_sem, *]))
            (first
              | (go_at_call 13; refine (unhide NH _).mono ?_; rintro e w9 ⟨rfl, hg9⟩)
              | (go_at_call 17; refine (unhide CM2 _).mono ?_; rintro e w9 ⟨rfl, hg9⟩))
          have hgw9 : Grown w w9 := by rename_i hH; exact hH.2.2.2.2
          go_wp2
          go_ret
          exact ⟨rfl, hgw9⟩
        · rw [show cmpI T 2147483648 = -1 from by unfold cmpI; rw [if_pos (by omega)]] at CM1
          rw [show cmpI T (-2147483648) = 1 from by unfold cmpI; rw [if_neg (by omega), if_neg (by omega)]] at CM2
          clear v1 v2 hn
          go_wp2_with fail
          refine (unhide OH _).mono ?_
          rintro e wh ⟨rfl, hgh⟩
          obtain ⟨t2, t3⟩ := gat2 hgh _ _ _ ⟨t0, t1⟩
          have hgwh : Grown w wh := gtrans hgt hgh
          have lg := heap_gt t2
          have ng := Nat.ne_of_gt lg; have og := Nat.ne_of_lt lg
          clear t0 t1 hgt hgh
          go_wp2_with fail
          refine (unhide CM1 _).mono ?_
          rintro e wi ⟨rfl, hgi⟩
          obtain ⟨t4, t5⟩ := gat2 hgi g (.int .i64 (hiOf T)) (.int .u64 (loOf T)) (by constructor <;> simp [go_sem, *])
          obtain ⟨k4, k5⟩ := gat2 hgi wh.heap.size (.int .i64 (hiOf 2147483648)) (.int .u64 (loOf 2147483648)) (by constructor <;> simp [go_sem, *])
          have hgwi : Grown w wi := gtrans (hgwh.alloc _ _) hgi
          clear hgi t2 t3
          go_wp2
          go_region_held3 (fun w' => w'.cell? ⟨g, 0, none⟩ = some (.int .i64 (hiOf T)) ∧ w'.cell? ⟨g, 1, none⟩ = some (.int .u64 (loOf T)) ∧ w'.cell? ⟨wh.heap.size, 0, none⟩ = some (.int .i64 (hiOf 2147483648)) ∧ w'.cell? ⟨wh.heap.size, 1, none⟩ = some (.int .u64 (loOf 2147483648)) ∧ Grown w w')
            (first | exact keep2 hg9 (by assumption) | (refine ⟨?_, ?_, ?_, ?_, hgwi⟩ <;> simp [go_sem, *]))
            (first
              | (go_at_call 13; refine (unhide NH _).mono ?_; rintro e w9 ⟨rfl, hg9⟩)
              | (go_at_call 17; refine (unhide CM2 _).mono ?_; rintro e w9 ⟨rfl, hg9⟩))
          have hgw9 : Grown w w9 := by rename_i hH; exact hH.2.2.2.2
          go_wp2
          go_ret
          exact ⟨rfl, hgw9⟩

theorem lawWideNear (m n ah al bh bl ch cl : Int) (h7 : I64 m) (h8 : I64 n) (h1 : I64 ah) (h2 : U64 al) (h3 : I64 bh) (h4 : U64 bl) (h5 : I64 ch) (h6 : U64 cl) (w : World) :
    Calls Try.prog 8 #[.int .i64 m, .int .i64 n, .agg #[.int .i64 ah, .int .u64 al], .agg #[.int .i64 bh, .int .u64 bl], .agg #[.int .i64 ch, .int .u64 cl]] w fun e w' => e = .returned (.bool true) ∧ Grown w w' := by
  obtain ⟨A, rfl, rfl, hA⟩ := as_val ah al h1 h2
  obtain ⟨B, rfl, rfl, hB⟩ := as_val bh bl h3 h4
  obtain ⟨C, rfl, rfl, hC⟩ := as_val ch cl h5 h6
  exact lawWideNear_core A B C m n hA hB hC h7 h8 w

end Go.Proofs.Ytpmlfidnojcplaa
