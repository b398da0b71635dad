/- The laws' helper apart; VecDots. -/
import Derived.Test.YtmdclpjbpkfckaaVecH
namespace Go.Proofs.Ytmdclpjbpkfckaa
open Go.RowKit Go.Proofs.Wd
set_option linter.unusedVariables false
set_option linter.unusedSimpArgs false

set_option maxHeartbeats 1000000 in
theorem lawApart (a b d : Int) (ha : I64 a) (hb : I64 b) (hd : d = if b < a then a - b else b - a) (w : World) :
    Calls Try.prog 28 #[.int .i64 a, .int .i64 b] w fun e w' => e = .returned (.int .u64 d) ∧ w' = w := by
  unfold I64 at ha hb
  by_cases h : b < a
  · rw [if_pos h] at hd
    subst hd
    have e1 : IntKind.u64.wrap (IntKind.u64.wrap a - IntKind.u64.wrap b) = a - b := by simp only [IntKind.wrap_u64]; omega
    go_enter Try.func28, Try.ntmps28
    go_wp2
    go_ret
    exact ⟨rfl, rfl⟩
  · rw [if_neg h] at hd
    subst hd
    have e1 : IntKind.u64.wrap (IntKind.u64.wrap b - IntKind.u64.wrap a) = b - a := by simp only [IntKind.wrap_u64]; omega
    go_enter Try.func28, Try.ntmps28
    go_wp2
    go_ret
    exact ⟨rfl, rfl⟩

theorem min_of (a b m : Nat) (h1 : m ≤ a) (h2 : m ≤ b) (h3 : m = a ∨ m = b) : m = if a ≤ b then a else b := by split <;> omega

set_option maxHeartbeats 4000000 in
theorem lawVecDots (ao bo co : Option Addr) (l1 c1 l2 c2 l3 c3 : Nat) (X Y Z : Nat → Int) (le1 : l1 ≤ c1) (le2 : l2 ≤ c2) (le3 : l3 ≤ c3) (lm1 : c1 ≤ 9223372036854775807) (lm2 : c2 ≤ 9223372036854775807) (lm3 : c3 ≤ 9223372036854775807) (hX : Hid (∀ i, i < l1 → I64 (X i))) (hY : Hid (∀ i, i < l2 → I64 (Y i))) (hZ : Hid (∀ i, i < l3 → I64 (Z i))) (w : World) (hr : Row w ao l1 X) (ht : Row w bo l2 Y) (hv : Row w co l3 Z) :
    Calls Try.prog 7 #[.slice ao l1 c1, .slice bo l2 c2, .slice co l3 c3] w fun e w' => e = .returned (.bool true) ∧ Kp w w' := by
  have HR := hide (And.intro hr (And.intro ht hv))
  clear hr ht hv
  go_enter Try.func7, Try.ntmps7
  go_wp2_with fail
  refine (lawVecAwake w).mono ?_
  rintro e w1 ⟨rfl, k1⟩
  have K1 := hide k1
  clear k1
  go_wp2_with fail
  refine (unitNew w1).mono ?_
  rintro e w2 ⟨rfl, h2, g2⟩
  have hU : w.heap.size ≤ w1.heap.size := (unhide K1).2.2.2
  have S2 : Hid (UC w1.heap.size false 0 w2 ∧ Kp w w2 ∧ w.heap.size ≤ w1.heap.size) := ⟨h2, (unhide K1).grown g2, hU⟩
  clear h2 g2 hU K1
  generalize w1.heap.size = U at *
  by_cases hb1 : l1 ≤ 100
  · by_cases hb2 : l2 ≤ 100
    · by_cases hb3 : l3 ≤ 100
      · obtain ⟨m1, hm1⟩ : ∃ m1, m1 = if l1 ≤ l2 then l1 else l2 := ⟨_, rfl⟩
        obtain ⟨m, hm⟩ : ∃ m, m = if m1 ≤ l3 then m1 else l3 := ⟨_, rfl⟩
        have hq1 : m1 ≤ l1 ∧ m1 ≤ l2 := by rw [hm1]; split <;> omega
        have hq : m ≤ m1 ∧ m ≤ l3 := by rw [hm]; split <;> omega
        have S3 : Hid (VS w U false 0 m [(ao, X), (bo, Y), (co, Z)] w2) := by
          obtain ⟨s1, s2, s3⟩ := unhide S2
          obtain ⟨r1, r2, r3⟩ := unhide HR
          refine ⟨s1, s2, s3, fun r hr => ?_⟩
          simp at hr
          rcases hr with rfl | rfl | rfl
          · exact ⟨(r1.sub (by omega)).kp s2, (r1.sub (by omega)).off s3⟩
          · exact ⟨(r2.sub (by omega)).kp s2, (r2.sub (by omega)).off s3⟩
          · exact ⟨(r3.sub (by omega)).kp s2, (r3.sub (by omega)).off s3⟩
        have HX : Hid (∀ i, i < m → I64 (X i)) := fun i hi => unhide hX i (by omega)
        have HY : Hid (∀ i, i < m → I64 (Y i)) := fun i hi => unhide hY i (by omega)
        have HZ : Hid (∀ i, i < m → I64 (Z i)) := fun i hi => unhide hZ i (by omega)
        have C1 := hide (lawCut ao bo l1 c1 l2 c2 m1 le1 (by omega) (by omega) hm1)
        have C2 := hide (lawCut ao co m1 c1 l3 c3 m (by omega) (by omega) (by omega) hm)
        have C3 := hide (lawCut bo ao l2 c2 m c1 m le2 (by omega) (by omega) (min_of l2 m m (by omega) (by omega) (Or.inr rfl)))
        have C4 := hide (lawCut co ao l3 c3 m c1 m le3 (by omega) (by omega) (min_of l3 m m (by omega) (by omega) (Or.inr rfl)))
        have hm3 : m ≤ 100 := by omega
        clear hm hm1 S2 HR hq hq1
        go_wp2_with fail
        refine (unhide C1 _).mono ?_
        rintro e w3 ⟨rfl, rfl⟩
        go_wp2_with fail
        refine (unhide C2 _).mono ?_
        rintro e w4 ⟨rfl, rfl⟩
        go_wp2_with fail
        refine (unhide C3 _).mono ?_
        rintro e w5 ⟨rfl, rfl⟩
        go_wp2_with fail
        refine (unhide C4 _).mono ?_
        rintro e w6 ⟨rfl, rfl⟩
        clear C1 C2 C3 C4
        go_wp2_with fail
        refine ((unhide S3).sum (by omega) ⟨by omega, by omega⟩ ao bo X Y (by simp) (by simp) (unhide HX) (unhide HY) _ _).mono ?_
        rintro e w7 ⟨L, rfl, s7⟩
        have S7 := hide s7
        clear s7 S3
        obtain ⟨S, eS⟩ : ∃ S, S = fun i => s2N (X i) (Y i) := ⟨_, rfl⟩
        rw [← eS] at S7
        have HS : Hid (∀ i, i < m → I64 (S i)) := fun i hi => by rw [eS]; exact s2N_I64 _ _
        have ES : Hid (∀ i, S i = s2N (X i) (Y i)) := fun i => by rw [eS]
        clear eS
        go_wp2_with fail
        refine ((unhide S7).dot (by omega) ⟨by omega, by omega⟩ (some ⟨L, 0, none⟩) co S Z (by simp) (by simp) (unhide HS) (unhide HZ) _ _).mono ?_
        rintro e w8 ⟨rfl, s8⟩
        have S8 := hide s8
        clear s8 S7
        obtain ⟨n, en⟩ : ∃ n, dotN S Z m = n := ⟨_, rfl⟩
        rw [en]
        go_wp2_with fail
        refine ((unhide S8).dot (by omega) ⟨by omega, by omega⟩ ao co X Z (by simp) (by simp) (unhide HX) (unhide HZ) _ _).mono ?_
        rintro e w9 ⟨rfl, s9⟩
        have S9 := hide s9
        clear s9 S8
        obtain ⟨x, ex⟩ : ∃ x, dotN X Z m = x := ⟨_, rfl⟩
        rw [ex]
        go_wp2_with fail
        refine ((unhide S9).dot (by omega) ⟨by omega, by omega⟩ bo co Y Z (by simp) (by simp) (unhide HY) (unhide HZ) _ _).mono ?_
        rintro e w10 ⟨rfl, s10⟩
        have S10 := hide s10
        clear s10 S9
        obtain ⟨y, ey⟩ : ∃ y, dotN Y Z m = y := ⟨_, rfl⟩
        rw [ey]
        go_wp2_with fail
        refine ((unhide S10).dot (by omega) ⟨by omega, by omega⟩ co (some ⟨L, 0, none⟩) Z S (by simp) (by simp) (unhide HZ) (unhide HS) _ _).mono ?_
        rintro e w11 ⟨rfl, s11⟩
        have S11 := hide s11
        clear s11 S10
        have ez : dotN Z S m = n := by rw [dotN_comm, en]
        rw [ez]
        have hn64 : Hid (I64 n) := by rw [← en]; exact dotN_I64 _ _ _
        have hx64 : Hid (I64 x) := by rw [← ex]; exact dotN_I64 _ _ _
        have hy64 : Hid (I64 y) := by rw [← ey]; exact dotN_I64 _ _ _
        have EN := hide (And.intro en (And.intro ex ey))
        clear en ex ey ez
        go_wp2_with fail
        have G : Grown w11 (w11.alloc (.cells #[.int .i64 x, .int .i64 y] 3)) := (Grown.refl _).alloc _ _
        have S12 := hide ((unhide S11).grown G)
        have R12 : Hid (Row (w11.alloc (.cells #[.int .i64 x, .int .i64 y] 3)) (some ⟨w11.heap.size, 0, none⟩) 2 (pairZ x y)) := by
          refine Or.inr ⟨_, 0, rfl, fun i hi => ?_⟩
          rw [Nat.zero_add, Blk.cell (Blk.new w11 _ _)]
          match i, hi with
          | 0, _ => rfl
          | 1, _ => rfl
        have O12 : Hid (Off U 2 (some ⟨w11.heap.size, 0, none⟩)) := off_blk (by have := Blk.lt (unhide S11).1; omega)
        clear G S11
        refine (addTwo U x y _ _ _ _ _ (unhide hx64) (unhide hy64) ⟨by omega, by omega⟩ (unhide S12).1 (unhide R12) (unhide O12)).mono ?_
        rintro e w13 ⟨rfl, u13, m13⟩
        have S13 := hide ((unhide S12).mod u13 m13)
        clear u13 m13 S12 R12 O12
        obtain ⟨k, ek⟩ : ∃ k, s2N x y = k := ⟨_, rfl⟩
        rw [ek]
        have hk64 : Hid (I64 k) := by rw [← ek]; exact s2N_I64 _ _
        obtain ⟨q, eq⟩ : ∃ q, (false || zC s2C X Y m || dotC S Z m || dotC X Z m || dotC Y Z m || dotC Z S m || s2C x y) = q := ⟨_, rfl⟩
        rw [eq] at S13
        have EK := hide (And.intro ek eq)
        clear ek eq
        go_wp2_with fail
        refine (unitCut U q _ w13 (unhide S13).1).mono ?_
        rintro e w14 ⟨rfl, rfl⟩
        have K := hide (unhide S13).2.1
        clear S13
        cases q
        · obtain ⟨d, hd⟩ : ∃ d, d = if k < n then n - k else k - n := ⟨_, rfl⟩
          have hd2 : 0 ≤ d ∧ d ≤ 2 * (m : Int) := by
            obtain ⟨ek, eq⟩ := unhide EK
            obtain ⟨en, ex, ey⟩ := unhide EN
            simp only [Bool.or_eq_false_iff] at eq
            obtain ⟨⟨⟨⟨⟨⟨_, q1⟩, q2⟩, q3⟩, q4⟩, _⟩, q5⟩ := eq
            have e1 := (s2_plain x y (unhide hx64) (unhide hy64) q5).1
            have e2 := dot_sum X Y Z S m (fun i hi => by rw [unhide ES i]; exact (s2_plain _ _ (unhide HX i hi) (unhide HY i hi) (zC_false _ _ _ _ q1 i hi)).1) q2 q3 q4
            rw [en, ex, ey] at e2
            rw [ek] at e1
            rw [hd]
            split <;> omega
          have AP := hide (lawApart n k d (unhide hn64) (unhide hk64) hd)
          have hw1 : IntKind.u64.wrap (2 * (m : Int)) = 2 * m := by rw [IntKind.wrap_u64]; omega
          have hw2 : IntKind.i64.wrap (2 * (m : Int)) = 2 * m := by rw [IntKind.wrap_i64]; omega
          clear hd
          go_wp2_with fail
          refine (unhide AP _).mono ?_
          rintro e w15 ⟨rfl, rfl⟩
          go_wp2
          go_ret
          exact ⟨rfl, unhide K⟩
        · go_wp2
          go_ret
          exact ⟨rfl, unhide K⟩
      · have hb3' : ((100 : Int) < (l3 : Int)) := by omega
        go_wp2
        go_ret
        exact ⟨rfl, (unhide S2).2.1⟩
    · have hb2' : ((100 : Int) < (l2 : Int)) := by omega
      go_wp2
      go_ret
      exact ⟨rfl, (unhide S2).2.1⟩
  · have hb1' : ((100 : Int) < (l1 : Int)) := by omega
    go_wp2
    go_ret
    exact ⟨rfl, (unhide S2).2.1⟩

end Go.Proofs.Ytmdclpjbpkfckaa
