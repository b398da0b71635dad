/- PolyRa PolyRb PolyRc PolyRd PolyRf PolyRg, one after another. -/
import Derived.Test.YtopaakjildmjcaaGreatPolyBas2
import Derived.Test.YtopaakjildmjcaaGreatPolyDoc
import Derived.Test.YtopaakjildmjcaaGreatPolyBase
import Derived.Laws.AppendOwn
/- The document's poly: square, Upper. -/
namespace Go.Proofs.YtopaakjildmjcaaGreat
open Go.RowKit Go.Shelf Go.Proofs.Wd
set_option linter.unusedVariables false
set_option linter.unusedSimpArgs false
set_option maxRecDepth 10000

set_option maxHeartbeats 2000000 in
theorem pRefSquare (R C : Int) (ao : Option Addr) (len cap : Nat) (w : World) : Calls Tryz.prog 28 #[.agg #[.int .i64 R, .int .i64 C, .slice ao len cap]] w fun e w' => e = .returned (.bool (sqB R C len)) ∧ Grown w w' := by
  have K1 := hide (fun w => refMCheck R C ao len cap w)
  have G1 : Hid (Grown w (w.alloc (.cells #[.int .i64 R, .int .i64 C, .slice ao len cap] 24)) ∧ Blk w.heap.size #[.int .i64 R, .int .i64 C, .slice ao len cap] 24 (w.alloc (.cells #[.int .i64 R, .int .i64 C, .slice ao len cap] 24))) := ⟨(Grown.refl _).alloc _ _, Blk.new w _ _⟩
  by_cases h1 : okM R C len
  · rw [chk_ok h1] at K1
    by_cases h2 : R = C
    · rw [sqB_yes ⟨h1, h2⟩]
      clear h1
      subst h2
      go_enter Tryz.func28, Tryz.ntmps28
      go_wp2_with fail
      generalize w.alloc (.cells #[.int .i64 R, .int .i64 R, .slice ao len cap] 24) = w1 at *
      refine (unhide K1 _).mono ?_
      rintro e w2 ⟨rfl, g2⟩
      have y0 : w2.cell? ⟨w.heap.size, 0, none⟩ = some (.int .i64 R) := Blk.cell (Blk.grown (unhide G1).2 g2) 0
      have y1 : w2.cell? ⟨w.heap.size, 1, none⟩ = some (.int .i64 R) := Blk.cell (Blk.grown (unhide G1).2 g2) 1
      have GG := hide (gtrans (unhide G1).1 g2)
      clear G1 g2 K1
      go_wp2
      go_ret
      exact ⟨rfl, unhide GG⟩
    · rw [sqB_no (fun h => h2 h.2)]
      have b3 : (R == C) = false := by simpa using h2
      clear h1 h2
      go_enter Tryz.func28, Tryz.ntmps28
      go_wp2_with fail
      generalize w.alloc (.cells #[.int .i64 R, .int .i64 C, .slice ao len cap] 24) = w1 at *
      refine (unhide K1 _).mono ?_
      rintro e w2 ⟨rfl, g2⟩
      have y0 : w2.cell? ⟨w.heap.size, 0, none⟩ = some (.int .i64 R) := Blk.cell (Blk.grown (unhide G1).2 g2) 0
      have y1 : w2.cell? ⟨w.heap.size, 1, none⟩ = some (.int .i64 C) := Blk.cell (Blk.grown (unhide G1).2 g2) 1
      have GG := hide (gtrans (unhide G1).1 g2)
      clear G1 g2 K1
      go_wp2
      go_ret
      exact ⟨rfl, unhide GG⟩
  · rw [chk_bad h1] at K1
    rw [sqB_no (fun h => h1 h.1)]
    clear h1
    go_enter Tryz.func28, Tryz.ntmps28
    go_wp2_with fail
    generalize w.alloc (.cells #[.int .i64 R, .int .i64 C, .slice ao len cap] 24) = w1 at *
    refine (unhide K1 _).mono ?_
    rintro e w2 ⟨rfl, g2⟩
    have GG := hide (gtrans (unhide G1).1 g2)
    clear G1 g2 K1
    go_wp2
    go_ret
    exact ⟨rfl, unhide GG⟩

set_option maxRecDepth 20000 in
set_option maxHeartbeats 4000000 in
theorem pRefUpper_ok (n b o cap : Nat) (A : Nat → Int) (hn : 1 ≤ n ∧ n ≤ 12) (w : World) (hz : ∀ j, j < n * n → w.cell? ⟨b, o + j, none⟩ = some (.int .i64 (A j))) :
    Calls Tryz.prog 18 #[.agg #[.int .i64 n, .int .i64 n, .slice (some ⟨b, o, none⟩) (n * n) cap]] w fun e w' => e = .returned (.bool (upTo A n n)) ∧ Grown w w' := by
  have SQ := hide (fun w => pRefSquare n n (some ⟨b, o, none⟩) (n * n) cap w)
  rw [sqB_yes (sqA_of hn)] at SQ
  have HP : Hid (∀ i k, i < n → k < n → i * n + k < n * n) := fun i k hi hk => place_in i k n n hi hk
  have HL := (mul12n n n hn hn).2
  obtain ⟨nn, hnn⟩ : ∃ nn, n * n = nn := ⟨_, rfl⟩
  rw [hnn] at HL HP SQ hz
  rw [hnn]
  have G1 : Hid (Grown w (w.alloc (.cells #[.int .i64 n, .int .i64 n, .slice (some ⟨b, o, none⟩) nn cap] 24)) ∧ Blk w.heap.size #[.int .i64 n, .int .i64 n, .slice (some ⟨b, o, none⟩) nn cap] 24 (w.alloc (.cells #[.int .i64 n, .int .i64 n, .slice (some ⟨b, o, none⟩) nn cap] 24))) := ⟨(Grown.refl _).alloc _ _, Blk.new w _ _⟩
  have HZ := hide hz
  obtain ⟨n0, n1⟩ := hn
  clear hz hnn
  go_enter Tryz.func18, Tryz.ntmps18
  go_wp2_with fail
  generalize w.alloc (.cells #[.int .i64 n, .int .i64 n, .slice (some ⟨b, o, none⟩) nn cap] 24) = w1 at *
  refine (unhide SQ _).mono ?_
  rintro e w2 ⟨rfl, g2⟩
  have b2 := Blk.grown (unhide G1).2 g2
  have y0 : w2.cell? ⟨w.heap.size, 0, none⟩ = some (.int .i64 n) := Blk.cell b2 0
  have y1 : w2.cell? ⟨w.heap.size, 1, none⟩ = some (.int .i64 n) := Blk.cell b2 1
  have y2 : w2.cell? ⟨w.heap.size, 2, none⟩ = some (.slice (some ⟨b, o, none⟩) nn cap) := Blk.cell b2 2
  have GG : Hid (Grown w w2) := gtrans (unhide G1).1 g2
  have Z2 : Hid (∀ j, j < nn → w2.cell? ⟨b, o + j, none⟩ = some (.int .i64 (A j))) := fun j hj => gat (unhide GG) (unhide HZ j hj)
  clear G1 g2 SQ b2 HZ
  go_wp2_with fail
  go_loop [3] (fun i => ∃ k : Nat, k ≤ n ∧ i = .int .i64 k ∧ Hid (upTo A n k = true)) (fun i => n - (intOf i).toNat)
  case atStart => exact ⟨0, Nat.zero_le _, rfl, rfl⟩
  case round =>
    obtain ⟨i, hi, rfl, HI⟩ := hrel
    by_cases hlt : i < n
    · go_wp2_with fail
      go_loop [4] (fun k => ∃ j : Nat, j ≤ i + 1 ∧ k = .int .i64 j ∧ Hid (upRow A n i j = true)) (fun k => i + 1 - (intOf k).toNat)
      case atStart => exact ⟨0, Nat.zero_le _, rfl, rfl⟩
      case round =>
        obtain ⟨k, hk, rfl, HK⟩ := hrel
        by_cases hkt : k < i + 1
        · have hp := unhide HP i k hlt (by omega)
          have hc := unhide Z2 _ hp
          have e2 : upRow A n i (k + 1) = (A (i * n + k) == 0) := by
            show (upRow A n i k && _) = _
            rw [unhide HK, Bool.true_and]
          obtain ⟨p, hpe⟩ : ∃ p, i * n + k = p := ⟨_, rfl⟩
          obtain ⟨q, hqe⟩ : ∃ q, i * n = q := ⟨_, rfl⟩
          rw [hpe] at hp hc e2
          rw [hqe] at hpe
          have wa : wrap64 ((i : Int) * (n : Int)) = (q : Int) := wrapP i n q hqe (by omega)
          have wb : wrap64 ((q : Int) + (k : Int)) = (p : Int) := wrapA q k p hpe (by omega)
          obtain ⟨x, hx⟩ : ∃ x, A p = x := ⟨_, rfl⟩
          rw [hx] at hc e2
          have E2 := hide e2
          clear hx hqe hpe e2
          by_cases h0 : x = 0
          · subst h0
            go_wp2
            go_round
            case rel => exact ⟨k + 1, by omega, by go_num, (unhide E2).trans rfl⟩
            case measure => simp [intOf]; omega
          · have hx0 : (x != 0) = true := by simpa using h0
            have EN : Hid (upTo A n n = false) := by
              cases hu : upTo A n n with
              | false => rfl
              | true =>
                exfalso
                have := (upTo_true A n n).1 hu i hlt
                have h3 := (upRow_true A n i (k + 1)).2 (fun j hj => this j (by omega))
                rw [unhide E2] at h3
                exact h0 (by simpa using h3)
            go_wp2
            go_ret
            exact ⟨by rw [unhide EN]; rfl, unhide GG⟩
        · obtain rfl : k = i + 1 := by omega
          have R : Hid (upTo A n (i + 1) = true) := by
            show (upTo A n i && upRow A n i (i + 1)) = true
            rw [unhide HI, unhide HK]
            rfl
          go_wp2
          go_round
          case rel => exact ⟨i + 1, by omega, by go_num, R⟩
          case measure => simp [intOf]; omega
    · obtain rfl : i = n := by omega
      go_wp2
      go_ret
      exact ⟨by rw [unhide HI]; rfl, unhide GG⟩

set_option maxHeartbeats 2000000 in
theorem pRefUpper_bad (R C : Int) (ao : Option Addr) (len cap : Nat) (hb : ¬ sqA R C len) (w : World) :
    Calls Tryz.prog 18 #[.agg #[.int .i64 R, .int .i64 C, .slice ao len cap]] w fun e w' => e = .returned (.bool false) ∧ Grown w w' := by
  have SQ := hide (fun w => pRefSquare R C ao len cap w)
  rw [sqB_no hb] at SQ
  have G1 : Hid (Grown w (w.alloc (.cells #[.int .i64 R, .int .i64 C, .slice ao len cap] 24))) := (Grown.refl _).alloc _ _
  clear hb
  go_enter Tryz.func18, Tryz.ntmps18
  go_wp2_with fail
  generalize w.alloc (.cells #[.int .i64 R, .int .i64 C, .slice ao len cap] 24) = w1 at *
  refine (unhide SQ _).mono ?_
  rintro e w2 ⟨rfl, g2⟩
  have GG := hide (gtrans (unhide G1) g2)
  clear G1 g2 SQ
  go_wp2
  go_ret
  exact ⟨rfl, unhide GG⟩

theorem pRefUpper (R C : Int) (ao : Option Addr) (len cap : Nat) (A : Nat → Int) (w : World) (r : Row w ao len A) :
    Calls Tryz.prog 18 #[.agg #[.int .i64 R, .int .i64 C, .slice ao len cap]] w fun e w' => e = .returned (.bool (upO R C len A)) ∧ Grown w w' := by
  unfold upO
  by_cases h : sqA R C len
  · rw [if_pos h]
    obtain ⟨n, rfl, rfl, hn, rfl, k1, k2⟩ := h.nat
    obtain ⟨b, o, rfl, hz⟩ := r.some k1
    exact pRefUpper_ok n b o cap A hn w hz
  · rw [if_neg h]
    exact pRefUpper_bad R C ao len cap h w

end Go.Proofs.YtopaakjildmjcaaGreat

/- The document's Mul, whose result lies in a block of its own. -/
namespace Go.Proofs.YtopaakjildmjcaaGreat
open Go.RowKit Go.Shelf Go.Proofs.Wd
set_option linter.unusedVariables false
set_option linter.unusedSimpArgs false
set_option maxRecDepth 10000

def DocB (r c : Int) (len : Nat) (Z : Nat → Int) (err : Int) (X : World → Prop) (w : World) (e : Ending) (w' : World) : Prop :=
  ∃ B cap, e = .returned (.tuple #[.agg #[.int .i64 r, .int .i64 c, .slice (some ⟨B, 0, none⟩) len cap], .int .i64 err]) ∧ len ≤ cap ∧ w.heap.size ≤ B ∧ Own B len Z w' ∧ X w'

set_option maxRecDepth 20000 in
set_option maxHeartbeats 8000000 in
theorem refMul_own (R : Nat) (c0 : Bool) (n : Int) (hn : 0 ≤ n ∧ n < 1152921504606846976) (r m c l1 p1 l2 p2 b o b2 o2 : Nat) (A B : Nat → Int) (hr : 1 ≤ r ∧ r ≤ 12) (hm : 1 ≤ m ∧ m ≤ 12) (hc : 1 ≤ c ∧ c ≤ 12) (hl1 : l1 = r * m) (hl2 : l2 = m * c) (hcap : l1 ≤ p1) (hA : ∀ j, j < l1 → I64 (A j)) (hB : ∀ j, j < l2 → I64 (B j)) (w : World) (h : RC R c0 n w)
    (za : ∀ i, i < l1 → w.cell? ⟨b, o + i, none⟩ = some (.int .i64 (A i))) (zb : ∀ i, i < l2 → w.cell? ⟨b2, o2 + i, none⟩ = some (.int .i64 (B i))) (ob : b ≠ R) (ob2 : b2 ≠ R) :
    Calls Tryz.prog 30 #[.pointer (some ⟨R, 0, none⟩), .agg #[.int .i64 r, .int .i64 m, .slice (some ⟨b, o, none⟩) l1 p1], .agg #[.int .i64 m, .int .i64 c, .slice (some ⟨b2, o2, none⟩) l2 p2]] w fun e w' => DocB r c (r * c) (mulZ A B m c) 0 (fun w' => RC R (c0 || orC (mulG A B m c) (r * c)) (n + 2 * (m : Int) * ((r * c : Nat) : Int)) w' ∧ Mk R w w') w e w' := by
  have HPOS : Hid (1 ≤ r * c) := by have := mul12n r c hr hc; show 1 ≤ r * c; omega
  have hlen : r * c ≤ 144 := by have := mul12n r c hr hc; omega
  have A1 := hide (fun w => refMCheck r m (some ⟨b, o, none⟩) l1 p1 w)
  rw [chk_ok ⟨by omega, by omega, by rw [hl1, Int.natCast_mul]⟩] at A1
  have A2 := hide (fun w => refMCheck m c (some ⟨b2, o2, none⟩) l2 p2 w)
  rw [chk_ok ⟨by omega, by omega, by rw [hl2, Int.natCast_mul]⟩] at A2
  obtain ⟨Y, hY⟩ : ∃ Y, Y = mulZ A B m c := ⟨_, rfl⟩
  rw [← hY]
  have EY : Hid (∀ i k, k < c → Y (i * c + k) = dotN (rowZ A m i) (colZ B c k) m ∧ mulG A B m c (i * c + k) = dotC (rowZ A m i) (colZ B c k) m) := fun i k hk => by
    rw [hY]
    constructor
    · show dotN (rowZ A m ((i * c + k) / c)) (colZ B c ((i * c + k) % c)) m = _
      rw [place_div i k c hk, place_mod i k c hk]
    · show dotC (rowZ A m ((i * c + k) / c)) (colZ B c ((i * c + k) % c)) m = _
      rw [place_div i k c hk, place_mod i k c hk]
  have HH := hide (And.intro hn (And.intro hr (And.intro hm (And.intro hc (And.intro hl1 (And.intro hl2 hcap))))))
  have HA := hide (And.intro hA hB)
  have HZ := hide (And.intro za (And.intro zb (And.intro ob ob2)))
  have lR := Blk.lt h
  obtain ⟨G, s3, x0, x1, x2⟩ := alloc3 w #[.int .i64 r, .int .i64 m, .slice (some ⟨b, o, none⟩) l1 p1] 24 #[.int .i64 m, .int .i64 c, .slice (some ⟨b2, o2, none⟩) l2 p2] 24 #[.int .i64 0, .int .i64 0, .slice none 0 0] 24
  have S0 := hide (And.intro G (And.intro x0 (And.intro x1 (And.intro x2 (And.intro h (And.intro lR s3))))))
  have HLN := hide hlen
  clear hlen hY hn hr hm hc hl1 hl2 hcap hA hB za zb ob ob2 h lR G s3 x0 x1 x2
  go_enter Tryz.func30, Tryz.ntmps30
  go_wp2_with fail
  generalize (((w.alloc (.cells #[.int .i64 r, .int .i64 m, .slice (some ⟨b, o, none⟩) l1 p1] 24)).alloc (.cells #[.int .i64 m, .int .i64 c, .slice (some ⟨b2, o2, none⟩) l2 p2] 24)).alloc (.cells #[.int .i64 0, .int .i64 0, .slice none 0 0] 24)) = w1 at *
  refine (unhide A1 _).mono ?_
  rintro e w2 ⟨rfl, g2⟩
  have y2' : w2.cell? ⟨w.heap.size + 1, 0, none⟩ = some (.int .i64 m) := Blk.cell (Blk.grown (unhide S0).2.2.1 g2) 0
  have y3' : w2.cell? ⟨w.heap.size + 1, 1, none⟩ = some (.int .i64 c) := Blk.cell (Blk.grown (unhide S0).2.2.1 g2) 1
  have y4' : w2.cell? ⟨w.heap.size + 1, 2, none⟩ = some (.slice (some ⟨b2, o2, none⟩) l2 p2) := Blk.cell (Blk.grown (unhide S0).2.2.1 g2) 2
  have S1 := hide g2
  clear g2
  go_wp2_with fail
  refine (unhide A2 _).mono ?_
  rintro e w3 ⟨rfl, g3⟩
  have g13 := gtrans (unhide S1) g3
  have S2 := hide g13
  have e0 : w3.cell? ⟨w.heap.size, 0, none⟩ = some (.int .i64 r) := Blk.cell (Blk.grown (unhide S0).2.1 g13) 0
  have e1 : w3.cell? ⟨w.heap.size, 1, none⟩ = some (.int .i64 m) := Blk.cell (Blk.grown (unhide S0).2.1 g13) 1
  have f0 : w3.cell? ⟨w.heap.size + 1, 0, none⟩ = some (.int .i64 m) := Blk.cell (Blk.grown (unhide S0).2.2.1 g13) 0
  have f1 : w3.cell? ⟨w.heap.size + 1, 1, none⟩ = some (.int .i64 c) := Blk.cell (Blk.grown (unhide S0).2.2.1 g13) 1
  clear g3 g13 S1 y2' y3' y4' A1 A2
  go_wp2_with fail
  obtain ⟨L, hL⟩ : ∃ L, w3.heap.size = L := ⟨_, rfl⟩
  have ST : Hid (GA w R [(L, #[.int .i64 r, .int .i64 c, (.slice none 0 0)]), (w.heap.size, #[.int .i64 r, .int .i64 m, .slice (some ⟨b, o, none⟩) l1 p1]), (w.heap.size + 1, #[.int .i64 m, .int .i64 c, .slice (some ⟨b2, o2, none⟩) l2 p2]), (w.heap.size + 1 + 1, #[.int .i64 0, .int .i64 0, .slice none 0 0])] [] (L + 1) Y (c0 || orC (mulG A B m c) (0 * c)) (n + 2 * (m : Int) * ((0 * c : Nat) : Int)) (0 * c) (.slice none 0 0) (w3.alloc (.cells #[.int .i64 r, .int .i64 c, .slice none 0 0] 24))) := by
    obtain ⟨s1, s2, s3, s4, s5, s6, s7⟩ := unhide S0
    have G3 : Grown w3 (w3.alloc (.cells #[.int .i64 r, .int .i64 c, .slice none 0 0] 24)) := (Grown.refl _).alloc _ _
    have gg := gtrans s1 (unhide S2)
    have hs := Blk.lt (Blk.grown s4 (unhide S2))
    refine ⟨by rw [Nat.zero_mul]; exact World.ownsRow_nil _ _ _ _, fun q hq => ?_, fun q hq => absurd hq List.not_mem_nil, ?_, Mk.of (Mod.of (gtrans gg G3)), s6, by have := gg.2.2; omega, by simp; omega⟩
    · have nw : Blk L #[.int .i64 r, .int .i64 c, .slice none 0 0] 24 (w3.alloc (.cells #[.int .i64 r, .int .i64 c, .slice none 0 0] 24)) := by rw [← hL]; exact Blk.new w3 _ _
      have hgs := gg.2.2
      have g23 := gtrans (unhide S2) G3
      simp only [List.mem_cons, List.not_mem_nil, or_false] at hq
      rcases hq with rfl | rfl | rfl | rfl
      · exact ⟨nw, by show w.heap.size ≤ L; omega, by show L < L + 1; omega⟩
      · exact ⟨Blk.grown s2 g23, Nat.le_refl _, by show w.heap.size < L + 1; omega⟩
      · exact ⟨Blk.grown s3 g23, by show w.heap.size ≤ w.heap.size + 1; omega, by show w.heap.size + 1 < L + 1; omega⟩
      · exact ⟨Blk.grown s4 g23, by show w.heap.size ≤ w.heap.size + 1 + 1; omega, by show w.heap.size + 1 + 1 < L + 1; omega⟩
    · rw [Nat.zero_mul]
      show RC _ (c0 || false) (n + 2 * (m : Int) * 0) _
      rw [Bool.or_false, Int.mul_zero, Int.add_zero]
      exact Blk.grown s5 (gtrans gg G3)
  have HLs : Hid (w.heap.size + 1 + 1 < L) := by rw [← hL]; exact Blk.lt (Blk.grown (unhide S0).2.2.2.1 (unhide S2))
  rw [hL]
  generalize w3.alloc (.cells #[.int .i64 r, .int .i64 c, .slice none 0 0] 24) = w4 at *
  clear S0 S2 e0 e1 f0 f1 hL
  go_loopw [9] (fun i wr => ∃ j : Nat, j ≤ r ∧ i = .int .i64 j ∧ Hid (∃ v, GA w R [(L, #[.int .i64 r, .int .i64 c, v]), (w.heap.size, #[.int .i64 r, .int .i64 m, .slice (some ⟨b, o, none⟩) l1 p1]), (w.heap.size + 1, #[.int .i64 m, .int .i64 c, .slice (some ⟨b2, o2, none⟩) l2 p2]), (w.heap.size + 1 + 1, #[.int .i64 0, .int .i64 0, .slice none 0 0])] [] (L + 1) Y (c0 || orC (mulG A B m c) (j * c)) (n + 2 * (m : Int) * ((j * c : Nat) : Int)) (j * c) v wr)) (fun i _ => r - (intOf i).toNat)
  case atStart => exact ⟨0, Nat.zero_le _, rfl, _, unhide ST⟩
  case round =>
    obtain ⟨j, hj, rfl, HI0⟩ := hrel
    clear ST
    obtain ⟨v, hI⟩ := unhide HI0
    have HI := hide hI
    clear hI
    obtain ⟨y0, y1, y2⟩ := (unhide HI).cells (b := w.heap.size) (x0 := .int .i64 r) (x1 := .int .i64 m) (x2 := .slice (some ⟨b, o, none⟩) l1 p1) (by simp)
    by_cases hlt : j < r
    · have RW := hide (refRow_ok r m j l1 p1 b o A (unhide HH).2.1 (unhide HH).2.2.1 hlt (unhide HH).2.2.2.2.1 (unhide HH).2.2.2.2.2.2 wr (fun i hi => (unhide HI).2.2.2.2.1.cell ((unhide HZ).1 i hi) (unhide HZ).2.2.1))
      have IR : Hid (∀ i, i < m → I64 (rowZ A m j i)) := fun i hi => (unhide HA).1 _ (by rw [(unhide HH).2.2.2.2.1]; exact place_in j i r m hlt hi)
      have hj1 : j ≤ 1000000 := Nat.le_trans hj (Nat.le_trans (unhide HH).2.1.2 (by omega))
      have B4 : Hid (j + 1 ≤ r) := hlt
      clear hj hlt HI0
      go_wp2_with fail
      refine (unhide RW).mono ?_
      rintro e w5 ⟨ao1, cap1, rfl, hc1, row1, off1, kp1⟩
      have G5 : Hid (GA w R [(L, #[.int .i64 r, .int .i64 c, v]), (w.heap.size, #[.int .i64 r, .int .i64 m, .slice (some ⟨b, o, none⟩) l1 p1]), (w.heap.size + 1, #[.int .i64 m, .int .i64 c, .slice (some ⟨b2, o2, none⟩) l2 p2]), (w.heap.size + 1 + 1, #[.int .i64 0, .int .i64 0, .slice none 0 0])] [(ao1, m, rowZ A m j)] (L + 1) Y (c0 || orC (mulG A B m c) (j * c + 0)) (n + 2 * (m : Int) * ((j * c + 0 : Nat) : Int)) (j * c + 0) v w5 ∧ Off L m ao1) := ⟨(unhide HI).row kp1 row1 off1, off1 L ((unhide HI).2.2.2.2.2.2.2)⟩
      clear RW HI kp1 row1 off1 y0 y1 y2
      go_wp2_with fail
      go_loopw [12] (fun i wr => ∃ k : Nat, k ≤ c ∧ i = .int .i64 k ∧ Hid (∃ v, GA w R [(L, #[.int .i64 r, .int .i64 c, v]), (w.heap.size, #[.int .i64 r, .int .i64 m, .slice (some ⟨b, o, none⟩) l1 p1]), (w.heap.size + 1, #[.int .i64 m, .int .i64 c, .slice (some ⟨b2, o2, none⟩) l2 p2]), (w.heap.size + 1 + 1, #[.int .i64 0, .int .i64 0, .slice none 0 0])] [(ao1, m, rowZ A m j)] (L + 1) Y (c0 || orC (mulG A B m c) (j * c + k)) (n + 2 * (m : Int) * ((j * c + k : Nat) : Int)) (j * c + k) v wr)) (fun i _ => c - (intOf i).toNat)
      case atStart => exact ⟨0, Nat.zero_le _, rfl, _, (unhide G5).1⟩
      case round =>
        obtain ⟨k, hk, rfl, HI0⟩ := hrel
        obtain ⟨v, hI⟩ := unhide HI0
        have HI := hide hI
        clear hI
        obtain ⟨y0, y1, y2⟩ := (unhide HI).cells (b := w.heap.size + 1) (x0 := .int .i64 m) (x1 := .int .i64 c) (x2 := .slice (some ⟨b2, o2, none⟩) l2 p2) (by simp)
        by_cases hlt : k < c
        · have CW := hide (refColumn m c k l2 p2 b2 o2 B (unhide HH).2.2.1 (unhide HH).2.2.2.1 hlt (unhide HH).2.2.2.2.2.1 wr (fun i hi => (unhide HI).2.2.2.2.1.cell ((unhide HZ).2.1 i hi) (unhide HZ).2.2.2))
          have EK : Hid (Y (j * c + k) = dotN (rowZ A m j) (colZ B c k) m ∧ (c0 || orC (mulG A B m c) (j * c + k + 1)) = (c0 || orC (mulG A B m c) (j * c + k) || dotC (rowZ A m j) (colZ B c k) m) ∧ n + 2 * (m : Int) * ((j * c + k + 1 : Nat) : Int) = n + 2 * (m : Int) * ((j * c + k : Nat) : Int) + 2 * (m : Int)) := by
            obtain ⟨q1, q2⟩ := unhide EY j k hlt
            refine ⟨q1, ?_, bnd_succ n m (j * c + k)⟩
            show (c0 || (orC (mulG A B m c) (j * c + k) || mulG A B m c (j * c + k))) = _
            rw [q2, Bool.or_assoc]
          have hq : j * c + k ≤ 144 := by have h1 := place_in j k r c (unhide B4) hlt; have := unhide HLN; omega
          have BN : Hid (0 ≤ n + 2 * (m : Int) * ((j * c + k : Nat) : Int) ∧ n + 2 * (m : Int) * ((j * c + k : Nat) : Int) < 2305843009213693952) := by
            have h1 := (unhide HH).1
            have h2 := bnd m (j * c + k) (unhide HH).2.2.1.2 hq
            show _ ∧ _
            omega
          have IC : Hid (∀ i, i < m → I64 (colZ B c k i)) := fun i hi => (unhide HA).2 _ (by rw [(unhide HH).2.2.2.2.2.1]; exact place_in i k m c hi hlt)
          have hk1 : k ≤ 1000000 := Nat.le_trans hk (Nat.le_trans (unhide HH).2.2.2.1.2 (by omega))
          have C4 : Hid (k + 1 ≤ c) := hlt
          have EQ : Hid (j * c + (k + 1) = j * c + k + 1) := rfl
          have hq1 : Hid (j * c + k ≤ 1000000) := Nat.le_trans hq (by omega)
          clear hk hlt HI0 hq
          obtain ⟨cq1, hcq1⟩ : ∃ x, (c0 || orC (mulG A B m c) (j * c + k + 1)) = x := ⟨_, rfl⟩
          obtain ⟨nq1, hnq1⟩ : ∃ x, n + 2 * (m : Int) * ((j * c + k + 1 : Nat) : Int) = x := ⟨_, rfl⟩
          rw [hcq1, hnq1] at EK
          have E1 := hide hcq1
          have E2 := hide hnq1
          clear hcq1 hnq1
          generalize n + 2 * (m : Int) * ((j * c + k : Nat) : Int) = nq at EK BN HI
          generalize (c0 || orC (mulG A B m c) (j * c + k)) = cq at EK HI
          obtain ⟨q, hq⟩ : ∃ q, j * c + k = q := ⟨_, rfl⟩
          rw [hq] at EK HI hq1
          go_wp2_with fail
          refine (unhide CW).mono ?_
          rintro e w6 ⟨ao2, cap2, rfl, hc2, row2, off2, kp2⟩
          have G6 := hide ((unhide HI).row kp2 row2 off2)
          clear CW HI kp2 row2 off2 y0 y1 y2
          go_wp2_with fail
          refine (refUDot_ok R cq nq ao1 ao2 m cap1 cap2 (rowZ A m j) (colZ B c k) (unhide BN) (by have := unhide HH; omega) IR IC w6 (unhide G6).2.2.2.1 ((unhide G6).2.2.1 (ao1, m, rowZ A m j) (by simp)).1 ((unhide G6).2.2.1 (ao1, m, rowZ A m j) (by simp)).2.1 ((unhide G6).2.2.1 (ao2, m, colZ B c k) (by simp)).1 ((unhide G6).2.2.1 (ao2, m, colZ B c k) (by simp)).2.1).mono ?_
          rintro e w7 ⟨rfl, u7, m7⟩
          have G7 := hide (((unhide G6).mod m7 u7).sub (rows' := [(ao1, m, rowZ A m j)]) (by simp))
          clear G6 m7 u7 hc2
          rw [← (unhide EK).2.1, ← (unhide EK).2.2] at G7
          have EZ := hide (unhide EK).1
          clear EK IC BN
          generalize dotN (rowZ A m j) (colZ B c k) m = z at *
          obtain ⟨t0, t1, t2⟩ := (unhide G7).cells (b := L) (x0 := .int .i64 r) (x1 := .int .i64 c) (x2 := v) (by simp)
          have hzL : L < w7.heap.size := heap_gt t0
          have B3 : Hid (L + 1 ≤ (w7.alloc (.cells #[.int .i64 z] 3)).heap.size) := by
            show _ ≤ _
            simp
            omega
          go_wp2_with (at_builtin; refine wpList_append_at rfl _ _ rfl (L + 1) _ _ _ rfl ((unhide G7).1.alloc _) ⟨w7.heap.size, 0, none⟩ 1 1 [.int .i64 z] rfl rfl (news_one _ _ _) (one_cell _) ⟨by decide, by decide⟩ (unhide hq1) (unhide B3) ?_; intro v' w8 hown hgrow hwh; obtain ⟨g', cap', rfl⟩ := ownsRow_succ hown; have G8 := hide (GA.app (unhide G7) (unhide EZ) hown hgrow hwh); clear hown hgrow hwh t0 t1 t2; have q2 : w8.cell? ⟨L, 2, none⟩ = some v := (Blk.cell ((unhide G8).2.1 _ List.mem_cons_self).1 2); have q3 := Blk.free ((unhide G8).2.1 _ List.mem_cons_self).1 2)
          have HP : Hid (∃ v, GA w R [(L, #[.int .i64 r, .int .i64 c, v]), (w.heap.size, #[.int .i64 r, .int .i64 m, .slice (some ⟨b, o, none⟩) l1 p1]), (w.heap.size + 1, #[.int .i64 m, .int .i64 c, .slice (some ⟨b2, o2, none⟩) l2 p2]), (w.heap.size + 1 + 1, #[.int .i64 0, .int .i64 0, .slice none 0 0])] [(ao1, m, rowZ A m j)] (L + 1) Y (c0 || orC (mulG A B m c) (j * c + (k + 1))) (n + 2 * (m : Int) * ((j * c + (k + 1) : Nat) : Int)) (j * c + (k + 1)) v (w8.setCell ⟨L, 2, none⟩ (.slice (some ⟨g', 0, none⟩) (q + 1) cap'))) := by
            have h9 := (unhide G8).set (u := .slice (some ⟨g', 0, none⟩) (q + 1) cap') (by have := unhide HLs; simp; omega) (by simp; exact (unhide G5).2)
            show ∃ v, _
            refine ⟨.slice (some ⟨g', 0, none⟩) (q + 1) cap', ?_⟩
            have e : j * c + (k + 1) = q + 1 := by rw [← hq]; rfl
            have e1 := unhide E1
            have e2 := unhide E2
            rw [hq] at e1 e2
            rw [e, e1, e2]
            exact h9
          go_roundw
          case rel => exact ⟨k + 1, unhide C4, by go_num, HP⟩
          case measure => have := unhide C4; simp [intOf]; omega
        · obtain rfl : k = c := by omega
          have HP : Hid (∃ v, GA w R [(L, #[.int .i64 r, .int .i64 k, v]), (w.heap.size, #[.int .i64 r, .int .i64 m, .slice (some ⟨b, o, none⟩) l1 p1]), (w.heap.size + 1, #[.int .i64 m, .int .i64 k, .slice (some ⟨b2, o2, none⟩) l2 p2]), (w.heap.size + 1 + 1, #[.int .i64 0, .int .i64 0, .slice none 0 0])] [] (L + 1) Y (c0 || orC (mulG A B m k) ((j + 1) * k)) (n + 2 * (m : Int) * (((j + 1) * k : Nat) : Int)) ((j + 1) * k) v wr) := by
            have e : (j + 1) * k = j * k + k := by rw [Nat.add_mul, Nat.one_mul]
            show ∃ v, _
            rw [e]
            exact ⟨v, (unhide HI).sub (by simp)⟩
          clear HI0 HI
          go_wp2
          go_roundw
          case rel => exact ⟨j + 1, unhide B4, by go_num, HP⟩
          case measure => have := unhide B4; simp [intOf]; omega
    · obtain rfl : j = r := by omega
      obtain ⟨h0, hbx, _, hu, hk, hl1, hl2, _⟩ := unhide HI
      obtain ⟨Bq, cap2, rfl, g1, gB, gO⟩ := owns_ownC (unhide HPOS) h0
      obtain ⟨t0, t1, t2⟩ := (unhide HI).cells (b := L) (x0 := .int .i64 j) (x1 := .int .i64 c) (x2 := (.slice (some ⟨Bq, 0, none⟩) (j * c) cap2)) (by simp)
      obtain ⟨s0, s1, s2⟩ := (unhide HI).cells (b := w.heap.size + 1 + 1) (x0 := .int .i64 0) (x1 := .int .i64 0) (x2 := .slice none 0 0) (by simp)
      have b2 := (hbx (w.heap.size + 1 + 1, #[.int .i64 0, .int .i64 0, .slice none 0 0]) (by simp)).1
      have f := Blk.free b2
      have R6 := hide (And.intro b2 (And.intro g1 (And.intro gB (And.intro gO (And.intro hu (And.intro hk (And.intro hl1 hl2)))))))
      clear h0 hu hk g1 gB gO HI hl1 hl2 hbx b2 HI0
      generalize hjc : j * c = len at *
      go_wp2
      obtain ⟨b2, g1, gB, gO, hu, hk, hl1, hl2⟩ := unhide R6
      have P := putM b2 (.int .i64 j) (.int .i64 c) (.slice (some ⟨Bq, 0, none⟩) len cap2)
      generalize (((wr.setCell ⟨w.heap.size + 1 + 1, 0, none⟩ (.int .i64 j)).setCell ⟨w.heap.size + 1 + 1, 1, none⟩ (.int .i64 c)).setCell ⟨w.heap.size + 1 + 1, 2, none⟩ (.slice (some ⟨Bq, 0, none⟩) len cap2)) = wE at *
      have c0 : wE.cell? ⟨w.heap.size + 1 + 1, 0, none⟩ = some (.int .i64 j) := Blk.cell P.1 0
      have c1 : wE.cell? ⟨w.heap.size + 1 + 1, 1, none⟩ = some (.int .i64 c) := Blk.cell P.1 1
      have c2 : wE.cell? ⟨w.heap.size + 1 + 1, 2, none⟩ = some (.slice (some ⟨Bq, 0, none⟩) len cap2) := Blk.cell P.1 2
      refine bodyPost_ret (v := .tuple #[.agg #[.int .i64 j, .int .i64 c, .slice (some ⟨Bq, 0, none⟩) len cap2], .int .i64 0]) (by simp [results, Tryz.results30, go_sem, c0, c1, c2]) rfl ?_
      have := unhide HLs
      exact (show DocB _ _ _ _ _ _ _ _ _ from ⟨_, _, rfl, g1, by omega, gO.mk (Mk.of P.2) (by omega), Blk.keep hu P.2 (by omega), hk.new P.2 (by omega)⟩)



set_option maxRecDepth 20000 in
set_option maxHeartbeats 4000000 in
theorem refDiag_own (n cap : Nat) (ao : Option Addr) (L : Nat → Int) (hn : 1 ≤ n ∧ n ≤ 12) (w : World) (hr : Row w ao n L) :
    Calls Tryz.prog 50 #[.slice ao n cap] w fun e w' => DocB n n (n * n) (diagZ L n) 0 (Kp w) w e w' := by
  obtain ⟨nn, hnn⟩ : ∃ nn, n * n = nn := ⟨_, rfl⟩
  have hb : nn ≤ 144 := by have := mul12n n n hn hn; omega
  have h0 : 1 ≤ (n : Int) := by omega
  have h1 : (n : Int) ≤ 12 := by omega
  have nn6 : nn ≤ 1000000 := by omega
  rw [hnn]
  have EN := hide hnn
  have MK := make_ints nn nn6
  obtain ⟨G, s3, x0, x1, x2⟩ := alloc3 w #[.int .i64 0, .int .i64 0, .slice none 0 0] 24 (ints nn (fun _ => 0)) 3 #[.int .i64 n, .int .i64 n, .slice (some ⟨w.heap.size + 1, 0, none⟩) nn nn] 24
  have ST : Hid (DgI w n nn L 0 (((w.alloc (.cells #[.int .i64 0, .int .i64 0, .slice none 0 0] 24)).alloc (.cells (ints nn (fun _ => 0)) 3)).alloc (.cells #[.int .i64 n, .int .i64 n, .slice (some ⟨w.heap.size + 1, 0, none⟩) nn nn] 24))) := by
    refine ⟨x0, ?_, x2, Kp.of G⟩
    rw [← dgZ_zero]
    exact x1
  have HR := hide hr
  have wa : wrap64 ((n : Int) * (n : Int)) = (nn : Int) := wrapP n n nn hnn nn6
  clear hr G s3 x0 x1 x2 hnn hn
  go_enter Tryz.func50, Tryz.ntmps50
  go_wp2_with fail
  generalize (((w.alloc (.cells #[.int .i64 0, .int .i64 0, .slice none 0 0] 24)).alloc (.cells (ints nn (fun _ => 0)) 3)).alloc (.cells #[.int .i64 n, .int .i64 n, .slice (some ⟨w.heap.size + 1, 0, none⟩) nn nn] 24)) = w1 at *
  clear MK wa
  go_loopw [6] (fun i wr => ∃ k : Nat, k ≤ n ∧ i = .int .i64 k ∧ Hid (DgI w n nn L k wr)) (fun i _ => n - (intOf i).toNat)
  case atStart => exact ⟨0, Nat.zero_le _, rfl, unhide ST⟩
  case round =>
    obtain ⟨k, hk, rfl, HI⟩ := hrel
    clear ST
    by_cases hlt : k < n
    · obtain ⟨b, o, rfl, hc⟩ := (unhide HR).at hlt
      obtain ⟨m, hm⟩ : ∃ m, k * n = m := ⟨_, rfl⟩
      obtain ⟨p, hp⟩ : ∃ p, m + k = p := ⟨_, rfl⟩
      have hpl : p < nn := by
        have h1 := place_in k k n n hlt hlt
        rw [unhide EN, hm, hp] at h1
        exact h1
      obtain ⟨x, ex⟩ : ∃ x, L k = x := ⟨_, rfl⟩
      rw [ex] at hc
      have hc1 : wr.cell? ⟨b, o + k, none⟩ = some (.int .i64 x) := (unhide HI).2.2.2.cell hc
      have hc2 : wr.cell? ⟨w.heap.size + 1 + 1, 2, none⟩ = some (.slice (some ⟨w.heap.size + 1, 0, none⟩) nn nn) := Blk.cell (unhide HI).2.2.1 2
      obtain ⟨y, hc3⟩ : ∃ y, wr.cell? ⟨w.heap.size + 1, p, none⟩ = some (.int .i64 y) := ⟨_, by rw [Blk.cell (unhide HI).2.1, ints_at nn _ p hpl]⟩
      have hfz : wr.frozen? ⟨w.heap.size + 1, p, none⟩ = false := Blk.free (unhide HI).2.1 p
      have HP : Hid (DgI w n nn L (k + 1) (wr.drew.setCell ⟨w.heap.size + 1, p, none⟩ (.int .i64 x))) := DgI.set (wr := wr.drew) (unhide HI) hlt (by rw [hm]; exact hp) ex
      have i0 : (0 : Int) ≤ (k : Int) := by omega
      have i1 : (k : Int) < (n : Int) := by omega
      have i2 : (0 : Int) ≤ (p : Int) := by omega
      have i3 : (p : Int) < (nn : Int) := by omega
      have hk1 : k ≤ 1000000 := by omega
      have hm6 : m ≤ 1000000 := by omega
      have hp6 : p ≤ 1000000 := by omega
      have B4 : Hid (k + 1 ≤ n) := hlt
      have wa : IntKind.i64.wrap ((k : Int) * (n : Int)) = (m : Int) := wrapPi k n m hm hm6
      have wb : IntKind.i64.wrap ((m : Int) + (k : Int)) = (p : Int) := wrapAi m k p hp hp6
      clear hm hp ex hc HI hpl
      go_wp2
      refine region_G (fun w' => w'.cell? ⟨b, o + k, none⟩ = some (.int .i64 x) ∧ w'.cell? ⟨w.heap.size + 1 + 1, 2, none⟩ = some (.slice (some ⟨w.heap.size + 1, 0, none⟩) nn nn)) 12 (by kernel_rfl) ⟨hc1, hc2⟩ (fun hHeld => ?_)
      refine take_G (i := 0) (d := 28) (v := .pointer (some ⟨w.heap.size + 1 + 1, 2, none⟩)) rfl rfl (by kernel_rfl) (by kernel_rfl) (by kernel_rfl) (by kernel_rfl) (by kernel_rfl) (Or.inl ⟨by rfl, ?_⟩) (by assumption) ?_
      · intro w hSw
        (try dsimp only at hSw)
        go_simp
      (try simp only [Act.put, List.setIfInBounds_toArray, List.set_cons_zero, List.set_cons_succ])
      refine take_G (i := 1) (d := 29) (v := .slice (some ⟨w.heap.size + 1, 0, none⟩) nn nn) rfl rfl (by kernel_rfl) (by kernel_rfl) (by kernel_rfl) (by kernel_rfl) (by kernel_rfl) (Or.inl ⟨by rfl, ?_⟩) (by assumption) ?_
      · intro w hSw
        (try dsimp only at hSw)
        go_simp
      (try simp only [Act.put, List.setIfInBounds_toArray, List.set_cons_zero, List.set_cons_succ])
      refine take_G (i := 2) (d := 30) (v := .int .i64 (k : Int)) rfl rfl (by kernel_rfl) (by kernel_rfl) (by kernel_rfl) (by kernel_rfl) (by kernel_rfl) (Or.inl ⟨by rfl, ?_⟩) (by assumption) ?_
      · intro w hSw
        (try dsimp only at hSw)
        go_simp
      (try simp only [Act.put, List.setIfInBounds_toArray, List.set_cons_zero, List.set_cons_succ])
      refine take_G (i := 3) (d := 31) (v := .int .i64 (n : Int)) rfl rfl (by kernel_rfl) (by kernel_rfl) (by kernel_rfl) (by kernel_rfl) (by kernel_rfl) (Or.inl ⟨by rfl, ?_⟩) (by assumption) ?_
      · intro w hSw
        (try dsimp only at hSw)
        go_simp
      (try simp only [Act.put, List.setIfInBounds_toArray, List.set_cons_zero, List.set_cons_succ])
      refine take_G (i := 4) (d := 32) (v := .int .i64 (m : Int)) rfl rfl (by kernel_rfl) (by kernel_rfl) (by kernel_rfl) (by kernel_rfl) (by kernel_rfl) (Or.inl ⟨by rfl, ?_⟩) (by assumption) ?_
      · intro w hSw
        (try dsimp only at hSw)
        go_simp
      (try simp only [Act.put, List.setIfInBounds_toArray, List.set_cons_zero, List.set_cons_succ])
      refine take_G (i := 5) (d := 33) (v := .int .i64 (k : Int)) rfl rfl (by kernel_rfl) (by kernel_rfl) (by kernel_rfl) (by kernel_rfl) (by kernel_rfl) (Or.inl ⟨by rfl, ?_⟩) (by assumption) ?_
      · intro w hSw
        (try dsimp only at hSw)
        go_simp
      (try simp only [Act.put, List.setIfInBounds_toArray, List.set_cons_zero, List.set_cons_succ])
      refine take_G (i := 6) (d := 34) (v := .int .i64 (p : Int)) rfl rfl (by kernel_rfl) (by kernel_rfl) (by kernel_rfl) (by kernel_rfl) (by kernel_rfl) (Or.inl ⟨by rfl, ?_⟩) (by assumption) ?_
      · intro w hSw
        (try dsimp only at hSw)
        go_simp
      (try simp only [Act.put, List.setIfInBounds_toArray, List.set_cons_zero, List.set_cons_succ])
      refine take_G (i := 7) (d := 35) (v := .slice (some ⟨b, o, none⟩) n cap) rfl rfl (by kernel_rfl) (by kernel_rfl) (by kernel_rfl) (by kernel_rfl) (by kernel_rfl) (Or.inl ⟨by rfl, ?_⟩) (by assumption) ?_
      · intro w hSw
        (try dsimp only at hSw)
        go_simp
      (try simp only [Act.put, List.setIfInBounds_toArray, List.set_cons_zero, List.set_cons_succ])
      refine take_G (i := 8) (d := 36) (v := .int .i64 (k : Int)) rfl rfl (by kernel_rfl) (by kernel_rfl) (by kernel_rfl) (by kernel_rfl) (by kernel_rfl) (Or.inl ⟨by rfl, ?_⟩) (by assumption) ?_
      · intro w hSw
        (try dsimp only at hSw)
        go_simp
      (try simp only [Act.put, List.setIfInBounds_toArray, List.set_cons_zero, List.set_cons_succ])
      refine take_G (i := 9) (d := 37) (v := .pointer (some ⟨b, o + k, none⟩)) rfl rfl (by kernel_rfl) (by kernel_rfl) (by kernel_rfl) (by kernel_rfl) (by kernel_rfl) (Or.inl ⟨by rfl, ?_⟩) (by assumption) ?_
      · intro w hSw
        (try dsimp only at hSw)
        go_simp
      (try simp only [Act.put, List.setIfInBounds_toArray, List.set_cons_zero, List.set_cons_succ])
      refine take_G (i := 10) (d := 38) (v := .int .i64 x) rfl rfl (by kernel_rfl) (by kernel_rfl) (by kernel_rfl) (by kernel_rfl) (by kernel_rfl) (Or.inl ⟨by rfl, ?_⟩) (by assumption) ?_
      · intro w hSw
        (try dsimp only at hSw)
        go_simp
      (try simp only [Act.put, List.setIfInBounds_toArray, List.set_cons_zero, List.set_cons_succ])
      refine take_G (i := 11) (d := 39) (v := .pointer (some ⟨w.heap.size + 1, p, none⟩)) rfl rfl (by kernel_rfl) (by kernel_rfl) (by kernel_rfl) (by kernel_rfl) (by kernel_rfl) (Or.inl ⟨by rfl, ?_⟩) (by assumption) ?_
      · intro w hSw
        (try dsimp only at hSw)
        go_simp
      (try simp only [Act.put, List.setIfInBounds_toArray, List.set_cons_zero, List.set_cons_succ])
      refine step_G (i := 12) (by kernel_rfl) (fun K hK => ?_)
      refine wpOp_of rfl rfl ?_
      unfold Oper.wp
      go_simp
      refine hK _ _ (fun h => absurd rfl h) ?_
      clear hK K
      refine done_G (by kernel_rfl) ?_
      clear wa wb
      refine noPanic_normalE ?_
      go_wp2
      go_roundw
      case rel => exact ⟨k + 1, unhide B4, by go_num, HP⟩
      case measure => have := unhide B4; simp [intOf]; omega
    · obtain rfl : k = n := by omega
      obtain ⟨b0, b1, b2, kk⟩ := unhide HI
      have y0 : wr.cell? ⟨w.heap.size + 1 + 1, 0, none⟩ = some (.int .i64 k) := Blk.cell b2 0
      have y1 : wr.cell? ⟨w.heap.size + 1 + 1, 1, none⟩ = some (.int .i64 k) := Blk.cell b2 1
      have y2 : wr.cell? ⟨w.heap.size + 1 + 1, 2, none⟩ = some (.slice (some ⟨w.heap.size + 1, 0, none⟩) nn nn) := Blk.cell b2 2
      have e0 : wr.cell? ⟨w.heap.size, 0, none⟩ = some (.int .i64 0) := Blk.cell b0 0
      have e1 : wr.cell? ⟨w.heap.size, 1, none⟩ = some (.int .i64 0) := Blk.cell b0 1
      have e2 : wr.cell? ⟨w.heap.size, 2, none⟩ = some (.slice none 0 0) := Blk.cell b0 2
      have f := Blk.free b0
      have R6 := hide (And.intro b0 (And.intro b1 kk))
      clear b0 b1 b2 kk HI
      go_wp2
      obtain ⟨b0, b1, kk⟩ := unhide R6
      have P := putM b0 (.int .i64 k) (.int .i64 k) (.slice (some ⟨w.heap.size + 1, 0, none⟩) nn nn)
      generalize (((wr.setCell ⟨w.heap.size, 0, none⟩ (.int .i64 k)).setCell ⟨w.heap.size, 1, none⟩ (.int .i64 k)).setCell ⟨w.heap.size, 2, none⟩ (.slice (some ⟨w.heap.size + 1, 0, none⟩) nn nn)) = wE at *
      have c0 : wE.cell? ⟨w.heap.size, 0, none⟩ = some (.int .i64 k) := Blk.cell P.1 0
      have c1 : wE.cell? ⟨w.heap.size, 1, none⟩ = some (.int .i64 k) := Blk.cell P.1 1
      have c2 : wE.cell? ⟨w.heap.size, 2, none⟩ = some (.slice (some ⟨w.heap.size + 1, 0, none⟩) nn nn) := Blk.cell P.1 2
      refine bodyPost_ret (v := .tuple #[.agg #[.int .i64 k, .int .i64 k, .slice (some ⟨w.heap.size + 1, 0, none⟩) nn nn], .int .i64 0]) (by simp [results, Tryz.results50, go_sem, c0, c1, c2]) rfl ?_
      have own : Own (w.heap.size + 1) nn (diagZ L k) wE := (Own.of (Blk.keep b1 P.2 (by omega))).congr (fun i hi => dgZ_all L k i (by rw [unhide EN]; exact hi))
      have row : Row wE (some ⟨w.heap.size + 1, 0, none⟩) nn (diagZ L k) := by
        have r0 := (Blk.row b1).mod P.2 (off_blk (by omega))
        rcases r0 with r0 | ⟨b, o, e, hc⟩
        · exact Or.inl r0
        · exact Or.inr ⟨b, o, e, fun i hi => by rw [hc i hi, dgZ_all L k i (by rw [unhide EN]; exact hi)]⟩
      exact (show DocB _ _ _ _ _ _ _ _ _ from ⟨_, _, rfl, Nat.le_refl _, by omega, own, kk.mod P.2 (Nat.le_refl _)⟩)

set_option maxRecDepth 20000 in
set_option maxHeartbeats 4000000 in
theorem refEye_own (n : Nat) (hn : 1 ≤ n ∧ n ≤ 12) (w : World) :
    Calls Tryz.prog 29 #[.int .i64 n] w fun e w' => DocB n n (n * n) (diagZ oneZ n) 0 (Kp w) w e w' := by
  have h0 : 1 ≤ (n : Int) := by omega
  have h1 : (n : Int) ≤ 12 := by omega
  have n6 : n ≤ 1000000 := by omega
  have MK := make_ints n n6
  have HN := hide hn
  obtain ⟨nn, hnn⟩ : ∃ nn, n * n = nn := ⟨_, rfl⟩
  rw [hnn]
  have EN := hide hnn
  clear hnn
  have ST : Hid (EyI w n 0 ((w.alloc (.cells #[.int .i64 0, .int .i64 0, .slice none 0 0] 24)).alloc (.cells (ints n (fun _ => 0)) 3))) := by
    refine ⟨Blk.grown (Blk.new w _ _) ((Grown.refl _).alloc _ _), ?_, ((Kp.refl _).alloc _ _).alloc _ _⟩
    rw [ints_congr n (fun i => if i < 0 then 4294967296 else 0) (fun _ => 0) (fun i _ => if_neg (Nat.not_lt_zero _))]
    exact blk_new2 w _ _ _
  clear hn
  go_enter Tryz.func29, Tryz.ntmps29
  go_wp2_with fail
  generalize ((w.alloc (.cells #[.int .i64 0, .int .i64 0, .slice none 0 0] 24)).alloc (.cells (ints n (fun _ => 0)) 3)) = w1 at *
  clear MK
  go_loopw [5] (fun i wr => ∃ k : Nat, k ≤ n ∧ i = .int .i64 k ∧ Hid (EyI w n k wr)) (fun i _ => n - (intOf i).toNat)
  case atStart => exact ⟨0, Nat.zero_le _, rfl, unhide ST⟩
  case round =>
    obtain ⟨k, hk, rfl, HI⟩ := hrel
    clear ST
    by_cases hlt : k < n
    · obtain ⟨y, hc3⟩ : ∃ y, wr.cell? ⟨w.heap.size + 1, k, none⟩ = some (.int .i64 y) := ⟨_, by rw [Blk.cell (unhide HI).2.1, ints_at n _ k hlt]⟩
      have hfz : wr.frozen? ⟨w.heap.size + 1, k, none⟩ = false := Blk.free (unhide HI).2.1 k
      have HP : Hid (EyI w n (k + 1) (wr.setCell ⟨w.heap.size + 1, k, none⟩ (.int .i64 4294967296))) := EyI.set (unhide HI)
      have i0 : (0 : Int) ≤ (k : Int) := by omega
      have i1 : (k : Int) < (n : Int) := by omega
      have hk1 : k ≤ 1000000 := by omega
      have B4 : Hid (k + 1 ≤ n) := hlt
      clear HI
      go_wp2
      go_roundw
      case rel => exact ⟨k + 1, unhide B4, by go_num, HP⟩
      case measure => have := unhide B4; simp [intOf]; omega
    · obtain rfl : k = n := by omega
      have row : Row wr (some ⟨w.heap.size + 1, 0, none⟩) k oneZ := by
        have b1 := (unhide HI).2.1
        rw [ints_congr k (fun i => if i < k then 4294967296 else 0) oneZ (fun i hi => if_pos hi)] at b1
        exact Blk.row b1
      have DG0 := refDiag_own k k (some ⟨w.heap.size + 1, 0, none⟩) oneZ (unhide HN) wr row
      rw [unhide EN] at DG0
      have DG := hide DG0
      clear row DG0
      go_wp2_with fail
      refine (unhide DG).mono ?_
      rintro e w3 ⟨Bq, cap2, rfl, g1, g3, g4, kk⟩
      have b0 := Blk.kp (unhide HI).1 kk
      have hw : w.heap.size < wr.heap.size := Blk.lt (unhide HI).1
      have k3 : Kp w w3 := (unhide HI).2.2.trans kk
      have e0 : w3.cell? ⟨w.heap.size, 0, none⟩ = some (.int .i64 0) := Blk.cell b0 0
      have e1 : w3.cell? ⟨w.heap.size, 1, none⟩ = some (.int .i64 0) := Blk.cell b0 1
      have e2 : w3.cell? ⟨w.heap.size, 2, none⟩ = some (.slice none 0 0) := Blk.cell b0 2
      have f := Blk.free b0
      have R6 := hide (And.intro b0 (And.intro g1 (And.intro g3 (And.intro g4 (And.intro k3 hw)))))
      clear b0 kk k3 HI g1 g3 g4 hw DG
      go_wp2
      obtain ⟨b0, g1, g3, g4, k3, hw⟩ := unhide R6
      have P := putM b0 (.int .i64 k) (.int .i64 k) (.slice (some ⟨Bq, 0, none⟩) nn cap2)
      generalize (((w3.setCell ⟨w.heap.size, 0, none⟩ (.int .i64 k)).setCell ⟨w.heap.size, 1, none⟩ (.int .i64 k)).setCell ⟨w.heap.size, 2, none⟩ (.slice (some ⟨Bq, 0, none⟩) nn cap2)) = wE at *
      have c0 : wE.cell? ⟨w.heap.size, 0, none⟩ = some (.int .i64 k) := Blk.cell P.1 0
      have c1 : wE.cell? ⟨w.heap.size, 1, none⟩ = some (.int .i64 k) := Blk.cell P.1 1
      have c2 : wE.cell? ⟨w.heap.size, 2, none⟩ = some (.slice (some ⟨Bq, 0, none⟩) nn cap2) := Blk.cell P.1 2
      refine bodyPost_ret (v := .tuple #[.agg #[.int .i64 k, .int .i64 k, .slice (some ⟨Bq, 0, none⟩) nn cap2], .int .i64 0]) (by simp [results, Tryz.results29, go_sem, c0, c1, c2]) rfl ?_
      exact (show DocB _ _ _ _ _ _ _ _ _ from ⟨_, _, rfl, g1, by omega, g4.mk (Mk.of P.2) (by omega), k3.mod P.2 (Nat.le_refl _)⟩)

end Go.Proofs.YtopaakjildmjcaaGreat

/- The document's Terms. -/
namespace Go.Proofs.YtopaakjildmjcaaGreat
open Go.RowKit Go.Shelf Go.Proofs.Wd
set_option linter.unusedVariables false
set_option linter.unusedSimpArgs false
set_option maxRecDepth 10000

def blkM (x : MV) : Nat := (x.ao.map fun a => a.block).getD 0
/-- Terms that the document has told: a list, and each one's numbers in a block of its own. -/
def DTx (n nn : Nat) (A : Nat → Int) (i B cp : Nat) : MV := ⟨n, n, some ⟨B, 0, none⟩, nn, cp, termZ A n i⟩
def DTl (base n nn : Nat) (A : Nat → Int) (v : Value) (l : List MV) (W : World) : Prop :=
  MLs W base v l ∧ ∀ i x, l[i]? = some x → ∃ B cp, x = DTx n nn A i B cp ∧ nn ≤ cp ∧ base ≤ B ∧ Own B nn (termZ A n i) W
section
variable {base n nn : Nat} {A : Nat → Int} {v v' : Value} {l : List MV} {W W' : World}
theorem DTl.kp (h : DTl base n nn A v l W) (k : Kp W W') : DTl base n nn A v l W' :=
  ⟨h.1.kp k, fun i x hx => let ⟨B, cp, e, h1, h2, cur, h3, h4⟩ := h.2 i x hx; ⟨B, cp, e, h1, h2, cur, Blk.kp h3 k, h4⟩⟩
theorem DTl.own_ge (h : DTl base n nn A v l W) : ∀ g, v.ownBlock = some g → base ≤ g ∧ ∃ cur, Blk g cur 24 W := fun g e => by
  rcases h.1.2 with ⟨e2, _⟩ | ⟨g', cap, cur, rfl, hb, hg, r⟩
  · rw [e2] at e
    cases e
  · cases e
    exact ⟨hb, cur, hg⟩
theorem DTl.mod {b : Nat} (h : DTl base n nn A v l W) (m : Mod b W W') (hv : ∀ g, v.ownBlock = some g → g ≠ b) (ho : ∀ x ∈ l, blkM x ≠ b) : DTl base n nn A v l W' :=
  ⟨h.1.blk fun g cs e _ hb => Blk.keep hb m (hv g e), fun i x hx => by
    obtain ⟨B, cp, rfl, h1, h2, cur, h3, h4⟩ := h.2 i x hx
    exact ⟨B, cp, rfl, h1, h2, cur, Blk.keep h3 m (ho _ (List.mem_of_getElem? hx)), h4⟩⟩
theorem DTl.unit {b : Nat} (h : DTl base n nn A v l W) (m : Mod b W W') (hb : b < base) : DTl base n nn A v l W' :=
  h.mod m (fun g e => by have := (h.own_ge g e).1; omega) (fun x hx => by
    obtain ⟨i, hi⟩ := List.getElem?_of_mem hx
    obtain ⟨B, cp, rfl, h1, h2, h3⟩ := h.2 i x hi
    show B ≠ b
    omega)
theorem DTl.mk {b : Nat} (h : DTl base n nn A v l W) (m : Mk b W W') (hb : b < base) : DTl base n nn A v l W' :=
  ⟨h.1.blk fun g cs e hge hbk => Blk.mk hbk m (by omega), fun i x hx => by
    obtain ⟨B, cp, rfl, h1, h2, cur, h3, h4⟩ := h.2 i x hx
    exact ⟨B, cp, rfl, h1, h2, cur, Blk.mk h3 m (by omega), h4⟩⟩
/-- A block that was not there is apart. -/
theorem DTl.far {b : Nat} (h : DTl base n nn A v l W) (hb : W.heap.size ≤ b) : ∀ x ∈ l, blkM x ≠ b := fun x hx => by
  obtain ⟨i, hi⟩ := List.getElem?_of_mem hx
  obtain ⟨B, cp, rfl, h1, h2, h3⟩ := h.2 i x hi
  obtain ⟨cur, q1, _⟩ := h3
  have := Blk.lt q1
  show B ≠ b
  omega
theorem DTl.app {wa w4 : World} {B cp k : Nat} (h : DTl base n nn A v l wa) (hk : l.length = k) (hB : base ≤ B) (hcp : nn ≤ cp) (ho : Own B nn (termZ A n k) wa)
    (hown : w4.ownsRow base 24 3 v' (k + 1) (flat l ++ (DTx n nn A k B cp).cells.toList)) (hg : wa.grownBy w4 v.ownBlock) : DTl base n nn A v' (l ++ [DTx n nn A k B cp]) w4 := by
  have keep : ∀ b Z, Own b nn Z wa → Own b nn Z w4 := fun b Z ⟨cur, h1, h2⟩ => ⟨cur, Blk.by h1 hg (fun e => by
    obtain ⟨_, cur2, hb⟩ := h.own_ge b e.symm
    exact blk_ne h1 hb (by decide +kernel) rfl), h2⟩
  refine ⟨?_, fun i x hx => ?_⟩
  · unfold MLs
    rw [flat_snoc, List.length_append, hk]
    exact hown
  · rw [List.getElem?_append] at hx
    split at hx
    · obtain ⟨B', cp', e, a1, a2, a3⟩ := h.2 i x hx
      exact ⟨B', cp', e, a1, a2, keep _ _ a3⟩
    · rename_i hi
      have : i = l.length := by
        rcases Nat.lt_or_ge (i - l.length) 1 with h1 | h1
        · omega
        · rw [List.getElem?_eq_none (by simpa using h1)] at hx; cases hx
      subst this
      rw [Nat.sub_self] at hx
      cases hx
      rw [hk]
      exact ⟨B, cp, rfl, hcp, hB, keep _ _ ho⟩
end
theorem MLs.openL {base n : Nat} {v : Value} {l : List MV} {W : World} (h : MLs W base v l) (hl : l.length = n) (hn : 1 ≤ n) : ∃ g c, v = .slice (some ⟨g, 0, none⟩) n c ∧ n ≤ c ∧ base ≤ g ∧ ∀ i x, l[i]? = some x → W.cell? ⟨g, i * 3, none⟩ = some (.int .i64 x.R) ∧ W.cell? ⟨g, i * 3 + 1, none⟩ = some (.int .i64 x.C) ∧ W.cell? ⟨g, i * 3 + 2, none⟩ = some (.slice x.ao x.len x.cap) := by
  obtain ⟨ao, cap, e, hM, hc, _⟩ := h.mats
  rcases h.2 with ⟨e2, e3⟩ | ⟨g', cap', cur, e2, hb, hg, r⟩
  · have : l.length = 0 := by simpa using e3
    omega
  · rw [e2] at e
    cases e
    refine ⟨g', cap, by rw [e2, hl], by omega, hb, fun i x hx => ?_⟩
    obtain ⟨b, o, e, c0, c1, c2⟩ := hM.at (k := i) (List.getElem?_eq_some_iff.1 hx).1
    cases e
    rw [ixM_at hx, Nat.zero_add] at c0 c1 c2
    exact ⟨c0, c1, c2⟩
/-- A list that is built of one matrix. -/
theorem mls_one {w : World} {b base : Nat} (x : MV) (h : Blk b x.cells 24 w) (hb : base ≤ b) : MLs w base (.slice (some ⟨b, 0, none⟩) 1 1) [x] := by
  unfold MLs
  refine ⟨?_, Or.inr ⟨b, 1, x.cells, rfl, hb, h, Nat.le_refl _, by decide, rfl, ?_⟩⟩
  · rw [flat_len]
  · show List.take (1 * 3) x.cells.toList = flat [x]
    simp [flat, MV.cells]

/-- What the document tells of terms. -/
def DTermP (R n nn : Nat) (c : Bool) (n0 : Int) (A : Nat → Int) (k : Nat) (w : World) (e : Ending) (w' : World) : Prop :=
  ∃ (v : Value) (l : List MV), e = .returned (.tuple #[v, .int .i64 0]) ∧ l.length = k + 1 ∧ DTl w.heap.size n nn A v l w' ∧ (∃ m, n0 ≤ m ∧ m ≤ n0 + 100000 ∧ RC R (c || termC A n k) m w') ∧ Mk R w w'
/-- Between two rounds: m terms are told. -/
def DTo (w : World) (R n nn b o cap : Nat) (A : Nat → Int) (c0 : Bool) (n0 : Int) (m : Nat) (v : Value) (wr : World) : Prop :=
  ∃ (l : List MV), l.length = m ∧ DTl (w.heap.size + 1) n nn A v l wr ∧ (∃ q, n0 ≤ q ∧ q ≤ n0 + (m : Int) * 4000 ∧ RC R (c0 || termC A n (m - 1)) q wr) ∧ Mk R w wr ∧ Blk w.heap.size #[.int .i64 n, .int .i64 n, .slice (some ⟨b, o, none⟩) nn cap] 24 wr

theorem two_G {P : Program} {ops : Array Oper} {Q : Exit → Act → World → Prop} {md : Region.Mode} {S : World → Prop} {g i j fuel : Nat} {listed : Array Bool} {a : Act} {w : World} (hr : Region.ready md ops listed = [i, j])
    (hi : ∀ K : Act → World → Prop, (∀ a' w', (i ≠ g → S w') → wpAnyG P md ops (NoPanic Q) S g fuel (listed.setIfInBounds i true) a' w' → K a' w') → wpOp P ops (NoPanic Q) i K a w)
    (hj : ∀ K : Act → World → Prop, (∀ a' w', (j ≠ g → S w') → wpAnyG P md ops (NoPanic Q) S g fuel (listed.setIfInBounds j true) a' w' → K a' w') → wpOp P ops (NoPanic Q) j K a w) : wpAnyG P md ops (NoPanic Q) S g (fuel + 1) listed a w :=
  ⟨fun h0 => by (rw [hr] at h0; cases h0), fun m hm => by
    rw [hr] at hm
    rcases List.mem_cons.1 hm with rfl | hm
    · exact hi _ (fun a' w' h1 h2 => ⟨h1, h2⟩)
    · cases List.mem_singleton.1 hm
      exact hj _ (fun a' w' h1 h2 => ⟨h1, h2⟩)⟩
/-- The m-th product's entries are divided, one by one. -/
def DIn (w : World) (R n nn b o cap : Nat) (A : Nat → Int) (c0 : Bool) (n0 : Int) (q : Nat) (v : Value) (Xb Bx cx j : Nat) (wr : World) : Prop :=
  (∃ l : List MV, l.length = q + 1 ∧ DTl (w.heap.size + 1) n nn A v l wr ∧ (∀ x ∈ l, blkM x ≠ Bx) ∧ (∀ g, v.ownBlock = some g → g ≠ Xb)) ∧ Own Bx nn (mixZ (mulZ (termZ A n q) A n n) (q + 1) j) wr ∧ nn ≤ cx ∧ w.heap.size < Bx ∧ w.heap.size < Xb ∧
    Blk Xb #[.int .i64 n, .int .i64 n, .slice (some ⟨Bx, 0, none⟩) nn cx] 24 wr ∧ Blk w.heap.size #[.int .i64 n, .int .i64 n, .slice (some ⟨b, o, none⟩) nn cap] 24 wr ∧
    (∃ z, n0 ≤ z ∧ z ≤ n0 + ((q + 1 : Nat) : Int) * 4000 + 3500 + 2 * j ∧ RC R (c0 || termC A n q || orC (mulG (termZ A n q) A n n) nn || orC (dvG (mulZ (termZ A n q) A n n) (q + 1)) j) z wr) ∧ Mk R w wr
theorem Own.kpA {B len : Nat} {Z : Nat → Int} {w w' : World} (h : Own B len Z w) (k : Kp w w') : Own B len Z w' := let ⟨cur, h1, h2⟩ := h; ⟨cur, Blk.kp h1 k, h2⟩
theorem Own.ltA {B len : Nat} {Z : Nat → Int} {w : World} (h : Own B len Z w) : B < w.heap.size := let ⟨_, h1, _⟩ := h; Blk.lt h1
theorem DIn.start {w wr wM : World} {R n nn b o cap q Xb Bx cx : Nat} {A : Nat → Int} {c0 : Bool} {n0 cnt : Int} {v : Value} {l : List MV} (hN : (1 ≤ n ∧ n ≤ 12) ∧ nn ≤ 144) (hR : R < w.heap.size)
    (h : l.length = q + 1 ∧ DTl (w.heap.size + 1) n nn A v l wr ∧ n0 ≤ cnt ∧ cnt ≤ n0 + ((q + 1 : Nat) : Int) * 4000 ∧ RC R (c0 || termC A n (q + 1 - 1)) cnt wr ∧ Mk R w wr ∧ Blk w.heap.size #[.int .i64 n, .int .i64 n, .slice (some ⟨b, o, none⟩) nn cap] 24 wr)
    (m : Mk R wr wM) (hX : Blk Xb #[.int .i64 0, .int .i64 0, .slice none 0 0] 24 wM) (hXb : wr.heap.size ≤ Xb) (hBx : wr.heap.size ≤ Bx) (hcx : nn ≤ cx) (ho : Own Bx nn (mulZ (termZ A n q) A n n) wM) (hu : RC R (c0 || termC A n q || orC (mulG (termZ A n q) A n n) nn) (cnt + 2 * (n : Int) * (nn : Int)) wM) :
    DIn w R n nn b o cap A c0 n0 q v Xb Bx cx 0 (((wM.setCell ⟨Xb, 0, none⟩ (.int .i64 n)).setCell ⟨Xb, 1, none⟩ (.int .i64 n)).setCell ⟨Xb, 2, none⟩ (.slice (some ⟨Bx, 0, none⟩) nn cx)) := by
  obtain ⟨h1, h2, h3, h4, h5, h6, h7⟩ := h
  have P := putM hX (.int .i64 n) (.int .i64 n) (.slice (some ⟨Bx, 0, none⟩) nn cx)
  have lw := Blk.lt h7
  have dl := h2.mk m (by omega : R < w.heap.size + 1)
  have vX : ∀ g, v.ownBlock = some g → g ≠ Xb := fun g e => by
    obtain ⟨_, cur, hg⟩ := h2.own_ge g e
    have := Blk.lt hg
    omega
  have fX : ∀ x ∈ l, blkM x ≠ Xb := h2.far hXb
  have bX : Bx ≠ Xb := by
    obtain ⟨cur, o1, _⟩ := ho
    exact blk_ne o1 hX (by decide +kernel)
  have kb : (n : Int) * (nn : Int) ≤ 12 * 144 := Int.mul_le_mul (by omega) (by omega) (by omega) (by omega)
  have kb0 : 0 ≤ (n : Int) * (nn : Int) := Int.mul_nonneg (by omega) (by omega)
  have kq : 2 * (n : Int) * (nn : Int) = 2 * ((n : Int) * (nn : Int)) := Int.mul_assoc _ _ _
  refine ⟨⟨l, h1, dl.mod P.2 vX fX, h2.far hBx, vX⟩, ?_, hcx, by omega, by omega, P.1, Blk.keep (Blk.mk h7 m (by omega)) P.2 (by omega), ⟨cnt + 2 * (n : Int) * (nn : Int), ?_, ?_, ?_⟩, (h6.trans m).new P.2 (by omega)⟩
  · obtain ⟨cur, o1, o2⟩ := ho
    exact ⟨cur, Blk.keep o1 P.2 bX, fun i hi => by rw [o2 i hi]; simp [mixZ]⟩
  · rw [kq]; omega
  · rw [kq]; omega
  · show RC R (_ || false) _ _
    rw [Bool.or_false]
    exact Blk.keep hu P.2 (by omega)
theorem DTo.step {w wr w4 : World} {R n nn b o cap q Bx cx : Nat} {A : Nat → Int} {c0 : Bool} {n0 z : Int} {v v' : Value} {l : List MV} (hnn : n * n = nn) (hn144 : nn ≤ 144) (hR : R < w.heap.size)
    (h : l.length = q + 1 ∧ DTl (w.heap.size + 1) n nn A v l wr) (ho : Own Bx nn (mixZ (mulZ (termZ A n q) A n n) (q + 1) nn) wr) (hcx : nn ≤ cx) (hB : w.heap.size < Bx) (hab : Blk w.heap.size #[.int .i64 n, .int .i64 n, .slice (some ⟨b, o, none⟩) nn cap] 24 wr)
    (hz : n0 ≤ z ∧ z ≤ n0 + ((q + 1 : Nat) : Int) * 4000 + 3500 + 2 * nn ∧ RC R (c0 || termC A n q || orC (mulG (termZ A n q) A n n) nn || orC (dvG (mulZ (termZ A n q) A n n) (q + 1)) nn) z wr) (hm : Mk R w wr)
    (hown : w4.ownsRow (w.heap.size + 1) 24 3 v' (q + 1 + 1) (flat l ++ (DTx n nn A (q + 1) Bx cx).cells.toList)) (hg : (wr.alloc (.cells (DTx n nn A (q + 1) Bx cx).cells 24)).grownBy w4 v.ownBlock) : DTo w R n nn b o cap A c0 n0 (q + 1 + 1) v' w4 := by
  have ga : Grown wr (wr.alloc (.cells (DTx n nn A (q + 1) Bx cx).cells 24)) := (Grown.refl _).alloc _ _
  have own : Own Bx nn (termZ A n (q + 1)) (wr.alloc (.cells (DTx n nn A (q + 1) Bx cx).cells 24)) := by
    obtain ⟨cur, o1, o2⟩ := ho
    exact ⟨cur, Blk.grown o1 ga, fun i hi => by rw [o2 i hi]; simp only [mixZ, if_pos hi]; rfl⟩
  have far : ∀ g, v.ownBlock = some g → w.heap.size + 1 ≤ g := fun g e => (h.2.own_ge g e).1
  refine ⟨l ++ [DTx n nn A (q + 1) Bx cx], by rw [List.length_append, h.1]; rfl, (h.2.kp (Kp.of ga)).app h.1 hB hcx own hown hg, ⟨z, hz.1, by omega, ?_⟩, (hm.trans (Mk.kp (Kp.of ga))).by hg (fun i e => by have := far i e; omega), Blk.by (Blk.grown hab ga) hg (fun e => by have := far _ e.symm; omega)⟩
  show RC R (c0 || (termC A n q || orC (mulG (termZ A n q) A n n) (n * n) || orC (dvG (mulZ (termZ A n q) A n n) (q + 1)) (n * n))) z w4
  rw [hnn, ← Bool.or_assoc, ← Bool.or_assoc]
  exact Blk.by (Blk.grown hz.2.2 ga) hg (fun e => by have := far _ e.symm; omega)
theorem castS (q : Nat) : ((q + 1 : Nat) : Int) = (q : Int) + 1 := by omega
theorem DIn.put {w wr w7 : World} {R n nn b o cap q Xb Bx cx j : Nat} {A : Nat → Int} {c0 wc dc : Bool} {n0 z y : Int} {v : Value} (h : DIn w R n nn b o cap A c0 n0 q v Xb Bx cx j wr) (hR : R < w.heap.size) (m : Mod R wr w7) (h1 : n0 ≤ z) (h2 : z ≤ n0 + ((q + 1 : Nat) : Int) * 4000 + 3500 + 2 * j)
    (u : RC R (c0 || termC A n q || orC (mulG (termZ A n q) A n n) nn || orC (dvG (mulZ (termZ A n q) A n n) (q + 1)) j || wc || dc) (z + 1 + 1) w7) (e2 : orC (dvG (mulZ (termZ A n q) A n n) (q + 1)) (j + 1) = (orC (dvG (mulZ (termZ A n q) A n n) (q + 1)) j || (wc || dc))) (e1 : y = dvZ (mulZ (termZ A n q) A n n) (q + 1) j) (hj : j < nn) :
    DIn w R n nn b o cap A c0 n0 q v Xb Bx cx (j + 1) (w7.setCell ⟨Bx, j, none⟩ (.int .i64 y)) ∧ w7.frozen? ⟨Bx, j, none⟩ = false := by
  obtain ⟨⟨l, a1, a2, a3, a4⟩, a5, a6, a7, a8, a9, a10, _, a12⟩ := h
  have dl := a2.unit m (by omega : R < w.heap.size + 1)
  have s : Mod Bx w7 (w7.setCell ⟨Bx, j, none⟩ (.int .i64 y)) := (Mod.refl _ _).setCell _ _
  have o7 : Own Bx nn (mixZ (mulZ (termZ A n q) A n n) (q + 1) j) w7 := a5.mk (Mk.of m) (by omega)
  obtain ⟨cur, p1, p2⟩ := o7
  have vB : ∀ g, v.ownBlock = some g → g ≠ Bx := fun g e => by
    obtain ⟨_, cur2, hg⟩ := dl.own_ge g e
    exact (blk_ne p1 hg (by decide +kernel)).symm
  have XB : Xb ≠ Bx := (blk_ne p1 (Blk.keep a9 m (by omega)) (by decide +kernel)).symm
  refine ⟨⟨⟨l, a1, dl.mod s vB a3, a3, a4⟩, ?_, a6, a7, a8, Blk.keep (Blk.keep a9 m (by omega)) s XB, Blk.keep (Blk.keep a10 m (by omega)) s (by omega), ⟨z + 1 + 1, by omega, by omega, ?_⟩, (a12.trans (Mk.of m)).new s (by omega)⟩, Blk.free p1 j⟩
  · refine ⟨_, Blk.set p1 j _, fun i hi => ?_⟩
    rw [Array.getElem?_setIfInBounds]
    by_cases e : j = i
    · subst e
      have : j < cur.size := by
        have := p2 j hj
        rcases Nat.lt_or_ge j cur.size with h | h
        · exact h
        · rw [Array.getElem?_eq_none (by omega)] at this; cases this
      simp [this, mixZ, e1]
    · rw [if_neg e, p2 i hi]
      unfold mixZ
      by_cases h3 : i < j
      · rw [if_pos h3, if_pos (by omega)]
      · rw [if_neg h3, if_neg (by omega)]
  · rw [e2, ← Bool.or_assoc, ← Bool.or_assoc]
    exact Blk.keep u s (by omega)
theorem wqA (q : Nat) (h : q ≤ 24) : wrap64 (((q + 1 : Nat) : Int) - 1) = (q : Int) := by unfold wrap64; omega
theorem wqB (q : Nat) (h : q ≤ 24) : IntKind.i64.wrap (((q + 1 : Nat) : Int) - 1) = (q : Int) := by rw [IntKind.wrap_i64]; omega
theorem wqC (q : Nat) (h : q ≤ 24) : IntKind.i64.wrap (q : Int) = (q : Int) := by rw [IntKind.wrap_i64]; omega
theorem wqD (q : Nat) (h : q ≤ 24) : wrap64 (q : Int) = (q : Int) := by unfold wrap64; omega
set_option maxRecDepth 50000 in
set_option maxHeartbeats 8000000 in
theorem pRefTerms_ok (R n nn b o cap k : Nat) (c0 : Bool) (n0 : Int) (hn0 : 0 ≤ n0 ∧ n0 < 1000000000000000000) (A : Nat → Int) (hn : 1 ≤ n ∧ n ≤ 12) (hnn : n * n = nn) (hk : k ≤ 24) (hcap : nn ≤ cap) (hA : ∀ j, j < nn → I64 (A j)) (w : World) (h : RC R c0 n0 w) (za : ∀ j, j < nn → w.cell? ⟨b, o + j, none⟩ = some (.int .i64 (A j))) (hb : b ≠ R) :
    Calls Tryz.prog 10 #[.pointer (some ⟨R, 0, none⟩), .agg #[.int .i64 n, .int .i64 n, .slice (some ⟨b, o, none⟩) nn cap], .int .i64 k] w fun e w' => DTermP R n nn c0 n0 A k w e w' := by
  have SQ := hide (fun w => pRefSquare n n (some ⟨b, o, none⟩) nn cap w)
  rw [← hnn, sqB_yes (sqA_of hn), hnn] at SQ
  have k2 := mul12n n n hn hn
  rw [hnn] at k2
  have lR := Blk.lt h
  have lb : b < w.heap.size := heap_gt (za 0 (by omega))
  have G1 : Hid (Grown w (w.alloc (.cells #[.int .i64 n, .int .i64 n, .slice (some ⟨b, o, none⟩) nn cap] 24)) ∧ Blk w.heap.size #[.int .i64 n, .int .i64 n, .slice (some ⟨b, o, none⟩) nn cap] 24 (w.alloc (.cells #[.int .i64 n, .int .i64 n, .slice (some ⟨b, o, none⟩) nn cap] 24))) := ⟨(Grown.refl _).alloc _ _, Blk.new w _ _⟩
  have EY := hide (fun w => refEye_own n hn w)
  rw [hnn] at EY
  have d24 : decide ((24 : Int) < (k : Int)) = false := decide_eq_false (by omega)
  have d0 : decide ((k : Int) < 0) = false := decide_eq_false (by omega)
  have HH := hide (And.intro h (And.intro lR (And.intro za (And.intro hb lb))))
  have HN := hide (And.intro hn (And.intro hn0 (And.intro k2 (And.intro hcap hk))))
  have HA := hide hA
  have NN := hide hnn
  clear h lR za hb lb hn hn0 k2 hcap hA hnn hk
  go_enter Tryz.func10, Tryz.ntmps10
  go_wp2_with fail
  generalize w.alloc (.cells #[.int .i64 n, .int .i64 n, .slice (some ⟨b, o, none⟩) nn cap] 24) = w1 at *
  refine (unhide SQ _).mono ?_
  rintro e w2 ⟨rfl, g2⟩
  have G2 : Hid (Grown w w2 ∧ Blk w.heap.size #[.int .i64 n, .int .i64 n, .slice (some ⟨b, o, none⟩) nn cap] 24 w2) := ⟨gtrans (unhide G1).1 g2, Blk.grown (unhide G1).2 g2⟩
  obtain ⟨x0, x1, x2⟩ : w2.cell? ⟨w.heap.size, 0, none⟩ = some (.int .i64 n) ∧ w2.cell? ⟨w.heap.size, 1, none⟩ = some (.int .i64 n) ∧ w2.cell? ⟨w.heap.size, 2, none⟩ = some (.slice (some ⟨b, o, none⟩) nn cap) := ⟨Blk.cell (unhide G2).2 0, Blk.cell (unhide G2).2 1, Blk.cell (unhide G2).2 2⟩
  clear g2 G1 SQ
  go_wp2_with fail
  refine (unhide EY _).mono ?_
  rintro e w3 ⟨B, cp, rfl, hcp, hB, own, k3⟩
  clear x0 x1 x2 EY
  have k4 : Kp w3 ((w3.alloc (.cells #[.int .i64 n, .int .i64 n, .slice (some ⟨B, 0, none⟩) nn cp] 24)).alloc (.cells #[.int .i64 n, .int .i64 n, .slice (some ⟨B, 0, none⟩) nn cp] 24)) := Kp.of (((Grown.refl _).alloc _ _).alloc _ _)
  have S0 : Hid (DTo w R n nn b o cap A c0 n0 1 (.slice (some ⟨w3.heap.size + 1, 0, none⟩) 1 1) ((w3.alloc (.cells #[.int .i64 n, .int .i64 n, .slice (some ⟨B, 0, none⟩) nn cp] 24)).alloc (.cells #[.int .i64 n, .int .i64 n, .slice (some ⟨B, 0, none⟩) nn cp] 24))) := by
    obtain ⟨hu, lR, za, hb, lb⟩ := unhide HH
    obtain ⟨g2, b2⟩ := unhide G2
    have kk : Kp w ((w3.alloc (.cells #[.int .i64 n, .int .i64 n, .slice (some ⟨B, 0, none⟩) nn cp] 24)).alloc (.cells #[.int .i64 n, .int .i64 n, .slice (some ⟨B, 0, none⟩) nn cp] 24)) := ((Kp.of g2).trans k3).trans k4
    refine ⟨[DTx n nn A 0 B cp], rfl, ⟨mls_one _ (blk_new2 w3 _ _ _) (by have := k3.2.2.2; have := g2.2.2; omega), fun i x hx => ?_⟩, ⟨n0, by omega, by omega, ?_⟩, Mk.kp kk, Blk.kp (Blk.kp b2 k3) k4⟩
    · rcases i with _ | i
      · cases hx
        obtain ⟨cur, o1, o2⟩ := own
        exact ⟨B, cp, rfl, hcp, by have := Blk.lt b2; omega, cur, Blk.kp o1 k4, o2⟩
      · cases hx
    · show RC R (c0 || false) _ _
      rw [Bool.or_false]
      exact Blk.kp hu kk
  clear hcp hB own k3 k4 G2
  go_wp2_with fail
  go_loopw [10, 11] (fun v i wr => ∃ q : Nat, q ≤ k ∧ i = .int .i64 ((q + 1 : Nat) : Int) ∧ Hid (DTo w R n nn b o cap A c0 n0 (q + 1) v wr)) (fun _ i _ => k + 1 - (intOf i).toNat)
  case atStart => exact ⟨0, Nat.zero_le _, rfl, S0⟩
  case round =>
    obtain ⟨q, hq, rfl, HI⟩ := hrel
    clear S0
    by_cases hlt : q < k
    · obtain ⟨l, hl, hD, ⟨cnt, q1, q2, hu⟩, hm, hab⟩ := unhide HI
      obtain ⟨g, cg, rfl, hcg, hge, hcell⟩ := hD.1.openL hl (by omega)
      obtain ⟨x, hx⟩ : ∃ x, l[q]? = some x := ⟨_, List.getElem?_eq_getElem (by omega)⟩
      obtain ⟨Bq, cq, rfl, hcq, hBq, hoq⟩ := hD.2 q x hx
      obtain ⟨m0, m1, m2⟩ := hcell q _ hx
      have hN := unhide HN
      have hH := unhide HH
      have MU : Hid (∀ wx, Kp wr wx → Calls Tryz.prog 30 #[.pointer (some ⟨R, 0, none⟩), .agg #[.int .i64 n, .int .i64 n, .slice (some ⟨Bq, 0, none⟩) nn cq], .agg #[.int .i64 n, .int .i64 n, .slice (some ⟨b, o, none⟩) nn cap]] wx fun e w' => DocB n n nn (mulZ (termZ A n q) A n n) 0 (fun w' => RC R (c0 || termC A n q || orC (mulG (termZ A n q) A n n) nn) (cnt + 2 * (n : Int) * (nn : Int)) w' ∧ Mk R wx w') wx e w') := by
        intro wx kx
        have ht := termZ_I64 A n q
        rw [unhide NN] at ht
        have hq2 : Own Bq nn (termZ A n q) wx := by
          obtain ⟨cur, o1, o2⟩ := hoq
          exact ⟨cur, Blk.kp o1 kx, o2⟩
        have za2 : ∀ i, i < nn → wx.cell? ⟨b, o + i, none⟩ = some (.int .i64 (A i)) := fun i hi => kx.cell (hm.cell (hH.2.2.1 i hi) hH.2.2.2.1)
        have := refMul_own R (c0 || termC A n q) cnt ⟨by omega, by omega⟩ n n n nn cq nn cap Bq 0 b o (termZ A n q) A hN.1 hN.1 hN.1 (unhide NN).symm (unhide NN).symm hcq ht (unhide HA) wx (Blk.kp hu kx) (fun i hi => by rw [Nat.zero_add]; exact hq2.cellAt i hi) za2 (by omega) hH.2.2.2.1
        rw [unhide NN] at this
        exact this
      obtain ⟨x0, x1, x2⟩ : wr.cell? ⟨w.heap.size, 0, none⟩ = some (.int .i64 n) ∧ wr.cell? ⟨w.heap.size, 1, none⟩ = some (.int .i64 n) ∧ wr.cell? ⟨w.heap.size, 2, none⟩ = some (.slice (some ⟨b, o, none⟩) nn cap) := ⟨Blk.cell hab 0, Blk.cell hab 1, Blk.cell hab 2⟩
      have j0 : (0 : Int) ≤ (q : Int) := Int.natCast_nonneg _
      have j1 : (q : Int) < ((q + 1 : Nat) : Int) := by omega
      have j3 : q < q + 1 := Nat.lt_succ_self q
      have q24 : q ≤ 24 := by omega
      have hRne : wr.heap.size ≠ R := by have := hm.2.2.2; omega
      have hRa : w.heap.size ≠ R := by omega
      have hRg : g ≠ R := by omega
      have j4 : ¬ ((q : Int) + 1 ≤ (q : Int)) := by omega
      have S1 := hide (And.intro hl (And.intro hD (And.intro q1 (And.intro q2 (And.intro hu (And.intro hm hab))))))
      have y0 : wr.cell? ⟨g, q * 3, none⟩ = some (.int .i64 n) := m0
      have y1 : wr.cell? ⟨g, q * 3 + 1, none⟩ = some (.int .i64 n) := m1
      have y2 : wr.cell? ⟨g, q * 3 + 2, none⟩ = some (.slice (some ⟨Bq, 0, none⟩) nn cq) := m2
      have gx0 := heap_gt x0
      have gy0 := heap_gt y0
      clear m0 m1 m2 hcell hcg hge hx hcq hBq hoq hN hH hl hD q1 q2 hu hm hab HI
      have wq := wqA q q24
      have wq2 := wqB q q24
      have wq3 := wqC q q24
      have wq4 := wqD q q24
      go_upto_region 10 with fail
      go_cut [12, 13] (fun s12 s13 wx => s13 = .int .i64 0 ∧ ∃ Xb Bx cx, s12 = .pointer (some ⟨Xb, 0, none⟩) ∧ Hid (DIn w R n nn b o cap A c0 n0 q (.slice (some ⟨g, 0, none⟩) (q + 1) cg) Xb Bx cx 0 wx))
      case first =>
        refine region_G (fun w' => w'.cell? ⟨w.heap.size, 0, none⟩ = some (.int .i64 n) ∧ w'.cell? ⟨w.heap.size, 1, none⟩ = some (.int .i64 n) ∧ w'.cell? ⟨w.heap.size, 2, none⟩ = some (.slice (some ⟨b, o, none⟩) nn cap) ∧ w'.cell? ⟨g, q * 3, none⟩ = some (.int .i64 n) ∧ w'.cell? ⟨g, q * 3 + 1, none⟩ = some (.int .i64 n) ∧ w'.cell? ⟨g, q * 3 + 2, none⟩ = some (.slice (some ⟨Bq, 0, none⟩) nn cq)) 13 (by kernel_rfl) ⟨x0, x1, x2, y0, y1, y2⟩ (fun hHeld => ?_)
        refine take_G (i := 0) (d := 38) (v := .pointer (some ⟨R, 0, none⟩)) rfl rfl (by kernel_rfl) (by kernel_rfl) (by kernel_rfl) (by kernel_rfl) (by kernel_rfl) (Or.inl ⟨by rfl, ?_⟩) hHeld ?_
        · intro wS hSw
          obtain ⟨z0, z1, z2, z3, z4, z5⟩ := hSw
          clear hHeld
          go_simp
        (try simp only [Act.put, List.setIfInBounds_toArray, List.set_cons_zero, List.set_cons_succ])
        refine take_G (i := 1) (d := 39) (v := .slice (some ⟨g, 0, none⟩) (q + 1) cg) rfl rfl (by kernel_rfl) (by kernel_rfl) (by kernel_rfl) (by kernel_rfl) (by kernel_rfl) (Or.inl ⟨by rfl, ?_⟩) hHeld ?_
        · intro wS hSw
          obtain ⟨z0, z1, z2, z3, z4, z5⟩ := hSw
          clear hHeld
          go_simp
        (try simp only [Act.put, List.setIfInBounds_toArray, List.set_cons_zero, List.set_cons_succ])
        refine take_G (i := 2) (d := 40) (v := .int .i64 ((q + 1 : Nat) : Int)) rfl rfl (by kernel_rfl) (by kernel_rfl) (by kernel_rfl) (by kernel_rfl) (by kernel_rfl) (Or.inl ⟨by rfl, ?_⟩) hHeld ?_
        · intro wS hSw
          obtain ⟨z0, z1, z2, z3, z4, z5⟩ := hSw
          clear hHeld
          go_simp
        (try simp only [Act.put, List.setIfInBounds_toArray, List.set_cons_zero, List.set_cons_succ])
        refine take_G (i := 3) (d := 41) (v := .int .i64 (q : Int)) rfl rfl (by kernel_rfl) (by kernel_rfl) (by kernel_rfl) (by kernel_rfl) (by kernel_rfl) (Or.inl ⟨by rfl, ?_⟩) hHeld ?_
        · intro wS hSw
          obtain ⟨z0, z1, z2, z3, z4, z5⟩ := hSw
          clear hHeld
          go_simp
        (try simp only [Act.put, List.setIfInBounds_toArray, List.set_cons_zero, List.set_cons_succ])
        refine take_G (i := 4) (d := 42) (v := .pointer (some ⟨g, q * 3, none⟩)) rfl rfl (by kernel_rfl) (by kernel_rfl) (by kernel_rfl) (by kernel_rfl) (by kernel_rfl) (Or.inl ⟨by rfl, ?_⟩) hHeld ?_
        · intro wS hSw
          obtain ⟨z0, z1, z2, z3, z4, z5⟩ := hSw
          clear hHeld
          go_simp
        (try simp only [Act.put, List.setIfInBounds_toArray, List.set_cons_zero, List.set_cons_succ])
        refine take_G (i := 5) (d := 43) (v := .agg #[.int .i64 n, .int .i64 n, .slice (some ⟨Bq, 0, none⟩) nn cq]) rfl rfl (by kernel_rfl) (by kernel_rfl) (by kernel_rfl) (by kernel_rfl) (by kernel_rfl) (Or.inl ⟨by rfl, ?_⟩) hHeld ?_
        · intro wS hSw
          obtain ⟨z0, z1, z2, z3, z4, z5⟩ := hSw
          clear hHeld
          go_simp
        (try simp only [Act.put, List.setIfInBounds_toArray, List.set_cons_zero, List.set_cons_succ])
        refine take_G (i := 6) (d := 44) (v := .agg #[.int .i64 n, .int .i64 n, .slice (some ⟨b, o, none⟩) nn cap]) rfl rfl (by kernel_rfl) (by kernel_rfl) (by kernel_rfl) (by kernel_rfl) (by kernel_rfl) (Or.inl ⟨by rfl, ?_⟩) hHeld ?_
        · intro wS hSw
          obtain ⟨z0, z1, z2, z3, z4, z5⟩ := hSw
          clear hHeld
          go_simp
        (try simp only [Act.put, List.setIfInBounds_toArray, List.set_cons_zero, List.set_cons_succ])
        refine two_G (i := 7) (j := 11) (by kernel_rfl) (fun K hK => ?_) (fun K hK => ?_)
        · refine wpOp_of rfl rfl ?_
          unfold Oper.wp
          go_simp
          refine (unhide MU _ (show Kp wr wr.drew from Kp.refl _)).mono ?_
          rintro e w5 ⟨Bx, cx, rfl, hcx, hBx, hox, hu5, hm5⟩
          have hHeld : w5.cell? ⟨w.heap.size, 0, none⟩ = some (.int .i64 n) ∧ w5.cell? ⟨w.heap.size, 1, none⟩ = some (.int .i64 n) ∧ w5.cell? ⟨w.heap.size, 2, none⟩ = some (.slice (some ⟨b, o, none⟩) nn cap) ∧ w5.cell? ⟨g, q * 3, none⟩ = some (.int .i64 n) ∧ w5.cell? ⟨g, q * 3 + 1, none⟩ = some (.int .i64 n) ∧ w5.cell? ⟨g, q * 3 + 2, none⟩ = some (.slice (some ⟨Bq, 0, none⟩) nn cq) := ⟨hm5.cell hHeld.1 hRa, hm5.cell hHeld.2.1 hRa, hm5.cell hHeld.2.2.1 hRa, hm5.cell hHeld.2.2.2.1 hRg, hm5.cell hHeld.2.2.2.2.1 hRg, hm5.cell hHeld.2.2.2.2.2 hRg⟩
          refine hK _ _ (fun _ => hHeld) ?_
          clear hK K
          (try simp only [Act.put, List.setIfInBounds_toArray, List.set_cons_zero, List.set_cons_succ])
          refine take_G (i := 8) (d := 37) (v := .tuple #[.agg #[.int .i64 n, .int .i64 n, .slice (some ⟨Bx, 0, none⟩) nn cx], .int .i64 0]) rfl rfl (by kernel_rfl) (by kernel_rfl) (by kernel_rfl) (by kernel_rfl) (by kernel_rfl) (Or.inl ⟨by rfl, ?_⟩) hHeld ?_
          · intro wS hSw
            obtain ⟨z0, z1, z2, z3, z4, z5⟩ := hSw
            clear hHeld
            go_simp
          (try simp only [Act.put, List.setIfInBounds_toArray, List.set_cons_zero, List.set_cons_succ])
          refine take_G (i := 9) (d := 46) (v := .agg #[.int .i64 n, .int .i64 n, .slice (some ⟨Bx, 0, none⟩) nn cx]) rfl rfl (by kernel_rfl) (by kernel_rfl) (by kernel_rfl) (by kernel_rfl) (by kernel_rfl) (Or.inl ⟨by rfl, ?_⟩) hHeld ?_
          · intro wS hSw
            obtain ⟨z0, z1, z2, z3, z4, z5⟩ := hSw
            clear hHeld
            go_simp
          (try simp only [Act.put, List.setIfInBounds_toArray, List.set_cons_zero, List.set_cons_succ])
          refine take_G (i := 10) (d := 47) (v := .int .i64 0) rfl rfl (by kernel_rfl) (by kernel_rfl) (by kernel_rfl) (by kernel_rfl) (by kernel_rfl) (Or.inl ⟨by rfl, ?_⟩) hHeld ?_
          · intro wS hSw
            obtain ⟨z0, z1, z2, z3, z4, z5⟩ := hSw
            clear hHeld
            go_simp
          (try simp only [Act.put, List.setIfInBounds_toArray, List.set_cons_zero, List.set_cons_succ])
          refine step_G (i := 11) (by kernel_rfl) (fun K hK => ?_)
          refine wpOp_of rfl rfl ?_
          unfold Oper.wp
          go_simp
          have hkA : Kp w5 (w5.alloc (.cells #[.int .i64 0, .int .i64 0, .slice none 0 0] 24)) := (Kp.refl _).alloc _ _
          have hHeld : (w5.alloc (.cells #[.int .i64 0, .int .i64 0, .slice none 0 0] 24)).cell? ⟨w.heap.size, 0, none⟩ = some (.int .i64 n) ∧ (w5.alloc (.cells #[.int .i64 0, .int .i64 0, .slice none 0 0] 24)).cell? ⟨w.heap.size, 1, none⟩ = some (.int .i64 n) ∧ (w5.alloc (.cells #[.int .i64 0, .int .i64 0, .slice none 0 0] 24)).cell? ⟨w.heap.size, 2, none⟩ = some (.slice (some ⟨b, o, none⟩) nn cap) ∧ (w5.alloc (.cells #[.int .i64 0, .int .i64 0, .slice none 0 0] 24)).cell? ⟨g, q * 3, none⟩ = some (.int .i64 n) ∧ (w5.alloc (.cells #[.int .i64 0, .int .i64 0, .slice none 0 0] 24)).cell? ⟨g, q * 3 + 1, none⟩ = some (.int .i64 n) ∧ (w5.alloc (.cells #[.int .i64 0, .int .i64 0, .slice none 0 0] 24)).cell? ⟨g, q * 3 + 2, none⟩ = some (.slice (some ⟨Bq, 0, none⟩) nn cq) := ⟨hkA.cell hHeld.1, hkA.cell hHeld.2.1, hkA.cell hHeld.2.2.1, hkA.cell hHeld.2.2.2.1, hkA.cell hHeld.2.2.2.2.1, hkA.cell hHeld.2.2.2.2.2⟩
          refine hK _ _ (fun _ => hHeld) ?_
          clear hK K
          (try simp only [Act.put, List.setIfInBounds_toArray, List.set_cons_zero, List.set_cons_succ])
          have zb : Blk w5.heap.size #[.int .i64 0, .int .i64 0, .slice none 0 0] 24 (w5.alloc (.cells #[.int .i64 0, .int .i64 0, .slice none 0 0] 24)) := Blk.new w5 _ _
          have DN := DIn.start ⟨(unhide HN).1, (unhide HN).2.2.1.2⟩ (unhide HH).2.1 (unhide S1) ((show Mk R wr w5 from hm5).grown ((Grown.refl w5).alloc _ _)) zb (Nat.le_trans hm5.2.2.2 (Nat.le_refl _)) hBx hcx (Own.kpA hox hkA) (Blk.kp hu5 hkA)
          have z0 : (w5.alloc (.cells #[.int .i64 0, .int .i64 0, .slice none 0 0] 24)).cell? ⟨w5.heap.size, 0, none⟩ = some (.int .i64 0) := Blk.cell zb 0
          have z1 : (w5.alloc (.cells #[.int .i64 0, .int .i64 0, .slice none 0 0] 24)).cell? ⟨w5.heap.size, 1, none⟩ = some (.int .i64 0) := Blk.cell zb 1
          have z2 : (w5.alloc (.cells #[.int .i64 0, .int .i64 0, .slice none 0 0] 24)).cell? ⟨w5.heap.size, 2, none⟩ = some (.slice none 0 0) := Blk.cell zb 2
          have zf := Blk.free zb
          have HZ := hide DN
          have HP := hide (putM zb (.int .i64 n) (.int .i64 n) (.slice (some ⟨Bx, 0, none⟩) nn cx)).2
          have hsz : wr.heap.size ≤ w5.heap.size := hm5.2.2.2
          have hXa : w.heap.size ≠ w5.heap.size := Nat.ne_of_lt (Nat.lt_of_lt_of_le gx0 hsz)
          have hXg : g ≠ w5.heap.size := Nat.ne_of_lt (Nat.lt_of_lt_of_le gy0 hsz)
          clear zb DN hcx hBx hox hu5 hm5 hkA hsz
          generalize (w5.alloc (.cells #[.int .i64 0, .int .i64 0, .slice none 0 0] 24)) = w6 at *
          generalize w5.heap.size = Xb at *
          refine step_G (i := 12) (by kernel_rfl) (fun K hK => ?_)
          refine wpOp_of rfl rfl ?_
          unfold Oper.wp
          go_simp
          clear z0 z1 z2 zf
          generalize (((w6.setCell ⟨Xb, 0, none⟩ (.int .i64 n)).setCell ⟨Xb, 1, none⟩ (.int .i64 n)).setCell ⟨Xb, 2, none⟩ (.slice (some ⟨Bx, 0, none⟩) nn cx)) = w7 at *
          have hHeld : w7.cell? ⟨w.heap.size, 0, none⟩ = some (.int .i64 n) ∧ w7.cell? ⟨w.heap.size, 1, none⟩ = some (.int .i64 n) ∧ w7.cell? ⟨w.heap.size, 2, none⟩ = some (.slice (some ⟨b, o, none⟩) nn cap) ∧ w7.cell? ⟨g, q * 3, none⟩ = some (.int .i64 n) ∧ w7.cell? ⟨g, q * 3 + 1, none⟩ = some (.int .i64 n) ∧ w7.cell? ⟨g, q * 3 + 2, none⟩ = some (.slice (some ⟨Bq, 0, none⟩) nn cq) := ⟨(Mk.of (unhide HP)).cell hHeld.1 hXa, (Mk.of (unhide HP)).cell hHeld.2.1 hXa, (Mk.of (unhide HP)).cell hHeld.2.2.1 hXa, (Mk.of (unhide HP)).cell hHeld.2.2.2.1 hXg, (Mk.of (unhide HP)).cell hHeld.2.2.2.2.1 hXg, (Mk.of (unhide HP)).cell hHeld.2.2.2.2.2 hXg⟩
          refine hK _ _ (fun _ => hHeld) ?_
          clear hK K HP
          (try simp only [Act.put, List.setIfInBounds_toArray, List.set_cons_zero, List.set_cons_succ])
          refine step_G (i := 13) (by kernel_rfl) (fun K hK => ?_)
          refine wpOp_of rfl rfl ?_
          unfold Oper.wp
          go_simp
          refine hK _ _ (fun h => absurd rfl h) ?_
          clear hK K
          (try simp only [Act.put, List.setIfInBounds_toArray, List.set_cons_zero, List.set_cons_succ])
          refine done_G (by kernel_rfl) ?_
          refine noPanic_normalE ?_
          go_wp2_with fail
          go_meet
          exact ⟨rfl, Xb, Bx, cx, rfl, HZ⟩
        · refine wpOp_of rfl rfl ?_
          unfold Oper.wp
          go_simp
          have hkA : Kp wr (wr.drew.alloc (.cells #[.int .i64 0, .int .i64 0, .slice none 0 0] 24)) := (show Kp wr wr.drew from Kp.refl _).alloc _ _
          have zb0 : Blk wr.heap.size #[.int .i64 0, .int .i64 0, .slice none 0 0] 24 (wr.drew.alloc (.cells #[.int .i64 0, .int .i64 0, .slice none 0 0] 24)) := Blk.new wr.drew _ _
          have hHeld : (wr.drew.alloc (.cells #[.int .i64 0, .int .i64 0, .slice none 0 0] 24)).cell? ⟨w.heap.size, 0, none⟩ = some (.int .i64 n) ∧ (wr.drew.alloc (.cells #[.int .i64 0, .int .i64 0, .slice none 0 0] 24)).cell? ⟨w.heap.size, 1, none⟩ = some (.int .i64 n) ∧ (wr.drew.alloc (.cells #[.int .i64 0, .int .i64 0, .slice none 0 0] 24)).cell? ⟨w.heap.size, 2, none⟩ = some (.slice (some ⟨b, o, none⟩) nn cap) ∧ (wr.drew.alloc (.cells #[.int .i64 0, .int .i64 0, .slice none 0 0] 24)).cell? ⟨g, q * 3, none⟩ = some (.int .i64 n) ∧ (wr.drew.alloc (.cells #[.int .i64 0, .int .i64 0, .slice none 0 0] 24)).cell? ⟨g, q * 3 + 1, none⟩ = some (.int .i64 n) ∧ (wr.drew.alloc (.cells #[.int .i64 0, .int .i64 0, .slice none 0 0] 24)).cell? ⟨g, q * 3 + 2, none⟩ = some (.slice (some ⟨Bq, 0, none⟩) nn cq) := ⟨hkA.cell hHeld.1, hkA.cell hHeld.2.1, hkA.cell hHeld.2.2.1, hkA.cell hHeld.2.2.2.1, hkA.cell hHeld.2.2.2.2.1, hkA.cell hHeld.2.2.2.2.2⟩
          refine hK _ _ (fun _ => hHeld) ?_
          clear hK K
          (try simp only [Act.put, List.setIfInBounds_toArray, List.set_cons_zero, List.set_cons_succ])
          refine step_G (i := 7) (by kernel_rfl) (fun K hK => ?_)
          refine wpOp_of rfl rfl ?_
          unfold Oper.wp
          go_simp
          refine (unhide MU _ (hkA)).mono ?_
          rintro e w5 ⟨Bx, cx, rfl, hcx, hBx, hox, hu5, hm5⟩
          have hHeld : w5.cell? ⟨w.heap.size, 0, none⟩ = some (.int .i64 n) ∧ w5.cell? ⟨w.heap.size, 1, none⟩ = some (.int .i64 n) ∧ w5.cell? ⟨w.heap.size, 2, none⟩ = some (.slice (some ⟨b, o, none⟩) nn cap) ∧ w5.cell? ⟨g, q * 3, none⟩ = some (.int .i64 n) ∧ w5.cell? ⟨g, q * 3 + 1, none⟩ = some (.int .i64 n) ∧ w5.cell? ⟨g, q * 3 + 2, none⟩ = some (.slice (some ⟨Bq, 0, none⟩) nn cq) := ⟨hm5.cell hHeld.1 hRa, hm5.cell hHeld.2.1 hRa, hm5.cell hHeld.2.2.1 hRa, hm5.cell hHeld.2.2.2.1 hRg, hm5.cell hHeld.2.2.2.2.1 hRg, hm5.cell hHeld.2.2.2.2.2 hRg⟩
          refine hK _ _ (fun _ => hHeld) ?_
          clear hK K
          (try simp only [Act.put, List.setIfInBounds_toArray, List.set_cons_zero, List.set_cons_succ])
          refine take_G (i := 8) (d := 37) (v := .tuple #[.agg #[.int .i64 n, .int .i64 n, .slice (some ⟨Bx, 0, none⟩) nn cx], .int .i64 0]) rfl rfl (by kernel_rfl) (by kernel_rfl) (by kernel_rfl) (by kernel_rfl) (by kernel_rfl) (Or.inl ⟨by rfl, ?_⟩) hHeld ?_
          · intro wS hSw
            obtain ⟨z0, z1, z2, z3, z4, z5⟩ := hSw
            clear hHeld
            go_simp
          (try simp only [Act.put, List.setIfInBounds_toArray, List.set_cons_zero, List.set_cons_succ])
          refine take_G (i := 9) (d := 46) (v := .agg #[.int .i64 n, .int .i64 n, .slice (some ⟨Bx, 0, none⟩) nn cx]) rfl rfl (by kernel_rfl) (by kernel_rfl) (by kernel_rfl) (by kernel_rfl) (by kernel_rfl) (Or.inl ⟨by rfl, ?_⟩) hHeld ?_
          · intro wS hSw
            obtain ⟨z0, z1, z2, z3, z4, z5⟩ := hSw
            clear hHeld
            go_simp
          (try simp only [Act.put, List.setIfInBounds_toArray, List.set_cons_zero, List.set_cons_succ])
          refine take_G (i := 10) (d := 47) (v := .int .i64 0) rfl rfl (by kernel_rfl) (by kernel_rfl) (by kernel_rfl) (by kernel_rfl) (by kernel_rfl) (Or.inl ⟨by rfl, ?_⟩) hHeld ?_
          · intro wS hSw
            obtain ⟨z0, z1, z2, z3, z4, z5⟩ := hSw
            clear hHeld
            go_simp
          (try simp only [Act.put, List.setIfInBounds_toArray, List.set_cons_zero, List.set_cons_succ])
          have zb := Blk.mk zb0 hm5 hRne
          have DN := DIn.start ⟨(unhide HN).1, (unhide HN).2.2.1.2⟩ (unhide HH).2.1 (unhide S1) ((Mk.kp hkA).trans hm5) zb (Nat.le_refl _) (Nat.le_trans hkA.2.2.2 hBx) hcx hox hu5
          have z0 : w5.cell? ⟨wr.heap.size, 0, none⟩ = some (.int .i64 0) := Blk.cell zb 0
          have z1 : w5.cell? ⟨wr.heap.size, 1, none⟩ = some (.int .i64 0) := Blk.cell zb 1
          have z2 : w5.cell? ⟨wr.heap.size, 2, none⟩ = some (.slice none 0 0) := Blk.cell zb 2
          have zf := Blk.free zb
          have HZ := hide DN
          have HP := hide (putM zb (.int .i64 n) (.int .i64 n) (.slice (some ⟨Bx, 0, none⟩) nn cx)).2
          have hXa : w.heap.size ≠ wr.heap.size := Nat.ne_of_lt gx0
          have hXg : g ≠ wr.heap.size := Nat.ne_of_lt gy0
          clear zb zb0 DN hcx hBx hox hu5 hm5 hkA
          generalize hXX : wr.heap.size = Xb at *
          refine step_G (i := 12) (by kernel_rfl) (fun K hK => ?_)
          refine wpOp_of rfl rfl ?_
          unfold Oper.wp
          go_simp
          clear z0 z1 z2 zf
          generalize (((w5.setCell ⟨Xb, 0, none⟩ (.int .i64 n)).setCell ⟨Xb, 1, none⟩ (.int .i64 n)).setCell ⟨Xb, 2, none⟩ (.slice (some ⟨Bx, 0, none⟩) nn cx)) = w7 at *
          have hHeld : w7.cell? ⟨w.heap.size, 0, none⟩ = some (.int .i64 n) ∧ w7.cell? ⟨w.heap.size, 1, none⟩ = some (.int .i64 n) ∧ w7.cell? ⟨w.heap.size, 2, none⟩ = some (.slice (some ⟨b, o, none⟩) nn cap) ∧ w7.cell? ⟨g, q * 3, none⟩ = some (.int .i64 n) ∧ w7.cell? ⟨g, q * 3 + 1, none⟩ = some (.int .i64 n) ∧ w7.cell? ⟨g, q * 3 + 2, none⟩ = some (.slice (some ⟨Bq, 0, none⟩) nn cq) := ⟨(Mk.of (unhide HP)).cell hHeld.1 hXa, (Mk.of (unhide HP)).cell hHeld.2.1 hXa, (Mk.of (unhide HP)).cell hHeld.2.2.1 hXa, (Mk.of (unhide HP)).cell hHeld.2.2.2.1 hXg, (Mk.of (unhide HP)).cell hHeld.2.2.2.2.1 hXg, (Mk.of (unhide HP)).cell hHeld.2.2.2.2.2 hXg⟩
          refine hK _ _ (fun _ => hHeld) ?_
          clear hK K HP
          (try simp only [Act.put, List.setIfInBounds_toArray, List.set_cons_zero, List.set_cons_succ])
          refine step_G (i := 13) (by kernel_rfl) (fun K hK => ?_)
          refine wpOp_of rfl rfl ?_
          unfold Oper.wp
          go_simp
          refine hK _ _ (fun h => absurd rfl h) ?_
          clear hK K
          (try simp only [Act.put, List.setIfInBounds_toArray, List.set_cons_zero, List.set_cons_succ])
          refine done_G (by kernel_rfl) ?_
          refine noPanic_normalE ?_
          go_wp2_with fail
          go_meet
          exact ⟨rfl, Xb, Bx, cx, rfl, HZ⟩
      case rest =>
        obtain ⟨rfl, Xb, Bx, cx, rfl, HD⟩ := hcut
        clear MU y0 y1 y2 gx0 gy0 x0 x1 x2 wq wq2 wq3 wq4 j0 j1 j3 j4 hRne hRa hRg
        go_wp2_with fail
        simp only [castS]
        go_loopw [14] (fun i wr => ∃ j : Nat, j ≤ nn ∧ i = .int .i64 j ∧ Hid (DIn w R n nn b o cap A c0 n0 q (.slice (some ⟨g, 0, none⟩) (q + 1) cg) Xb Bx cx j wr)) (fun i _ => nn - (intOf i).toNat)
        case atStart => exact ⟨0, Nat.zero_le _, rfl, HD⟩
        case round =>
          obtain ⟨j, hj, rfl, HJ⟩ := hrel
          clear HD S1
          have y0 := Blk.cell (unhide HJ).2.2.2.2.2.1 2
          have hjn := (unhide HN).2.2.1
          by_cases hlt2 : j < nn
          · have xk : wr.cell? ⟨Bx, j, none⟩ = some (.int .i64 (mulZ (termZ A n q) A n n j)) := by
              have := (unhide HJ).2.1.cellAt j hlt2
              simpa [mixZ] using this
            have y0 : wr.cell? ⟨Xb, 2, none⟩ = some (.slice (some ⟨Bx, 0, none⟩) nn cx) := y0
            have i0 : (0 : Int) ≤ (j : Int) := Int.natCast_nonneg _
            have i1 : (j : Int) < (nn : Int) := Int.ofNat_lt.2 hlt2
            have j144 : j ≤ 143 := by omega
            obtain ⟨z, zq1, zq2, hz⟩ := (unhide HJ).2.2.2.2.2.2.2.1
            have hN := unhide HN
            have q24' : (q : Int) ≤ 24 := by omega
            have zb : 0 ≤ z ∧ z < 2000000000000000000 := by omega
            have WH := hide (fun C w h => refUWhole R C z ((q : Int) + 1) (by unfold I64; omega) ⟨zb.1, by omega⟩ w h)
            have yI : I64 (mulZ (termZ A n q) A n n j) := mulZ_I64 _ _ _ _ _
            have DV := hide (fun C w h => refUDiv R C (z + 1) (mulZ (termZ A n q) A n n j) (whoN ((q : Int) + 1)) yI (whoN_I64 _) ⟨by omega, by omega⟩ w h)
            have ED : Hid (divN (mulZ (termZ A n q) A n n j) (whoN ((q : Int) + 1)) = dvZ (mulZ (termZ A n q) A n n) (q + 1) j) := by
              show _ = divN _ (whoN ((q + 1 : Nat) : Int))
              rw [castS]
            have EG : Hid (orC (dvG (mulZ (termZ A n q) A n n) (q + 1)) (j + 1) = (orC (dvG (mulZ (termZ A n q) A n n) (q + 1)) j || (whoC ((q : Int) + 1) || divC (mulZ (termZ A n q) A n n j) (whoN ((q : Int) + 1))))) := by
              show (_ || (whoC ((q + 1 : Nat) : Int) || divC _ (whoN ((q + 1 : Nat) : Int)))) = _
              rw [castS]
            have HZ := hide (And.intro zq1 (And.intro zq2 hz))
            have hXR : Xb ≠ R := by have := (unhide HJ).2.2.2.2.1; have := (unhide HH).2.1; omega
            have hBR : Bx ≠ R := by have := (unhide HJ).2.2.2.1; have := (unhide HH).2.1; omega
            generalize whoN ((q : Int) + 1) = wm at *
            generalize whoC ((q : Int) + 1) = wc at *
            generalize hy : mulZ (termZ A n q) A n n j = y at *
            generalize divN y wm = dq at *
            generalize divC y wm = dc at *
            clear hy hN zb zq1 zq2 hz yI hjn q24'
            go_wp2_with fail
            refine region_G (fun w' => w'.cell? ⟨Xb, 2, none⟩ = some (.slice (some ⟨Bx, 0, none⟩) nn cx) ∧ w'.cell? ⟨Bx, j, none⟩ = some (.int .i64 y)) 14 (by kernel_rfl) ⟨y0, xk⟩ (fun hHeld => ?_)
            refine take_G (i := 0) (d := 55) (v := .pointer (some ⟨Xb, 2, none⟩)) rfl rfl (by kernel_rfl) (by kernel_rfl) (by kernel_rfl) (by kernel_rfl) (by kernel_rfl) (Or.inl ⟨by rfl, ?_⟩) hHeld ?_
            · intro wS hSw
              obtain ⟨z0, z1⟩ := hSw
              clear hHeld
              go_simp
            (try simp only [Act.put, List.setIfInBounds_toArray, List.set_cons_zero, List.set_cons_succ])
            refine take_G (i := 1) (d := 56) (v := .slice (some ⟨Bx, 0, none⟩) nn cx) rfl rfl (by kernel_rfl) (by kernel_rfl) (by kernel_rfl) (by kernel_rfl) (by kernel_rfl) (Or.inl ⟨by rfl, ?_⟩) hHeld ?_
            · intro wS hSw
              obtain ⟨z0, z1⟩ := hSw
              clear hHeld
              go_simp
            (try simp only [Act.put, List.setIfInBounds_toArray, List.set_cons_zero, List.set_cons_succ])
            refine take_G (i := 2) (d := 57) (v := .int .i64 (j : Int)) rfl rfl (by kernel_rfl) (by kernel_rfl) (by kernel_rfl) (by kernel_rfl) (by kernel_rfl) (Or.inl ⟨by rfl, ?_⟩) hHeld ?_
            · intro wS hSw
              obtain ⟨z0, z1⟩ := hSw
              clear hHeld
              go_simp
            (try simp only [Act.put, List.setIfInBounds_toArray, List.set_cons_zero, List.set_cons_succ])
            refine take_G (i := 3) (d := 58) (v := .pointer (some ⟨R, 0, none⟩)) rfl rfl (by kernel_rfl) (by kernel_rfl) (by kernel_rfl) (by kernel_rfl) (by kernel_rfl) (Or.inl ⟨by rfl, ?_⟩) hHeld ?_
            · intro wS hSw
              obtain ⟨z0, z1⟩ := hSw
              clear hHeld
              go_simp
            (try simp only [Act.put, List.setIfInBounds_toArray, List.set_cons_zero, List.set_cons_succ])
            refine take_G (i := 4) (d := 59) (v := .pointer (some ⟨Xb, 2, none⟩)) rfl rfl (by kernel_rfl) (by kernel_rfl) (by kernel_rfl) (by kernel_rfl) (by kernel_rfl) (Or.inl ⟨by rfl, ?_⟩) hHeld ?_
            · intro wS hSw
              obtain ⟨z0, z1⟩ := hSw
              clear hHeld
              go_simp
            (try simp only [Act.put, List.setIfInBounds_toArray, List.set_cons_zero, List.set_cons_succ])
            refine take_G (i := 5) (d := 60) (v := .slice (some ⟨Bx, 0, none⟩) nn cx) rfl rfl (by kernel_rfl) (by kernel_rfl) (by kernel_rfl) (by kernel_rfl) (by kernel_rfl) (Or.inl ⟨by rfl, ?_⟩) hHeld ?_
            · intro wS hSw
              obtain ⟨z0, z1⟩ := hSw
              clear hHeld
              go_simp
            (try simp only [Act.put, List.setIfInBounds_toArray, List.set_cons_zero, List.set_cons_succ])
            refine take_G (i := 6) (d := 61) (v := .int .i64 (j : Int)) rfl rfl (by kernel_rfl) (by kernel_rfl) (by kernel_rfl) (by kernel_rfl) (by kernel_rfl) (Or.inl ⟨by rfl, ?_⟩) hHeld ?_
            · intro wS hSw
              obtain ⟨z0, z1⟩ := hSw
              clear hHeld
              go_simp
            (try simp only [Act.put, List.setIfInBounds_toArray, List.set_cons_zero, List.set_cons_succ])
            refine take_G (i := 7) (d := 62) (v := .pointer (some ⟨Bx, j, none⟩)) rfl rfl (by kernel_rfl) (by kernel_rfl) (by kernel_rfl) (by kernel_rfl) (by kernel_rfl) (Or.inl ⟨by rfl, ?_⟩) hHeld ?_
            · intro wS hSw
              obtain ⟨z0, z1⟩ := hSw
              clear hHeld
              go_simp
            (try simp only [Act.put, List.setIfInBounds_toArray, List.set_cons_zero, List.set_cons_succ])
            refine take_G (i := 8) (d := 63) (v := .int .i64 y) rfl rfl (by kernel_rfl) (by kernel_rfl) (by kernel_rfl) (by kernel_rfl) (by kernel_rfl) (Or.inl ⟨by rfl, ?_⟩) hHeld ?_
            · intro wS hSw
              obtain ⟨z0, z1⟩ := hSw
              clear hHeld
              go_simp
            (try simp only [Act.put, List.setIfInBounds_toArray, List.set_cons_zero, List.set_cons_succ])
            refine take_G (i := 9) (d := 64) (v := .pointer (some ⟨R, 0, none⟩)) rfl rfl (by kernel_rfl) (by kernel_rfl) (by kernel_rfl) (by kernel_rfl) (by kernel_rfl) (Or.inl ⟨by rfl, ?_⟩) hHeld ?_
            · intro wS hSw
              obtain ⟨z0, z1⟩ := hSw
              clear hHeld
              go_simp
            (try simp only [Act.put, List.setIfInBounds_toArray, List.set_cons_zero, List.set_cons_succ])
            refine take_G (i := 10) (d := 65) (v := .int .i64 ((q : Int) + 1)) rfl rfl (by kernel_rfl) (by kernel_rfl) (by kernel_rfl) (by kernel_rfl) (by kernel_rfl) (Or.inl ⟨by rfl, ?_⟩) hHeld ?_
            · intro wS hSw
              obtain ⟨z0, z1⟩ := hSw
              clear hHeld
              go_simp
            (try simp only [Act.put, List.setIfInBounds_toArray, List.set_cons_zero, List.set_cons_succ])
            refine step_G (i := 11) (by kernel_rfl) (fun K hK => ?_)
            refine wpOp_of rfl rfl ?_
            unfold Oper.wp
            go_simp
            refine (unhide WH _ _ (show RC R _ z wr.drew from (unhide HZ).2.2)).mono ?_
            rintro e w6 ⟨rfl, u6, m6⟩
            have hHeld : w6.cell? ⟨Xb, 2, none⟩ = some (.slice (some ⟨Bx, 0, none⟩) nn cx) ∧ w6.cell? ⟨Bx, j, none⟩ = some (.int .i64 y) := ⟨(Mk.of m6).cell hHeld.1 hXR, (Mk.of m6).cell hHeld.2 hBR⟩
            have S6 := hide (And.intro u6 m6)
            refine hK _ _ (fun _ => hHeld) ?_
            clear hK K u6 m6
            (try simp only [Act.put, List.setIfInBounds_toArray, List.set_cons_zero, List.set_cons_succ])
            refine step_G (i := 12) (by kernel_rfl) (fun K hK => ?_)
            refine wpOp_of rfl rfl ?_
            unfold Oper.wp
            go_simp
            refine (unhide DV _ _ (unhide S6).1).mono ?_
            rintro e w7 ⟨rfl, u7, m7⟩
            have hHeld : w7.cell? ⟨Xb, 2, none⟩ = some (.slice (some ⟨Bx, 0, none⟩) nn cx) ∧ w7.cell? ⟨Bx, j, none⟩ = some (.int .i64 y) := ⟨(Mk.of m7).cell hHeld.1 hXR, (Mk.of m7).cell hHeld.2 hBR⟩
            have PP := hide (DIn.put (unhide HJ) (unhide HH).2.1 ((show Mod R wr w6 from (unhide S6).2).trans m7) (unhide HZ).1 (unhide HZ).2.1 u7 (unhide EG) (unhide ED) hlt2)
            have f7 : w7.frozen? ⟨Bx, j, none⟩ = false := (unhide PP).2
            have R7 := hide (unhide PP).1
            refine hK _ _ (fun _ => hHeld) ?_
            clear hK K u7 m7 S6 PP
            (try simp only [Act.put, List.setIfInBounds_toArray, List.set_cons_zero, List.set_cons_succ])
            refine take_G (i := 13) (d := 68) (v := .pointer (some ⟨Bx, j, none⟩)) rfl rfl (by kernel_rfl) (by kernel_rfl) (by kernel_rfl) (by kernel_rfl) (by kernel_rfl) (Or.inl ⟨by rfl, ?_⟩) hHeld ?_
            · intro wS hSw
              obtain ⟨z0, z1⟩ := hSw
              clear hHeld
              go_simp
            (try simp only [Act.put, List.setIfInBounds_toArray, List.set_cons_zero, List.set_cons_succ])
            have x7 := hHeld.2
            clear hHeld
            refine step_G (i := 14) (by kernel_rfl) (fun K hK => ?_)
            refine wpOp_of rfl rfl ?_
            unfold Oper.wp
            go_simp
            refine hK _ _ (fun h => absurd rfl h) ?_
            clear hK K
            (try simp only [Act.put, List.setIfInBounds_toArray, List.set_cons_zero, List.set_cons_succ])
            refine done_G (by kernel_rfl) ?_
            refine noPanic_normalE ?_
            clear WH DV ED EG HJ x7 f7 y0 xk
            go_wp2
            go_roundw
            case rel => exact ⟨j + 1, by omega, by go_num, R7⟩
            case measure => simp [intOf]; omega
          · obtain rfl : j = nn := by omega
            obtain ⟨⟨l, a1, a2, _, _⟩, a5, a6, a7, _, a9, a10, ⟨z, z1, z2, z3⟩, a12⟩ := unhide HJ
            have y0 : wr.cell? ⟨Xb, 0, none⟩ = some (.int .i64 n) := Blk.cell a9 0
            have y1 : wr.cell? ⟨Xb, 1, none⟩ = some (.int .i64 n) := Blk.cell a9 1
            have y2 : wr.cell? ⟨Xb, 2, none⟩ = some (.slice (some ⟨Bx, 0, none⟩) j cx) := Blk.cell a9 2
            obtain ⟨i0, hi, hz0, hz1, hz2⟩ := info_parts Tryz.infoMat
            have OW : Hid ((wr.alloc (.cells (DTx n j A (q + 1) Bx cx).cells 24)).ownsRow (w.heap.size + 1) 24 3 (.slice (some ⟨g, 0, none⟩) (q + 1) cg) (q + 1) (flat l)) := by
              have := (a2.1.kp (Kp.of ((Grown.refl wr).alloc (DTx n j A (q + 1) Bx cx).cells 24)))
              unfold MLs at this
              rw [a1] at this
              exact this
            have NW := hide (news_mat (w := wr.alloc (.cells (DTx n j A (q + 1) Bx cx).cells 24)) (x := DTx n j A (q + 1) Bx cx) (Blk.new wr _ _))
            have B1 : Hid (q + 1 + 1 ≤ maxLen) := by show q + 1 + 1 ≤ maxLen; unfold maxLen; omega
            have B2 : Hid ((q + 1 + 1) * 40 ≤ 140737488355328) := by show (q + 1 + 1) * 40 ≤ 140737488355328; omega
            have B3 : Hid (w.heap.size + 1 ≤ (wr.alloc (.cells (DTx n j A (q + 1) Bx cx).cells 24)).heap.size) := by
              have := Blk.lt a10
              show _ ≤ _
              simp
              omega
            have SS := hide (fun v' w4 hown hg => DTo.step (v' := v') (w4 := w4) (unhide NN) hjn.2 (unhide HH).2.1 ⟨a1, a2⟩ a5 a6 a7 a10 ⟨z1, z2, z3⟩ a12 hown hg)
            have B4 : Hid (q + 1 ≤ k) := hlt
            clear a1 a2 a5 a6 a7 a9 a10 z1 z2 z3 a12 HJ
            go_wp2_with (at_builtin; refine wpList_append_own _ rfl _ _ 31 rfl (w.heap.size + 1) 24 i0 (.agg #[.int .i64 0, .int .i64 0, .slice none 0 0]) 3 40 Tryz.underlying31 hi hz0 hz1 hz2 rfl (by decide) (.slice (some ⟨g, 0, none⟩) (q + 1) cg) (q + 1) (flat l) rfl (unhide OW) ⟨wr.heap.size, 0, none⟩ 1 1 (DTx n j A (q + 1) Bx cx).cells.toList rfl rfl (unhide NW) (cells_oneMV _) (unhide B1) (unhide B2) (unhide B3) ?_; intro v' w4 hown hgrow _; have S4 : Hid (DTo w R n j b o cap A c0 n0 (q + 1 + 1) v' w4) := unhide SS v' w4 hown hgrow; clear hown hgrow)
            go_roundw
            case rel => exact ⟨q + 1, unhide B4, by go_num, S4⟩
            case measure => have := unhide B4; simp [intOf]; omega
    · obtain rfl : q = k := by omega
      obtain ⟨l, hl, hD, ⟨cnt, q1, q2, hu⟩, hm, hab⟩ := unhide HI
      have hk24 := (unhide HN).2.2.2.2
      have RR : Hid (DTermP R n nn c0 n0 A q w (.returned (.tuple #[u10, .int .i64 0])) wr) := ⟨u10, l, rfl, hl, ⟨hD.1.mono (by omega), fun i x hx => by
        obtain ⟨B, cp, e, a1, a2, a3⟩ := hD.2 i x hx
        exact ⟨B, cp, e, a1, by omega, a3⟩⟩, ⟨cnt, q1, by omega, hu⟩, hm⟩
      clear hl hD q1 q2 hu hm hab HI
      go_wp2
      go_ret2
      exact unhide RR
end Go.Proofs.YtopaakjildmjcaaGreat

/- The document's Terms: the bad ways. -/
namespace Go.Proofs.YtopaakjildmjcaaGreat
open Go.RowKit Go.Shelf Go.Proofs.Wd
set_option linter.unusedVariables false
set_option linter.unusedSimpArgs false
set_option maxRecDepth 10000

set_option maxHeartbeats 2000000 in
theorem pRefTerms_size (u : Option Addr) (R C k : Int) (ao : Option Addr) (len cap : Nat) (hb : ¬ sqA R C len) (w : World) :
    Calls Tryz.prog 10 #[.pointer u, .agg #[.int .i64 R, .int .i64 C, .slice ao len cap], .int .i64 k] w fun e w' => e = .returned (.tuple #[.slice none 0 0, .int .i64 3]) ∧ Grown w w' := by
  have SQ := hide (fun w => pRefSquare R C ao len cap w)
  rw [sqB_no hb] at SQ
  have G1 : Hid (Grown w (w.alloc (.cells #[.int .i64 R, .int .i64 C, .slice ao len cap] 24))) := (Grown.refl _).alloc _ _
  clear hb
  go_enter Tryz.func10, Tryz.ntmps10
  go_wp2_with fail
  generalize w.alloc (.cells #[.int .i64 R, .int .i64 C, .slice ao len cap] 24) = w1 at *
  refine (unhide SQ _).mono ?_
  rintro e w2 ⟨rfl, g2⟩
  have GG := hide (gtrans (unhide G1) g2)
  clear G1 g2 SQ
  go_wp2
  go_ret2
  exact ⟨rfl, unhide GG⟩
set_option maxHeartbeats 2000000 in
theorem pRefTerms_arg (u : Option Addr) (R C k : Int) (ao : Option Addr) (len cap : Nat) (hb : sqA R C len) (hk : k < 0 ∨ 24 < k) (w : World) :
    Calls Tryz.prog 10 #[.pointer u, .agg #[.int .i64 R, .int .i64 C, .slice ao len cap], .int .i64 k] w fun e w' => e = .returned (.tuple #[.slice none 0 0, .int .i64 2]) ∧ Grown w w' := by
  have SQ := hide (fun w => pRefSquare R C ao len cap w)
  rw [sqB_yes hb] at SQ
  have G1 : Hid (Grown w (w.alloc (.cells #[.int .i64 R, .int .i64 C, .slice ao len cap] 24))) := (Grown.refl _).alloc _ _
  clear hb
  by_cases h0 : k < 0
  · have d0 : decide (k < 0) = true := decide_eq_true h0
    clear hk h0
    go_enter Tryz.func10, Tryz.ntmps10
    go_wp2_with fail
    generalize w.alloc (.cells #[.int .i64 R, .int .i64 C, .slice ao len cap] 24) = w1 at *
    refine (unhide SQ _).mono ?_
    rintro e w2 ⟨rfl, g2⟩
    have GG := hide (gtrans (unhide G1) g2)
    clear G1 g2 SQ
    go_wp2
    go_ret2
    exact ⟨rfl, unhide GG⟩
  · have d0 : decide (k < 0) = false := decide_eq_false h0
    have d24 : decide (24 < k) = true := decide_eq_true (by omega)
    clear hk h0
    go_enter Tryz.func10, Tryz.ntmps10
    go_wp2_with fail
    generalize w.alloc (.cells #[.int .i64 R, .int .i64 C, .slice ao len cap] 24) = w1 at *
    refine (unhide SQ _).mono ?_
    rintro e w2 ⟨rfl, g2⟩
    have GG := hide (gtrans (unhide G1) g2)
    clear G1 g2 SQ
    go_wp2
    go_ret2
    exact ⟨rfl, unhide GG⟩

end Go.Proofs.YtopaakjildmjcaaGreat

/- The document's fine: are these a polynomial? -/
namespace Go.Proofs.YtopaakjildmjcaaGreat
open Go.RowKit Go.Shelf Go.Proofs.Wd
set_option linter.unusedVariables false
set_option linter.unusedSimpArgs false
set_option maxRecDepth 10000

theorem take_slotP {P : Program} {ops : Array Oper} {Q : Exit → Act → World → Prop} {md : Region.Mode} {S : World → Prop} {i d : Nat} {oi : Oper} {v : Value} {fuel : Nat} {listed : Array Bool} {a : Act} {w : World} (hi : ops[i]? = some oi) (hd : oi.dst = some d)
    (hs : Region.noSelect ops = true) (hf : Region.free md ops listed i = true) (hr : (Region.ready md ops listed).contains i = true)
    (hQ : ∀ c a w, Q (.panic c) (a.put (some d) v) w → Q (.panic c) a w) (hy : YieldsIf P ops S oi v a) (hS : S w)
    (h : wpAnyH P md ops Q S fuel (listed.setIfInBounds i true) (a.put (some d) v) w) : wpAnyH P md ops Q S (fuel + 1) listed a w :=
  wpAnyH_take hi hs hf hr (by rw [hd]; exact hQ) hy hS (by rw [hd]; exact h)

set_option maxRecDepth 50000 in
set_option maxHeartbeats 16000000 in
theorem pRefFine (ao0 : Option Addr) (n cap : Nat) (X : Nat → MV) (hl : n ≤ 9223372036854775807) (w : World) (hm : Mats w ao0 n X) :
    Calls Tryz.prog 39 #[.slice ao0 n cap] w fun e w' => e = .returned (.bool (okPB n X)) ∧ Grown w w' := by
  have HM := hide hm
  clear hm
  by_cases h0 : n = 0
  · subst h0
    have GE := hide (okPB_no (n := 0) (X := X) (fun h => by have := h.1.1; omega))
    go_enter Tryz.func39, Tryz.ntmps39
    go_wp2
    go_ret
    exact ⟨by rw [unhide GE]; rfl, Grown.refl _⟩
  have d0 : ((n : Int) == 0) = false := by simp; omega
  by_cases h25 : 25 < n
  · have d25 : decide ((25 : Int) < (n : Int)) = true := decide_eq_true (by omega)
    have GE := hide (okPB_no (n := n) (X := X) (fun h => by have := h.1.2; omega))
    clear h0 h25
    go_enter Tryz.func39, Tryz.ntmps39
    go_wp2
    go_ret
    exact ⟨by rw [unhide GE]; rfl, Grown.refl _⟩
  have d25 : decide ((25 : Int) < (n : Int)) = false := decide_eq_false (by omega)
  have HN : Hid (1 ≤ n ∧ n ≤ 25) := ⟨by omega, by omega⟩
  obtain ⟨b, o, rfl, hc⟩ := (unhide HM).resolve_left h0
  have HC := hide hc
  clear h0 h25 hl hc
  go_enter Tryz.func39, Tryz.ntmps39
  go_wp2_with fail
  clear d0 d25
  go_loopw [3] (fun i wr => ∃ k : Nat, k ≤ n ∧ i = .int .i64 k ∧ Hid (Grown w wr ∧ ∀ i, i < k → likeM (X i).R (X i).C (X i).len (X 0).R (X 0).C)) (fun i _ => n - (intOf i).toNat)
  case atStart => exact ⟨0, Nat.zero_le _, rfl, Grown.refl _, fun i hi => absurd hi (Nat.not_lt_zero _)⟩
  case round =>
    obtain ⟨k, hk, rfl, HI⟩ := hrel
    by_cases hlt : k < n
    · have i0 : (0 : Int) ≤ (k : Int) := Int.natCast_nonneg _
      have n25 := (unhide HN).2
      have i1 : (k : Int) < (n : Int) := Int.ofNat_lt.2 hlt
      have i2 : (0 : Int) < (n : Int) := by omega
      have HH : Hid ((fun w' => w'.cell? ⟨b, o + k * 3, none⟩ = some (.int .i64 (X k).R) ∧ w'.cell? ⟨b, o + k * 3 + 1, none⟩ = some (.int .i64 (X k).C) ∧ w'.cell? ⟨b, o + k * 3 + 2, none⟩ = some (.slice (X k).ao (X k).len (X k).cap) ∧ w'.cell? ⟨b, o, none⟩ = some (.int .i64 (X 0).R) ∧ w'.cell? ⟨b, o + 1, none⟩ = some (.int .i64 (X 0).C)) wr.drew) := by
        have c := fun i hi j hj => gat (v := (X i).cells[j]'(show j < 3 from hj)) (unhide HI).1 ((unhide HC i hi j hj).trans (Array.getElem?_eq_getElem _))
        have n1 := (unhide HN).1
        have q0 := c 0 (by omega) 0 (by omega)
        have q1 := c 0 (by omega) 1 (by omega)
        rw [Nat.zero_mul, Nat.add_zero] at q0 q1
        exact ⟨c k hlt 0 (by omega), c k hlt 1 (by omega), c k hlt 2 (by omega), q0, q1⟩
      have CK := hide (fun w => refMCheck (X k).R (X k).C (X k).ao (X k).len (X k).cap w)
      have LK : Hid (likeM (X k).R (X k).C (X k).len (X 0).R (X 0).C ↔ (okM (X k).R (X k).C (X k).len ∧ (X k).R = (X 0).R ∧ (X k).C = (X 0).C)) := Iff.rfl
      have YN : Hid (∀ p : Prop, p → (p ↔ likeM (X k).R (X k).C (X k).len (X 0).R (X 0).C) → likeM (X k).R (X k).C (X k).len (X 0).R (X 0).C) := fun p h k => k.1 h
      obtain ⟨lk, hlk⟩ : ∃ p : Prop, p = likeM (X k).R (X k).C (X k).len (X 0).R (X 0).C := ⟨_, rfl⟩
      rw [← hlk] at LK
      have TOL : Hid (lk → likeM (X k).R (X k).C (X k).len (X 0).R (X 0).C) := fun h => hlk ▸ h
      have TOK : Hid (likeM (X k).R (X k).C (X k).len (X 0).R (X 0).C → lk) := fun h => hlk ▸ h
      clear hlk YN
      generalize (X k).R = R at HH CK LK
      generalize (X k).C = C at HH CK LK
      generalize (X k).ao = ao at HH CK LK
      generalize (X k).len = len at HH CK LK
      generalize (X k).cap = lc at HH CK LK
      generalize hr0 : (X 0).R = R0 at HH CK LK ⊢
      generalize hc0 : (X 0).C = C0 at HH CK LK ⊢
      have ER := hide (And.intro hr0 hc0)
      clear hr0 hc0
      by_cases hb : okM R C len
      · rw [chk_ok hb] at CK
        by_cases hR : R = R0
        · have e2 : (R != R0) = false := by simpa using hR
          by_cases hC : C = C0
          · have e3 : (C != C0) = false := by simpa using hC
            have YES : Hid (likeM (X k).R (X k).C (X k).len (X 0).R (X 0).C) := unhide TOL ((unhide LK).2 ⟨hb, hR, hC⟩)
            clear hb hR hC LK TOL TOK
            go_wp2_with fail
            refine wp_region_noPanic ?_
            refine wp_region_held_drew (S := fun w' => w'.cell? ⟨b, o + k * 3, none⟩ = some (.int .i64 R) ∧ w'.cell? ⟨b, o + k * 3 + 1, none⟩ = some (.int .i64 C) ∧ w'.cell? ⟨b, o + k * 3 + 2, none⟩ = some (.slice ao len lc) ∧ w'.cell? ⟨b, o, none⟩ = some (.int .i64 R0) ∧ w'.cell? ⟨b, o + 1, none⟩ = some (.int .i64 C0)) (by kernel_rfl) (unhide HH) (fun hHeld => ?_)
            refine take_slotP (i := 0) (d := 18) (v := .slice (some ⟨b, o, none⟩) n cap) rfl rfl (by kernel_rfl) (by kernel_rfl) (by kernel_rfl) (fun _ _ _ h => h) (Or.inl ⟨by rfl, ?_⟩) hHeld ?_
            · intro wS hSw
              obtain ⟨z0, z1, z2, z3, z4⟩ := hSw
              clear hHeld
              go_simp
              (try (intro hz; omega))
            (try simp only [Act.put, List.setIfInBounds_toArray, List.set_cons_zero, List.set_cons_succ])
            refine take_slotP (i := 1) (d := 19) (v := .int .i64 (k : Int)) rfl rfl (by kernel_rfl) (by kernel_rfl) (by kernel_rfl) (fun _ _ _ h => h) (Or.inl ⟨by rfl, ?_⟩) hHeld ?_
            · intro wS hSw
              obtain ⟨z0, z1, z2, z3, z4⟩ := hSw
              clear hHeld
              go_simp
              (try (intro hz; omega))
            (try simp only [Act.put, List.setIfInBounds_toArray, List.set_cons_zero, List.set_cons_succ])
            refine take_slotP (i := 2) (d := 20) (v := .pointer (some ⟨b, o + k * 3, none⟩)) rfl rfl (by kernel_rfl) (by kernel_rfl) (by kernel_rfl) (fun _ _ _ h => h) (Or.inl ⟨by rfl, ?_⟩) hHeld ?_
            · intro wS hSw
              obtain ⟨z0, z1, z2, z3, z4⟩ := hSw
              clear hHeld
              go_simp
              (try (intro hz; omega))
            (try simp only [Act.put, List.setIfInBounds_toArray, List.set_cons_zero, List.set_cons_succ])
            refine take_slotP (i := 3) (d := 21) (v := .agg #[.int .i64 R, .int .i64 C, .slice ao len lc]) rfl rfl (by kernel_rfl) (by kernel_rfl) (by kernel_rfl) (fun _ _ _ h => h) (Or.inl ⟨by rfl, ?_⟩) hHeld ?_
            · intro wS hSw
              obtain ⟨z0, z1, z2, z3, z4⟩ := hSw
              clear hHeld
              go_simp
              (try (intro hz; omega))
            (try simp only [Act.put, List.setIfInBounds_toArray, List.set_cons_zero, List.set_cons_succ])
            refine wpAnyH_ready (rs := [4]) (by kernel_rfl) (by simp) ?_
            refine AllReadyH.cons rfl (fun K hK => ?_) AllReadyH.nil
            go_simp
            refine (unhide CK _).mono ?_
            rintro e w3 ⟨rfl, g3⟩
            have hHeld : (fun w' => w'.cell? ⟨b, o + k * 3, none⟩ = some (.int .i64 R) ∧ w'.cell? ⟨b, o + k * 3 + 1, none⟩ = some (.int .i64 C) ∧ w'.cell? ⟨b, o + k * 3 + 2, none⟩ = some (.slice ao len lc) ∧ w'.cell? ⟨b, o, none⟩ = some (.int .i64 R0) ∧ w'.cell? ⟨b, o + 1, none⟩ = some (.int .i64 C0)) w3 := ⟨gat g3 hHeld.1, gat g3 hHeld.2.1, gat g3 hHeld.2.2.1, gat g3 hHeld.2.2.2.1, gat g3 hHeld.2.2.2.2⟩
            have GG : Hid (Grown w w3) := gtrans (show Grown w wr.drew from (unhide HI).1) g3
            clear g3
            refine hK.out _ _ hHeld (fun hHeld => ?_)
            clear hK K
            (try simp only [Act.put, List.setIfInBounds_toArray, List.set_cons_zero, List.set_cons_succ])
            refine take_slotP (i := 5) (d := 23) (v := .bool false) rfl rfl (by kernel_rfl) (by kernel_rfl) (by kernel_rfl) (fun _ _ _ h => h) (Or.inl ⟨by rfl, ?_⟩) hHeld ?_
            · intro wS hSw
              obtain ⟨z0, z1, z2, z3, z4⟩ := hSw
              clear hHeld
              go_simp
              (try (intro hz; omega))
            (try simp only [Act.put, List.setIfInBounds_toArray, List.set_cons_zero, List.set_cons_succ])
            refine take_slotP (i := 6) (d := 24) (v := .bool false) rfl rfl (by kernel_rfl) (by kernel_rfl) (by kernel_rfl) (fun _ _ _ h => h) (Or.inl ⟨by rfl, ?_⟩) hHeld ?_
            · intro wS hSw
              obtain ⟨z0, z1, z2, z3, z4⟩ := hSw
              clear hHeld
              go_simp
              (try (intro hz; omega))
            (try simp only [Act.put, List.setIfInBounds_toArray, List.set_cons_zero, List.set_cons_succ])
            refine take_slotP (i := 7) (d := 25) (v := .slice (some ⟨b, o, none⟩) n cap) rfl rfl (by kernel_rfl) (by kernel_rfl) (by kernel_rfl) (fun _ _ _ h => h) (Or.inl ⟨by rfl, ?_⟩) hHeld ?_
            · intro wS hSw
              obtain ⟨z0, z1, z2, z3, z4⟩ := hSw
              clear hHeld
              go_simp
              (try (intro hz; omega))
            (try simp only [Act.put, List.setIfInBounds_toArray, List.set_cons_zero, List.set_cons_succ])
            refine take_slotP (i := 8) (d := 26) (v := .int .i64 (k : Int)) rfl rfl (by kernel_rfl) (by kernel_rfl) (by kernel_rfl) (fun _ _ _ h => h) (Or.inl ⟨by rfl, ?_⟩) hHeld ?_
            · intro wS hSw
              obtain ⟨z0, z1, z2, z3, z4⟩ := hSw
              clear hHeld
              go_simp
              (try (intro hz; omega))
            (try simp only [Act.put, List.setIfInBounds_toArray, List.set_cons_zero, List.set_cons_succ])
            refine take_slotP (i := 9) (d := 27) (v := .pointer (some ⟨b, o + k * 3, none⟩)) rfl rfl (by kernel_rfl) (by kernel_rfl) (by kernel_rfl) (fun _ _ _ h => h) (Or.inl ⟨by rfl, ?_⟩) hHeld ?_
            · intro wS hSw
              obtain ⟨z0, z1, z2, z3, z4⟩ := hSw
              clear hHeld
              go_simp
              (try (intro hz; omega))
            (try simp only [Act.put, List.setIfInBounds_toArray, List.set_cons_zero, List.set_cons_succ])
            refine take_slotP (i := 10) (d := 28) (v := .pointer (some ⟨b, o + k * 3, none⟩)) rfl rfl (by kernel_rfl) (by kernel_rfl) (by kernel_rfl) (fun _ _ _ h => h) (Or.inl ⟨by rfl, ?_⟩) hHeld ?_
            · intro wS hSw
              obtain ⟨z0, z1, z2, z3, z4⟩ := hSw
              clear hHeld
              go_simp
              (try (intro hz; omega))
            (try simp only [Act.put, List.setIfInBounds_toArray, List.set_cons_zero, List.set_cons_succ])
            refine take_slotP (i := 11) (d := 29) (v := .int .i64 R) rfl rfl (by kernel_rfl) (by kernel_rfl) (by kernel_rfl) (fun _ _ _ h => h) (Or.inl ⟨by rfl, ?_⟩) hHeld ?_
            · intro wS hSw
              obtain ⟨z0, z1, z2, z3, z4⟩ := hSw
              clear hHeld
              go_simp
              (try (intro hz; omega))
            (try simp only [Act.put, List.setIfInBounds_toArray, List.set_cons_zero, List.set_cons_succ])
            refine take_slotP (i := 12) (d := 30) (v := .slice (some ⟨b, o, none⟩) n cap) rfl rfl (by kernel_rfl) (by kernel_rfl) (by kernel_rfl) (fun _ _ _ h => h) (Or.inl ⟨by rfl, ?_⟩) hHeld ?_
            · intro wS hSw
              obtain ⟨z0, z1, z2, z3, z4⟩ := hSw
              clear hHeld
              go_simp
              (try (intro hz; omega))
            (try simp only [Act.put, List.setIfInBounds_toArray, List.set_cons_zero, List.set_cons_succ])
            refine take_slotP (i := 13) (d := 31) (v := .pointer (some ⟨b, o, none⟩)) rfl rfl (by kernel_rfl) (by kernel_rfl) (by kernel_rfl) (fun _ _ _ h => h) (Or.inl ⟨by rfl, ?_⟩) hHeld ?_
            · intro wS hSw
              obtain ⟨z0, z1, z2, z3, z4⟩ := hSw
              clear hHeld
              go_simp
              (try (intro hz; omega))
            (try simp only [Act.put, List.setIfInBounds_toArray, List.set_cons_zero, List.set_cons_succ])
            refine take_slotP (i := 14) (d := 32) (v := .pointer (some ⟨b, o, none⟩)) rfl rfl (by kernel_rfl) (by kernel_rfl) (by kernel_rfl) (fun _ _ _ h => h) (Or.inl ⟨by rfl, ?_⟩) hHeld ?_
            · intro wS hSw
              obtain ⟨z0, z1, z2, z3, z4⟩ := hSw
              clear hHeld
              go_simp
              (try (intro hz; omega))
            (try simp only [Act.put, List.setIfInBounds_toArray, List.set_cons_zero, List.set_cons_succ])
            refine take_slotP (i := 15) (d := 33) (v := .int .i64 R0) rfl rfl (by kernel_rfl) (by kernel_rfl) (by kernel_rfl) (fun _ _ _ h => h) (Or.inl ⟨by rfl, ?_⟩) hHeld ?_
            · intro wS hSw
              obtain ⟨z0, z1, z2, z3, z4⟩ := hSw
              clear hHeld
              go_simp
              (try (intro hz; omega))
            (try simp only [Act.put, List.setIfInBounds_toArray, List.set_cons_zero, List.set_cons_succ])
            refine take_slotP (i := 16) (d := 34) (v := .bool false) rfl rfl (by kernel_rfl) (by kernel_rfl) (by kernel_rfl) (fun _ _ _ h => h) (Or.inl ⟨by rfl, ?_⟩) hHeld ?_
            · intro wS hSw
              obtain ⟨z0, z1, z2, z3, z4⟩ := hSw
              clear hHeld
              go_simp
              (try (intro hz; omega))
            (try simp only [Act.put, List.setIfInBounds_toArray, List.set_cons_zero, List.set_cons_succ])
            refine take_slotP (i := 17) (d := 35) (v := .bool false) rfl rfl (by kernel_rfl) (by kernel_rfl) (by kernel_rfl) (fun _ _ _ h => h) (Or.inl ⟨by rfl, ?_⟩) hHeld ?_
            · intro wS hSw
              obtain ⟨z0, z1, z2, z3, z4⟩ := hSw
              clear hHeld
              go_simp
              (try (intro hz; omega))
            (try simp only [Act.put, List.setIfInBounds_toArray, List.set_cons_zero, List.set_cons_succ])
            refine take_slotP (i := 18) (d := 36) (v := .bool false) rfl rfl (by kernel_rfl) (by kernel_rfl) (by kernel_rfl) (fun _ _ _ h => h) (Or.inl ⟨by rfl, ?_⟩) hHeld ?_
            · intro wS hSw
              obtain ⟨z0, z1, z2, z3, z4⟩ := hSw
              clear hHeld
              go_simp
              (try (intro hz; omega))
            (try simp only [Act.put, List.setIfInBounds_toArray, List.set_cons_zero, List.set_cons_succ])
            refine take_slotP (i := 19) (d := 37) (v := .slice (some ⟨b, o, none⟩) n cap) rfl rfl (by kernel_rfl) (by kernel_rfl) (by kernel_rfl) (fun _ _ _ h => h) (Or.inl ⟨by rfl, ?_⟩) hHeld ?_
            · intro wS hSw
              obtain ⟨z0, z1, z2, z3, z4⟩ := hSw
              clear hHeld
              go_simp
              (try (intro hz; omega))
            (try simp only [Act.put, List.setIfInBounds_toArray, List.set_cons_zero, List.set_cons_succ])
            refine take_slotP (i := 20) (d := 38) (v := .int .i64 (k : Int)) rfl rfl (by kernel_rfl) (by kernel_rfl) (by kernel_rfl) (fun _ _ _ h => h) (Or.inl ⟨by rfl, ?_⟩) hHeld ?_
            · intro wS hSw
              obtain ⟨z0, z1, z2, z3, z4⟩ := hSw
              clear hHeld
              go_simp
              (try (intro hz; omega))
            (try simp only [Act.put, List.setIfInBounds_toArray, List.set_cons_zero, List.set_cons_succ])
            refine take_slotP (i := 21) (d := 39) (v := .pointer (some ⟨b, o + k * 3, none⟩)) rfl rfl (by kernel_rfl) (by kernel_rfl) (by kernel_rfl) (fun _ _ _ h => h) (Or.inl ⟨by rfl, ?_⟩) hHeld ?_
            · intro wS hSw
              obtain ⟨z0, z1, z2, z3, z4⟩ := hSw
              clear hHeld
              go_simp
              (try (intro hz; omega))
            (try simp only [Act.put, List.setIfInBounds_toArray, List.set_cons_zero, List.set_cons_succ])
            refine take_slotP (i := 22) (d := 40) (v := .pointer (some ⟨b, o + k * 3 + 1, none⟩)) rfl rfl (by kernel_rfl) (by kernel_rfl) (by kernel_rfl) (fun _ _ _ h => h) (Or.inl ⟨by rfl, ?_⟩) hHeld ?_
            · intro wS hSw
              obtain ⟨z0, z1, z2, z3, z4⟩ := hSw
              clear hHeld
              go_simp
              (try (intro hz; omega))
            (try simp only [Act.put, List.setIfInBounds_toArray, List.set_cons_zero, List.set_cons_succ])
            refine take_slotP (i := 23) (d := 41) (v := .int .i64 C) rfl rfl (by kernel_rfl) (by kernel_rfl) (by kernel_rfl) (fun _ _ _ h => h) (Or.inl ⟨by rfl, ?_⟩) hHeld ?_
            · intro wS hSw
              obtain ⟨z0, z1, z2, z3, z4⟩ := hSw
              clear hHeld
              go_simp
              (try (intro hz; omega))
            (try simp only [Act.put, List.setIfInBounds_toArray, List.set_cons_zero, List.set_cons_succ])
            refine take_slotP (i := 24) (d := 42) (v := .slice (some ⟨b, o, none⟩) n cap) rfl rfl (by kernel_rfl) (by kernel_rfl) (by kernel_rfl) (fun _ _ _ h => h) (Or.inl ⟨by rfl, ?_⟩) hHeld ?_
            · intro wS hSw
              obtain ⟨z0, z1, z2, z3, z4⟩ := hSw
              clear hHeld
              go_simp
              (try (intro hz; omega))
            (try simp only [Act.put, List.setIfInBounds_toArray, List.set_cons_zero, List.set_cons_succ])
            refine take_slotP (i := 25) (d := 43) (v := .pointer (some ⟨b, o, none⟩)) rfl rfl (by kernel_rfl) (by kernel_rfl) (by kernel_rfl) (fun _ _ _ h => h) (Or.inl ⟨by rfl, ?_⟩) hHeld ?_
            · intro wS hSw
              obtain ⟨z0, z1, z2, z3, z4⟩ := hSw
              clear hHeld
              go_simp
              (try (intro hz; omega))
            (try simp only [Act.put, List.setIfInBounds_toArray, List.set_cons_zero, List.set_cons_succ])
            refine take_slotP (i := 26) (d := 44) (v := .pointer (some ⟨b, o + 1, none⟩)) rfl rfl (by kernel_rfl) (by kernel_rfl) (by kernel_rfl) (fun _ _ _ h => h) (Or.inl ⟨by rfl, ?_⟩) hHeld ?_
            · intro wS hSw
              obtain ⟨z0, z1, z2, z3, z4⟩ := hSw
              clear hHeld
              go_simp
              (try (intro hz; omega))
            (try simp only [Act.put, List.setIfInBounds_toArray, List.set_cons_zero, List.set_cons_succ])
            refine take_slotP (i := 27) (d := 45) (v := .int .i64 C0) rfl rfl (by kernel_rfl) (by kernel_rfl) (by kernel_rfl) (fun _ _ _ h => h) (Or.inl ⟨by rfl, ?_⟩) hHeld ?_
            · intro wS hSw
              obtain ⟨z0, z1, z2, z3, z4⟩ := hSw
              clear hHeld
              go_simp
              (try (intro hz; omega))
            (try simp only [Act.put, List.setIfInBounds_toArray, List.set_cons_zero, List.set_cons_succ])
            refine take_slotP (i := 28) (d := 46) (v := .bool false) rfl rfl (by kernel_rfl) (by kernel_rfl) (by kernel_rfl) (fun _ _ _ h => h) (Or.inl ⟨by rfl, ?_⟩) hHeld ?_
            · intro wS hSw
              obtain ⟨z0, z1, z2, z3, z4⟩ := hSw
              clear hHeld
              go_simp
              (try (intro hz; omega))
            (try simp only [Act.put, List.setIfInBounds_toArray, List.set_cons_zero, List.set_cons_succ])
            refine take_slotP (i := 29) (d := 47) (v := .bool false) rfl rfl (by kernel_rfl) (by kernel_rfl) (by kernel_rfl) (fun _ _ _ h => h) (Or.inl ⟨by rfl, ?_⟩) hHeld ?_
            · intro wS hSw
              obtain ⟨z0, z1, z2, z3, z4⟩ := hSw
              clear hHeld
              go_simp
              (try (intro hz; omega))
            (try simp only [Act.put, List.setIfInBounds_toArray, List.set_cons_zero, List.set_cons_succ])
            clear hHeld
            refine wpAnyH_done (by kernel_rfl) (NoPanic.normal ?_) _
            clear CK
            have RR : Hid (Grown w w3 ∧ ∀ i, i < k + 1 → likeM (X i).R (X i).C (X i).len R0 C0) := by
              rw [← (unhide ER).1, ← (unhide ER).2]
              exact ⟨unhide GG, fun i hi => by
                by_cases e : i = k
                · subst e; exact unhide YES
                · exact (unhide HI).2 i (by omega)⟩
            clear HI
            go_wp2
            go_roundw
            case rel => exact ⟨k + 1, by omega, by go_num, RR⟩
            case measure => simp [intOf]; omega
          · have e3 : (C != C0) = true := by simpa using hC
            have NO : Hid (¬ likeM (X k).R (X k).C (X k).len (X 0).R (X 0).C) := fun h => hC ((unhide LK).1 (unhide TOK h)).2.2
            clear hb hR hC LK TOL TOK
            go_wp2_with fail
            refine wp_region_noPanic ?_
            refine wp_region_held_drew (S := fun w' => w'.cell? ⟨b, o + k * 3, none⟩ = some (.int .i64 R) ∧ w'.cell? ⟨b, o + k * 3 + 1, none⟩ = some (.int .i64 C) ∧ w'.cell? ⟨b, o + k * 3 + 2, none⟩ = some (.slice ao len lc) ∧ w'.cell? ⟨b, o, none⟩ = some (.int .i64 R0) ∧ w'.cell? ⟨b, o + 1, none⟩ = some (.int .i64 C0)) (by kernel_rfl) (unhide HH) (fun hHeld => ?_)
            refine take_slotP (i := 0) (d := 18) (v := .slice (some ⟨b, o, none⟩) n cap) rfl rfl (by kernel_rfl) (by kernel_rfl) (by kernel_rfl) (fun _ _ _ h => h) (Or.inl ⟨by rfl, ?_⟩) hHeld ?_
            · intro wS hSw
              obtain ⟨z0, z1, z2, z3, z4⟩ := hSw
              clear hHeld
              go_simp
              (try (intro hz; omega))
            (try simp only [Act.put, List.setIfInBounds_toArray, List.set_cons_zero, List.set_cons_succ])
            refine take_slotP (i := 1) (d := 19) (v := .int .i64 (k : Int)) rfl rfl (by kernel_rfl) (by kernel_rfl) (by kernel_rfl) (fun _ _ _ h => h) (Or.inl ⟨by rfl, ?_⟩) hHeld ?_
            · intro wS hSw
              obtain ⟨z0, z1, z2, z3, z4⟩ := hSw
              clear hHeld
              go_simp
              (try (intro hz; omega))
            (try simp only [Act.put, List.setIfInBounds_toArray, List.set_cons_zero, List.set_cons_succ])
            refine take_slotP (i := 2) (d := 20) (v := .pointer (some ⟨b, o + k * 3, none⟩)) rfl rfl (by kernel_rfl) (by kernel_rfl) (by kernel_rfl) (fun _ _ _ h => h) (Or.inl ⟨by rfl, ?_⟩) hHeld ?_
            · intro wS hSw
              obtain ⟨z0, z1, z2, z3, z4⟩ := hSw
              clear hHeld
              go_simp
              (try (intro hz; omega))
            (try simp only [Act.put, List.setIfInBounds_toArray, List.set_cons_zero, List.set_cons_succ])
            refine take_slotP (i := 3) (d := 21) (v := .agg #[.int .i64 R, .int .i64 C, .slice ao len lc]) rfl rfl (by kernel_rfl) (by kernel_rfl) (by kernel_rfl) (fun _ _ _ h => h) (Or.inl ⟨by rfl, ?_⟩) hHeld ?_
            · intro wS hSw
              obtain ⟨z0, z1, z2, z3, z4⟩ := hSw
              clear hHeld
              go_simp
              (try (intro hz; omega))
            (try simp only [Act.put, List.setIfInBounds_toArray, List.set_cons_zero, List.set_cons_succ])
            refine wpAnyH_ready (rs := [4]) (by kernel_rfl) (by simp) ?_
            refine AllReadyH.cons rfl (fun K hK => ?_) AllReadyH.nil
            go_simp
            refine (unhide CK _).mono ?_
            rintro e w3 ⟨rfl, g3⟩
            have hHeld : (fun w' => w'.cell? ⟨b, o + k * 3, none⟩ = some (.int .i64 R) ∧ w'.cell? ⟨b, o + k * 3 + 1, none⟩ = some (.int .i64 C) ∧ w'.cell? ⟨b, o + k * 3 + 2, none⟩ = some (.slice ao len lc) ∧ w'.cell? ⟨b, o, none⟩ = some (.int .i64 R0) ∧ w'.cell? ⟨b, o + 1, none⟩ = some (.int .i64 C0)) w3 := ⟨gat g3 hHeld.1, gat g3 hHeld.2.1, gat g3 hHeld.2.2.1, gat g3 hHeld.2.2.2.1, gat g3 hHeld.2.2.2.2⟩
            have GG : Hid (Grown w w3) := gtrans (show Grown w wr.drew from (unhide HI).1) g3
            clear g3
            refine hK.out _ _ hHeld (fun hHeld => ?_)
            clear hK K
            (try simp only [Act.put, List.setIfInBounds_toArray, List.set_cons_zero, List.set_cons_succ])
            refine take_slotP (i := 5) (d := 23) (v := .bool false) rfl rfl (by kernel_rfl) (by kernel_rfl) (by kernel_rfl) (fun _ _ _ h => h) (Or.inl ⟨by rfl, ?_⟩) hHeld ?_
            · intro wS hSw
              obtain ⟨z0, z1, z2, z3, z4⟩ := hSw
              clear hHeld
              go_simp
              (try (intro hz; omega))
            (try simp only [Act.put, List.setIfInBounds_toArray, List.set_cons_zero, List.set_cons_succ])
            refine take_slotP (i := 6) (d := 24) (v := .bool false) rfl rfl (by kernel_rfl) (by kernel_rfl) (by kernel_rfl) (fun _ _ _ h => h) (Or.inl ⟨by rfl, ?_⟩) hHeld ?_
            · intro wS hSw
              obtain ⟨z0, z1, z2, z3, z4⟩ := hSw
              clear hHeld
              go_simp
              (try (intro hz; omega))
            (try simp only [Act.put, List.setIfInBounds_toArray, List.set_cons_zero, List.set_cons_succ])
            refine take_slotP (i := 7) (d := 25) (v := .slice (some ⟨b, o, none⟩) n cap) rfl rfl (by kernel_rfl) (by kernel_rfl) (by kernel_rfl) (fun _ _ _ h => h) (Or.inl ⟨by rfl, ?_⟩) hHeld ?_
            · intro wS hSw
              obtain ⟨z0, z1, z2, z3, z4⟩ := hSw
              clear hHeld
              go_simp
              (try (intro hz; omega))
            (try simp only [Act.put, List.setIfInBounds_toArray, List.set_cons_zero, List.set_cons_succ])
            refine take_slotP (i := 8) (d := 26) (v := .int .i64 (k : Int)) rfl rfl (by kernel_rfl) (by kernel_rfl) (by kernel_rfl) (fun _ _ _ h => h) (Or.inl ⟨by rfl, ?_⟩) hHeld ?_
            · intro wS hSw
              obtain ⟨z0, z1, z2, z3, z4⟩ := hSw
              clear hHeld
              go_simp
              (try (intro hz; omega))
            (try simp only [Act.put, List.setIfInBounds_toArray, List.set_cons_zero, List.set_cons_succ])
            refine take_slotP (i := 9) (d := 27) (v := .pointer (some ⟨b, o + k * 3, none⟩)) rfl rfl (by kernel_rfl) (by kernel_rfl) (by kernel_rfl) (fun _ _ _ h => h) (Or.inl ⟨by rfl, ?_⟩) hHeld ?_
            · intro wS hSw
              obtain ⟨z0, z1, z2, z3, z4⟩ := hSw
              clear hHeld
              go_simp
              (try (intro hz; omega))
            (try simp only [Act.put, List.setIfInBounds_toArray, List.set_cons_zero, List.set_cons_succ])
            refine take_slotP (i := 10) (d := 28) (v := .pointer (some ⟨b, o + k * 3, none⟩)) rfl rfl (by kernel_rfl) (by kernel_rfl) (by kernel_rfl) (fun _ _ _ h => h) (Or.inl ⟨by rfl, ?_⟩) hHeld ?_
            · intro wS hSw
              obtain ⟨z0, z1, z2, z3, z4⟩ := hSw
              clear hHeld
              go_simp
              (try (intro hz; omega))
            (try simp only [Act.put, List.setIfInBounds_toArray, List.set_cons_zero, List.set_cons_succ])
            refine take_slotP (i := 11) (d := 29) (v := .int .i64 R) rfl rfl (by kernel_rfl) (by kernel_rfl) (by kernel_rfl) (fun _ _ _ h => h) (Or.inl ⟨by rfl, ?_⟩) hHeld ?_
            · intro wS hSw
              obtain ⟨z0, z1, z2, z3, z4⟩ := hSw
              clear hHeld
              go_simp
              (try (intro hz; omega))
            (try simp only [Act.put, List.setIfInBounds_toArray, List.set_cons_zero, List.set_cons_succ])
            refine take_slotP (i := 12) (d := 30) (v := .slice (some ⟨b, o, none⟩) n cap) rfl rfl (by kernel_rfl) (by kernel_rfl) (by kernel_rfl) (fun _ _ _ h => h) (Or.inl ⟨by rfl, ?_⟩) hHeld ?_
            · intro wS hSw
              obtain ⟨z0, z1, z2, z3, z4⟩ := hSw
              clear hHeld
              go_simp
              (try (intro hz; omega))
            (try simp only [Act.put, List.setIfInBounds_toArray, List.set_cons_zero, List.set_cons_succ])
            refine take_slotP (i := 13) (d := 31) (v := .pointer (some ⟨b, o, none⟩)) rfl rfl (by kernel_rfl) (by kernel_rfl) (by kernel_rfl) (fun _ _ _ h => h) (Or.inl ⟨by rfl, ?_⟩) hHeld ?_
            · intro wS hSw
              obtain ⟨z0, z1, z2, z3, z4⟩ := hSw
              clear hHeld
              go_simp
              (try (intro hz; omega))
            (try simp only [Act.put, List.setIfInBounds_toArray, List.set_cons_zero, List.set_cons_succ])
            refine take_slotP (i := 14) (d := 32) (v := .pointer (some ⟨b, o, none⟩)) rfl rfl (by kernel_rfl) (by kernel_rfl) (by kernel_rfl) (fun _ _ _ h => h) (Or.inl ⟨by rfl, ?_⟩) hHeld ?_
            · intro wS hSw
              obtain ⟨z0, z1, z2, z3, z4⟩ := hSw
              clear hHeld
              go_simp
              (try (intro hz; omega))
            (try simp only [Act.put, List.setIfInBounds_toArray, List.set_cons_zero, List.set_cons_succ])
            refine take_slotP (i := 15) (d := 33) (v := .int .i64 R0) rfl rfl (by kernel_rfl) (by kernel_rfl) (by kernel_rfl) (fun _ _ _ h => h) (Or.inl ⟨by rfl, ?_⟩) hHeld ?_
            · intro wS hSw
              obtain ⟨z0, z1, z2, z3, z4⟩ := hSw
              clear hHeld
              go_simp
              (try (intro hz; omega))
            (try simp only [Act.put, List.setIfInBounds_toArray, List.set_cons_zero, List.set_cons_succ])
            refine take_slotP (i := 16) (d := 34) (v := .bool false) rfl rfl (by kernel_rfl) (by kernel_rfl) (by kernel_rfl) (fun _ _ _ h => h) (Or.inl ⟨by rfl, ?_⟩) hHeld ?_
            · intro wS hSw
              obtain ⟨z0, z1, z2, z3, z4⟩ := hSw
              clear hHeld
              go_simp
              (try (intro hz; omega))
            (try simp only [Act.put, List.setIfInBounds_toArray, List.set_cons_zero, List.set_cons_succ])
            refine take_slotP (i := 17) (d := 35) (v := .bool false) rfl rfl (by kernel_rfl) (by kernel_rfl) (by kernel_rfl) (fun _ _ _ h => h) (Or.inl ⟨by rfl, ?_⟩) hHeld ?_
            · intro wS hSw
              obtain ⟨z0, z1, z2, z3, z4⟩ := hSw
              clear hHeld
              go_simp
              (try (intro hz; omega))
            (try simp only [Act.put, List.setIfInBounds_toArray, List.set_cons_zero, List.set_cons_succ])
            refine take_slotP (i := 18) (d := 36) (v := .bool false) rfl rfl (by kernel_rfl) (by kernel_rfl) (by kernel_rfl) (fun _ _ _ h => h) (Or.inl ⟨by rfl, ?_⟩) hHeld ?_
            · intro wS hSw
              obtain ⟨z0, z1, z2, z3, z4⟩ := hSw
              clear hHeld
              go_simp
              (try (intro hz; omega))
            (try simp only [Act.put, List.setIfInBounds_toArray, List.set_cons_zero, List.set_cons_succ])
            refine take_slotP (i := 19) (d := 37) (v := .slice (some ⟨b, o, none⟩) n cap) rfl rfl (by kernel_rfl) (by kernel_rfl) (by kernel_rfl) (fun _ _ _ h => h) (Or.inl ⟨by rfl, ?_⟩) hHeld ?_
            · intro wS hSw
              obtain ⟨z0, z1, z2, z3, z4⟩ := hSw
              clear hHeld
              go_simp
              (try (intro hz; omega))
            (try simp only [Act.put, List.setIfInBounds_toArray, List.set_cons_zero, List.set_cons_succ])
            refine take_slotP (i := 20) (d := 38) (v := .int .i64 (k : Int)) rfl rfl (by kernel_rfl) (by kernel_rfl) (by kernel_rfl) (fun _ _ _ h => h) (Or.inl ⟨by rfl, ?_⟩) hHeld ?_
            · intro wS hSw
              obtain ⟨z0, z1, z2, z3, z4⟩ := hSw
              clear hHeld
              go_simp
              (try (intro hz; omega))
            (try simp only [Act.put, List.setIfInBounds_toArray, List.set_cons_zero, List.set_cons_succ])
            refine take_slotP (i := 21) (d := 39) (v := .pointer (some ⟨b, o + k * 3, none⟩)) rfl rfl (by kernel_rfl) (by kernel_rfl) (by kernel_rfl) (fun _ _ _ h => h) (Or.inl ⟨by rfl, ?_⟩) hHeld ?_
            · intro wS hSw
              obtain ⟨z0, z1, z2, z3, z4⟩ := hSw
              clear hHeld
              go_simp
              (try (intro hz; omega))
            (try simp only [Act.put, List.setIfInBounds_toArray, List.set_cons_zero, List.set_cons_succ])
            refine take_slotP (i := 22) (d := 40) (v := .pointer (some ⟨b, o + k * 3 + 1, none⟩)) rfl rfl (by kernel_rfl) (by kernel_rfl) (by kernel_rfl) (fun _ _ _ h => h) (Or.inl ⟨by rfl, ?_⟩) hHeld ?_
            · intro wS hSw
              obtain ⟨z0, z1, z2, z3, z4⟩ := hSw
              clear hHeld
              go_simp
              (try (intro hz; omega))
            (try simp only [Act.put, List.setIfInBounds_toArray, List.set_cons_zero, List.set_cons_succ])
            refine take_slotP (i := 23) (d := 41) (v := .int .i64 C) rfl rfl (by kernel_rfl) (by kernel_rfl) (by kernel_rfl) (fun _ _ _ h => h) (Or.inl ⟨by rfl, ?_⟩) hHeld ?_
            · intro wS hSw
              obtain ⟨z0, z1, z2, z3, z4⟩ := hSw
              clear hHeld
              go_simp
              (try (intro hz; omega))
            (try simp only [Act.put, List.setIfInBounds_toArray, List.set_cons_zero, List.set_cons_succ])
            refine take_slotP (i := 24) (d := 42) (v := .slice (some ⟨b, o, none⟩) n cap) rfl rfl (by kernel_rfl) (by kernel_rfl) (by kernel_rfl) (fun _ _ _ h => h) (Or.inl ⟨by rfl, ?_⟩) hHeld ?_
            · intro wS hSw
              obtain ⟨z0, z1, z2, z3, z4⟩ := hSw
              clear hHeld
              go_simp
              (try (intro hz; omega))
            (try simp only [Act.put, List.setIfInBounds_toArray, List.set_cons_zero, List.set_cons_succ])
            refine take_slotP (i := 25) (d := 43) (v := .pointer (some ⟨b, o, none⟩)) rfl rfl (by kernel_rfl) (by kernel_rfl) (by kernel_rfl) (fun _ _ _ h => h) (Or.inl ⟨by rfl, ?_⟩) hHeld ?_
            · intro wS hSw
              obtain ⟨z0, z1, z2, z3, z4⟩ := hSw
              clear hHeld
              go_simp
              (try (intro hz; omega))
            (try simp only [Act.put, List.setIfInBounds_toArray, List.set_cons_zero, List.set_cons_succ])
            refine take_slotP (i := 26) (d := 44) (v := .pointer (some ⟨b, o + 1, none⟩)) rfl rfl (by kernel_rfl) (by kernel_rfl) (by kernel_rfl) (fun _ _ _ h => h) (Or.inl ⟨by rfl, ?_⟩) hHeld ?_
            · intro wS hSw
              obtain ⟨z0, z1, z2, z3, z4⟩ := hSw
              clear hHeld
              go_simp
              (try (intro hz; omega))
            (try simp only [Act.put, List.setIfInBounds_toArray, List.set_cons_zero, List.set_cons_succ])
            refine take_slotP (i := 27) (d := 45) (v := .int .i64 C0) rfl rfl (by kernel_rfl) (by kernel_rfl) (by kernel_rfl) (fun _ _ _ h => h) (Or.inl ⟨by rfl, ?_⟩) hHeld ?_
            · intro wS hSw
              obtain ⟨z0, z1, z2, z3, z4⟩ := hSw
              clear hHeld
              go_simp
              (try (intro hz; omega))
            (try simp only [Act.put, List.setIfInBounds_toArray, List.set_cons_zero, List.set_cons_succ])
            refine take_slotP (i := 28) (d := 46) (v := .bool true) rfl rfl (by kernel_rfl) (by kernel_rfl) (by kernel_rfl) (fun _ _ _ h => h) (Or.inl ⟨by rfl, ?_⟩) hHeld ?_
            · intro wS hSw
              obtain ⟨z0, z1, z2, z3, z4⟩ := hSw
              clear hHeld
              go_simp
              (try (intro hz; omega))
            (try simp only [Act.put, List.setIfInBounds_toArray, List.set_cons_zero, List.set_cons_succ])
            refine take_slotP (i := 29) (d := 47) (v := .bool true) rfl rfl (by kernel_rfl) (by kernel_rfl) (by kernel_rfl) (fun _ _ _ h => h) (Or.inl ⟨by rfl, ?_⟩) hHeld ?_
            · intro wS hSw
              obtain ⟨z0, z1, z2, z3, z4⟩ := hSw
              clear hHeld
              go_simp
              (try (intro hz; omega))
            (try simp only [Act.put, List.setIfInBounds_toArray, List.set_cons_zero, List.set_cons_succ])
            clear hHeld
            refine wpAnyH_done (by kernel_rfl) (NoPanic.normal ?_) _
            clear CK
            have GE := hide (okPB_no (X := X) (fun h => unhide NO (h.2 k hlt)))
            go_wp2
            go_ret
            exact ⟨by rw [unhide GE]; rfl, unhide GG⟩
        · have e2 : (R != R0) = true := by simpa using hR
          have NO : Hid (¬ likeM (X k).R (X k).C (X k).len (X 0).R (X 0).C) := fun h => hR ((unhide LK).1 (unhide TOK h)).2.1
          clear hb hR LK TOL TOK
          go_wp2_with fail
          refine wp_region_noPanic ?_
          refine wp_region_held_drew (S := fun w' => w'.cell? ⟨b, o + k * 3, none⟩ = some (.int .i64 R) ∧ w'.cell? ⟨b, o + k * 3 + 1, none⟩ = some (.int .i64 C) ∧ w'.cell? ⟨b, o + k * 3 + 2, none⟩ = some (.slice ao len lc) ∧ w'.cell? ⟨b, o, none⟩ = some (.int .i64 R0) ∧ w'.cell? ⟨b, o + 1, none⟩ = some (.int .i64 C0)) (by kernel_rfl) (unhide HH) (fun hHeld => ?_)
          refine take_slotP (i := 0) (d := 18) (v := .slice (some ⟨b, o, none⟩) n cap) rfl rfl (by kernel_rfl) (by kernel_rfl) (by kernel_rfl) (fun _ _ _ h => h) (Or.inl ⟨by rfl, ?_⟩) hHeld ?_
          · intro wS hSw
            obtain ⟨z0, z1, z2, z3, z4⟩ := hSw
            clear hHeld
            go_simp
            (try (intro hz; omega))
          (try simp only [Act.put, List.setIfInBounds_toArray, List.set_cons_zero, List.set_cons_succ])
          refine take_slotP (i := 1) (d := 19) (v := .int .i64 (k : Int)) rfl rfl (by kernel_rfl) (by kernel_rfl) (by kernel_rfl) (fun _ _ _ h => h) (Or.inl ⟨by rfl, ?_⟩) hHeld ?_
          · intro wS hSw
            obtain ⟨z0, z1, z2, z3, z4⟩ := hSw
            clear hHeld
            go_simp
            (try (intro hz; omega))
          (try simp only [Act.put, List.setIfInBounds_toArray, List.set_cons_zero, List.set_cons_succ])
          refine take_slotP (i := 2) (d := 20) (v := .pointer (some ⟨b, o + k * 3, none⟩)) rfl rfl (by kernel_rfl) (by kernel_rfl) (by kernel_rfl) (fun _ _ _ h => h) (Or.inl ⟨by rfl, ?_⟩) hHeld ?_
          · intro wS hSw
            obtain ⟨z0, z1, z2, z3, z4⟩ := hSw
            clear hHeld
            go_simp
            (try (intro hz; omega))
          (try simp only [Act.put, List.setIfInBounds_toArray, List.set_cons_zero, List.set_cons_succ])
          refine take_slotP (i := 3) (d := 21) (v := .agg #[.int .i64 R, .int .i64 C, .slice ao len lc]) rfl rfl (by kernel_rfl) (by kernel_rfl) (by kernel_rfl) (fun _ _ _ h => h) (Or.inl ⟨by rfl, ?_⟩) hHeld ?_
          · intro wS hSw
            obtain ⟨z0, z1, z2, z3, z4⟩ := hSw
            clear hHeld
            go_simp
            (try (intro hz; omega))
          (try simp only [Act.put, List.setIfInBounds_toArray, List.set_cons_zero, List.set_cons_succ])
          refine wpAnyH_ready (rs := [4]) (by kernel_rfl) (by simp) ?_
          refine AllReadyH.cons rfl (fun K hK => ?_) AllReadyH.nil
          go_simp
          refine (unhide CK _).mono ?_
          rintro e w3 ⟨rfl, g3⟩
          have hHeld : (fun w' => w'.cell? ⟨b, o + k * 3, none⟩ = some (.int .i64 R) ∧ w'.cell? ⟨b, o + k * 3 + 1, none⟩ = some (.int .i64 C) ∧ w'.cell? ⟨b, o + k * 3 + 2, none⟩ = some (.slice ao len lc) ∧ w'.cell? ⟨b, o, none⟩ = some (.int .i64 R0) ∧ w'.cell? ⟨b, o + 1, none⟩ = some (.int .i64 C0)) w3 := ⟨gat g3 hHeld.1, gat g3 hHeld.2.1, gat g3 hHeld.2.2.1, gat g3 hHeld.2.2.2.1, gat g3 hHeld.2.2.2.2⟩
          have GG : Hid (Grown w w3) := gtrans (show Grown w wr.drew from (unhide HI).1) g3
          clear g3
          refine hK.out _ _ hHeld (fun hHeld => ?_)
          clear hK K
          (try simp only [Act.put, List.setIfInBounds_toArray, List.set_cons_zero, List.set_cons_succ])
          refine take_slotP (i := 5) (d := 23) (v := .bool false) rfl rfl (by kernel_rfl) (by kernel_rfl) (by kernel_rfl) (fun _ _ _ h => h) (Or.inl ⟨by rfl, ?_⟩) hHeld ?_
          · intro wS hSw
            obtain ⟨z0, z1, z2, z3, z4⟩ := hSw
            clear hHeld
            go_simp
            (try (intro hz; omega))
          (try simp only [Act.put, List.setIfInBounds_toArray, List.set_cons_zero, List.set_cons_succ])
          refine take_slotP (i := 6) (d := 24) (v := .bool false) rfl rfl (by kernel_rfl) (by kernel_rfl) (by kernel_rfl) (fun _ _ _ h => h) (Or.inl ⟨by rfl, ?_⟩) hHeld ?_
          · intro wS hSw
            obtain ⟨z0, z1, z2, z3, z4⟩ := hSw
            clear hHeld
            go_simp
            (try (intro hz; omega))
          (try simp only [Act.put, List.setIfInBounds_toArray, List.set_cons_zero, List.set_cons_succ])
          refine take_slotP (i := 7) (d := 25) (v := .slice (some ⟨b, o, none⟩) n cap) rfl rfl (by kernel_rfl) (by kernel_rfl) (by kernel_rfl) (fun _ _ _ h => h) (Or.inl ⟨by rfl, ?_⟩) hHeld ?_
          · intro wS hSw
            obtain ⟨z0, z1, z2, z3, z4⟩ := hSw
            clear hHeld
            go_simp
            (try (intro hz; omega))
          (try simp only [Act.put, List.setIfInBounds_toArray, List.set_cons_zero, List.set_cons_succ])
          refine take_slotP (i := 8) (d := 26) (v := .int .i64 (k : Int)) rfl rfl (by kernel_rfl) (by kernel_rfl) (by kernel_rfl) (fun _ _ _ h => h) (Or.inl ⟨by rfl, ?_⟩) hHeld ?_
          · intro wS hSw
            obtain ⟨z0, z1, z2, z3, z4⟩ := hSw
            clear hHeld
            go_simp
            (try (intro hz; omega))
          (try simp only [Act.put, List.setIfInBounds_toArray, List.set_cons_zero, List.set_cons_succ])
          refine take_slotP (i := 9) (d := 27) (v := .pointer (some ⟨b, o + k * 3, none⟩)) rfl rfl (by kernel_rfl) (by kernel_rfl) (by kernel_rfl) (fun _ _ _ h => h) (Or.inl ⟨by rfl, ?_⟩) hHeld ?_
          · intro wS hSw
            obtain ⟨z0, z1, z2, z3, z4⟩ := hSw
            clear hHeld
            go_simp
            (try (intro hz; omega))
          (try simp only [Act.put, List.setIfInBounds_toArray, List.set_cons_zero, List.set_cons_succ])
          refine take_slotP (i := 10) (d := 28) (v := .pointer (some ⟨b, o + k * 3, none⟩)) rfl rfl (by kernel_rfl) (by kernel_rfl) (by kernel_rfl) (fun _ _ _ h => h) (Or.inl ⟨by rfl, ?_⟩) hHeld ?_
          · intro wS hSw
            obtain ⟨z0, z1, z2, z3, z4⟩ := hSw
            clear hHeld
            go_simp
            (try (intro hz; omega))
          (try simp only [Act.put, List.setIfInBounds_toArray, List.set_cons_zero, List.set_cons_succ])
          refine take_slotP (i := 11) (d := 29) (v := .int .i64 R) rfl rfl (by kernel_rfl) (by kernel_rfl) (by kernel_rfl) (fun _ _ _ h => h) (Or.inl ⟨by rfl, ?_⟩) hHeld ?_
          · intro wS hSw
            obtain ⟨z0, z1, z2, z3, z4⟩ := hSw
            clear hHeld
            go_simp
            (try (intro hz; omega))
          (try simp only [Act.put, List.setIfInBounds_toArray, List.set_cons_zero, List.set_cons_succ])
          refine take_slotP (i := 12) (d := 30) (v := .slice (some ⟨b, o, none⟩) n cap) rfl rfl (by kernel_rfl) (by kernel_rfl) (by kernel_rfl) (fun _ _ _ h => h) (Or.inl ⟨by rfl, ?_⟩) hHeld ?_
          · intro wS hSw
            obtain ⟨z0, z1, z2, z3, z4⟩ := hSw
            clear hHeld
            go_simp
            (try (intro hz; omega))
          (try simp only [Act.put, List.setIfInBounds_toArray, List.set_cons_zero, List.set_cons_succ])
          refine take_slotP (i := 13) (d := 31) (v := .pointer (some ⟨b, o, none⟩)) rfl rfl (by kernel_rfl) (by kernel_rfl) (by kernel_rfl) (fun _ _ _ h => h) (Or.inl ⟨by rfl, ?_⟩) hHeld ?_
          · intro wS hSw
            obtain ⟨z0, z1, z2, z3, z4⟩ := hSw
            clear hHeld
            go_simp
            (try (intro hz; omega))
          (try simp only [Act.put, List.setIfInBounds_toArray, List.set_cons_zero, List.set_cons_succ])
          refine take_slotP (i := 14) (d := 32) (v := .pointer (some ⟨b, o, none⟩)) rfl rfl (by kernel_rfl) (by kernel_rfl) (by kernel_rfl) (fun _ _ _ h => h) (Or.inl ⟨by rfl, ?_⟩) hHeld ?_
          · intro wS hSw
            obtain ⟨z0, z1, z2, z3, z4⟩ := hSw
            clear hHeld
            go_simp
            (try (intro hz; omega))
          (try simp only [Act.put, List.setIfInBounds_toArray, List.set_cons_zero, List.set_cons_succ])
          refine take_slotP (i := 15) (d := 33) (v := .int .i64 R0) rfl rfl (by kernel_rfl) (by kernel_rfl) (by kernel_rfl) (fun _ _ _ h => h) (Or.inl ⟨by rfl, ?_⟩) hHeld ?_
          · intro wS hSw
            obtain ⟨z0, z1, z2, z3, z4⟩ := hSw
            clear hHeld
            go_simp
            (try (intro hz; omega))
          (try simp only [Act.put, List.setIfInBounds_toArray, List.set_cons_zero, List.set_cons_succ])
          refine take_slotP (i := 16) (d := 34) (v := .bool true) rfl rfl (by kernel_rfl) (by kernel_rfl) (by kernel_rfl) (fun _ _ _ h => h) (Or.inl ⟨by rfl, ?_⟩) hHeld ?_
          · intro wS hSw
            obtain ⟨z0, z1, z2, z3, z4⟩ := hSw
            clear hHeld
            go_simp
            (try (intro hz; omega))
          (try simp only [Act.put, List.setIfInBounds_toArray, List.set_cons_zero, List.set_cons_succ])
          refine take_slotP (i := 17) (d := 35) (v := .bool true) rfl rfl (by kernel_rfl) (by kernel_rfl) (by kernel_rfl) (fun _ _ _ h => h) (Or.inl ⟨by rfl, ?_⟩) hHeld ?_
          · intro wS hSw
            obtain ⟨z0, z1, z2, z3, z4⟩ := hSw
            clear hHeld
            go_simp
            (try (intro hz; omega))
          (try simp only [Act.put, List.setIfInBounds_toArray, List.set_cons_zero, List.set_cons_succ])
          refine take_slotP (i := 18) (d := 36) (v := .bool true) rfl rfl (by kernel_rfl) (by kernel_rfl) (by kernel_rfl) (fun _ _ _ h => h) (Or.inl ⟨by rfl, ?_⟩) hHeld ?_
          · intro wS hSw
            obtain ⟨z0, z1, z2, z3, z4⟩ := hSw
            clear hHeld
            go_simp
            (try (intro hz; omega))
          (try simp only [Act.put, List.setIfInBounds_toArray, List.set_cons_zero, List.set_cons_succ])
          refine take_slotP (i := 19) (d := 37) (v := undef) rfl rfl (by kernel_rfl) (by kernel_rfl) (by kernel_rfl) (fun _ _ _ h => h) (Or.inr ⟨by rfl, rfl⟩) hHeld ?_
          (try simp only [Act.put, List.setIfInBounds_toArray, List.set_cons_zero, List.set_cons_succ])
          refine take_slotP (i := 20) (d := 38) (v := undef) rfl rfl (by kernel_rfl) (by kernel_rfl) (by kernel_rfl) (fun _ _ _ h => h) (Or.inr ⟨by rfl, rfl⟩) hHeld ?_
          (try simp only [Act.put, List.setIfInBounds_toArray, List.set_cons_zero, List.set_cons_succ])
          refine take_slotP (i := 21) (d := 39) (v := undef) rfl rfl (by kernel_rfl) (by kernel_rfl) (by kernel_rfl) (fun _ _ _ h => h) (Or.inr ⟨by rfl, rfl⟩) hHeld ?_
          (try simp only [Act.put, List.setIfInBounds_toArray, List.set_cons_zero, List.set_cons_succ])
          refine take_slotP (i := 22) (d := 40) (v := undef) rfl rfl (by kernel_rfl) (by kernel_rfl) (by kernel_rfl) (fun _ _ _ h => h) (Or.inr ⟨by rfl, rfl⟩) hHeld ?_
          (try simp only [Act.put, List.setIfInBounds_toArray, List.set_cons_zero, List.set_cons_succ])
          refine take_slotP (i := 23) (d := 41) (v := undef) rfl rfl (by kernel_rfl) (by kernel_rfl) (by kernel_rfl) (fun _ _ _ h => h) (Or.inr ⟨by rfl, rfl⟩) hHeld ?_
          (try simp only [Act.put, List.setIfInBounds_toArray, List.set_cons_zero, List.set_cons_succ])
          refine take_slotP (i := 24) (d := 42) (v := undef) rfl rfl (by kernel_rfl) (by kernel_rfl) (by kernel_rfl) (fun _ _ _ h => h) (Or.inr ⟨by rfl, rfl⟩) hHeld ?_
          (try simp only [Act.put, List.setIfInBounds_toArray, List.set_cons_zero, List.set_cons_succ])
          refine take_slotP (i := 25) (d := 43) (v := undef) rfl rfl (by kernel_rfl) (by kernel_rfl) (by kernel_rfl) (fun _ _ _ h => h) (Or.inr ⟨by rfl, rfl⟩) hHeld ?_
          (try simp only [Act.put, List.setIfInBounds_toArray, List.set_cons_zero, List.set_cons_succ])
          refine take_slotP (i := 26) (d := 44) (v := undef) rfl rfl (by kernel_rfl) (by kernel_rfl) (by kernel_rfl) (fun _ _ _ h => h) (Or.inr ⟨by rfl, rfl⟩) hHeld ?_
          (try simp only [Act.put, List.setIfInBounds_toArray, List.set_cons_zero, List.set_cons_succ])
          refine take_slotP (i := 27) (d := 45) (v := undef) rfl rfl (by kernel_rfl) (by kernel_rfl) (by kernel_rfl) (fun _ _ _ h => h) (Or.inr ⟨by rfl, rfl⟩) hHeld ?_
          (try simp only [Act.put, List.setIfInBounds_toArray, List.set_cons_zero, List.set_cons_succ])
          refine take_slotP (i := 28) (d := 46) (v := undef) rfl rfl (by kernel_rfl) (by kernel_rfl) (by kernel_rfl) (fun _ _ _ h => h) (Or.inr ⟨by rfl, rfl⟩) hHeld ?_
          (try simp only [Act.put, List.setIfInBounds_toArray, List.set_cons_zero, List.set_cons_succ])
          refine take_slotP (i := 29) (d := 47) (v := .bool true) rfl rfl (by kernel_rfl) (by kernel_rfl) (by kernel_rfl) (fun _ _ _ h => h) (Or.inl ⟨by rfl, ?_⟩) hHeld ?_
          · intro wS hSw
            obtain ⟨z0, z1, z2, z3, z4⟩ := hSw
            clear hHeld
            go_simp
            (try (intro hz; omega))
          (try simp only [Act.put, List.setIfInBounds_toArray, List.set_cons_zero, List.set_cons_succ])
          clear hHeld
          refine wpAnyH_done (by kernel_rfl) (NoPanic.normal ?_) _
          clear CK
          have GE := hide (okPB_no (X := X) (fun h => unhide NO (h.2 k hlt)))
          go_wp2
          go_ret
          exact ⟨by rw [unhide GE]; rfl, unhide GG⟩
      · rw [chk_bad hb] at CK
        have NO : Hid (¬ likeM (X k).R (X k).C (X k).len (X 0).R (X 0).C) := fun h => hb ((unhide LK).1 (unhide TOK h)).1
        clear hb LK TOL TOK
        go_wp2_with fail
        refine wp_region_noPanic ?_
        refine wp_region_held_drew (S := fun w' => w'.cell? ⟨b, o + k * 3, none⟩ = some (.int .i64 R) ∧ w'.cell? ⟨b, o + k * 3 + 1, none⟩ = some (.int .i64 C) ∧ w'.cell? ⟨b, o + k * 3 + 2, none⟩ = some (.slice ao len lc) ∧ w'.cell? ⟨b, o, none⟩ = some (.int .i64 R0) ∧ w'.cell? ⟨b, o + 1, none⟩ = some (.int .i64 C0)) (by kernel_rfl) (unhide HH) (fun hHeld => ?_)
        refine take_slotP (i := 0) (d := 18) (v := .slice (some ⟨b, o, none⟩) n cap) rfl rfl (by kernel_rfl) (by kernel_rfl) (by kernel_rfl) (fun _ _ _ h => h) (Or.inl ⟨by rfl, ?_⟩) hHeld ?_
        · intro wS hSw
          obtain ⟨z0, z1, z2, z3, z4⟩ := hSw
          clear hHeld
          go_simp
          (try (intro hz; omega))
        (try simp only [Act.put, List.setIfInBounds_toArray, List.set_cons_zero, List.set_cons_succ])
        refine take_slotP (i := 1) (d := 19) (v := .int .i64 (k : Int)) rfl rfl (by kernel_rfl) (by kernel_rfl) (by kernel_rfl) (fun _ _ _ h => h) (Or.inl ⟨by rfl, ?_⟩) hHeld ?_
        · intro wS hSw
          obtain ⟨z0, z1, z2, z3, z4⟩ := hSw
          clear hHeld
          go_simp
          (try (intro hz; omega))
        (try simp only [Act.put, List.setIfInBounds_toArray, List.set_cons_zero, List.set_cons_succ])
        refine take_slotP (i := 2) (d := 20) (v := .pointer (some ⟨b, o + k * 3, none⟩)) rfl rfl (by kernel_rfl) (by kernel_rfl) (by kernel_rfl) (fun _ _ _ h => h) (Or.inl ⟨by rfl, ?_⟩) hHeld ?_
        · intro wS hSw
          obtain ⟨z0, z1, z2, z3, z4⟩ := hSw
          clear hHeld
          go_simp
          (try (intro hz; omega))
        (try simp only [Act.put, List.setIfInBounds_toArray, List.set_cons_zero, List.set_cons_succ])
        refine take_slotP (i := 3) (d := 21) (v := .agg #[.int .i64 R, .int .i64 C, .slice ao len lc]) rfl rfl (by kernel_rfl) (by kernel_rfl) (by kernel_rfl) (fun _ _ _ h => h) (Or.inl ⟨by rfl, ?_⟩) hHeld ?_
        · intro wS hSw
          obtain ⟨z0, z1, z2, z3, z4⟩ := hSw
          clear hHeld
          go_simp
          (try (intro hz; omega))
        (try simp only [Act.put, List.setIfInBounds_toArray, List.set_cons_zero, List.set_cons_succ])
        refine wpAnyH_ready (rs := [4]) (by kernel_rfl) (by simp) ?_
        refine AllReadyH.cons rfl (fun K hK => ?_) AllReadyH.nil
        go_simp
        refine (unhide CK _).mono ?_
        rintro e w3 ⟨rfl, g3⟩
        have hHeld : (fun w' => w'.cell? ⟨b, o + k * 3, none⟩ = some (.int .i64 R) ∧ w'.cell? ⟨b, o + k * 3 + 1, none⟩ = some (.int .i64 C) ∧ w'.cell? ⟨b, o + k * 3 + 2, none⟩ = some (.slice ao len lc) ∧ w'.cell? ⟨b, o, none⟩ = some (.int .i64 R0) ∧ w'.cell? ⟨b, o + 1, none⟩ = some (.int .i64 C0)) w3 := ⟨gat g3 hHeld.1, gat g3 hHeld.2.1, gat g3 hHeld.2.2.1, gat g3 hHeld.2.2.2.1, gat g3 hHeld.2.2.2.2⟩
        have GG : Hid (Grown w w3) := gtrans (show Grown w wr.drew from (unhide HI).1) g3
        clear g3
        refine hK.out _ _ hHeld (fun hHeld => ?_)
        clear hK K
        (try simp only [Act.put, List.setIfInBounds_toArray, List.set_cons_zero, List.set_cons_succ])
        refine take_slotP (i := 5) (d := 23) (v := .bool true) rfl rfl (by kernel_rfl) (by kernel_rfl) (by kernel_rfl) (fun _ _ _ h => h) (Or.inl ⟨by rfl, ?_⟩) hHeld ?_
        · intro wS hSw
          obtain ⟨z0, z1, z2, z3, z4⟩ := hSw
          clear hHeld
          go_simp
          (try (intro hz; omega))
        (try simp only [Act.put, List.setIfInBounds_toArray, List.set_cons_zero, List.set_cons_succ])
        refine take_slotP (i := 6) (d := 24) (v := .bool true) rfl rfl (by kernel_rfl) (by kernel_rfl) (by kernel_rfl) (fun _ _ _ h => h) (Or.inl ⟨by rfl, ?_⟩) hHeld ?_
        · intro wS hSw
          obtain ⟨z0, z1, z2, z3, z4⟩ := hSw
          clear hHeld
          go_simp
          (try (intro hz; omega))
        (try simp only [Act.put, List.setIfInBounds_toArray, List.set_cons_zero, List.set_cons_succ])
        refine take_slotP (i := 7) (d := 25) (v := undef) rfl rfl (by kernel_rfl) (by kernel_rfl) (by kernel_rfl) (fun _ _ _ h => h) (Or.inr ⟨by rfl, rfl⟩) hHeld ?_
        (try simp only [Act.put, List.setIfInBounds_toArray, List.set_cons_zero, List.set_cons_succ])
        refine take_slotP (i := 8) (d := 26) (v := undef) rfl rfl (by kernel_rfl) (by kernel_rfl) (by kernel_rfl) (fun _ _ _ h => h) (Or.inr ⟨by rfl, rfl⟩) hHeld ?_
        (try simp only [Act.put, List.setIfInBounds_toArray, List.set_cons_zero, List.set_cons_succ])
        refine take_slotP (i := 9) (d := 27) (v := undef) rfl rfl (by kernel_rfl) (by kernel_rfl) (by kernel_rfl) (fun _ _ _ h => h) (Or.inr ⟨by rfl, rfl⟩) hHeld ?_
        (try simp only [Act.put, List.setIfInBounds_toArray, List.set_cons_zero, List.set_cons_succ])
        refine take_slotP (i := 10) (d := 28) (v := undef) rfl rfl (by kernel_rfl) (by kernel_rfl) (by kernel_rfl) (fun _ _ _ h => h) (Or.inr ⟨by rfl, rfl⟩) hHeld ?_
        (try simp only [Act.put, List.setIfInBounds_toArray, List.set_cons_zero, List.set_cons_succ])
        refine take_slotP (i := 11) (d := 29) (v := undef) rfl rfl (by kernel_rfl) (by kernel_rfl) (by kernel_rfl) (fun _ _ _ h => h) (Or.inr ⟨by rfl, rfl⟩) hHeld ?_
        (try simp only [Act.put, List.setIfInBounds_toArray, List.set_cons_zero, List.set_cons_succ])
        refine take_slotP (i := 12) (d := 30) (v := undef) rfl rfl (by kernel_rfl) (by kernel_rfl) (by kernel_rfl) (fun _ _ _ h => h) (Or.inr ⟨by rfl, rfl⟩) hHeld ?_
        (try simp only [Act.put, List.setIfInBounds_toArray, List.set_cons_zero, List.set_cons_succ])
        refine take_slotP (i := 13) (d := 31) (v := undef) rfl rfl (by kernel_rfl) (by kernel_rfl) (by kernel_rfl) (fun _ _ _ h => h) (Or.inr ⟨by rfl, rfl⟩) hHeld ?_
        (try simp only [Act.put, List.setIfInBounds_toArray, List.set_cons_zero, List.set_cons_succ])
        refine take_slotP (i := 14) (d := 32) (v := undef) rfl rfl (by kernel_rfl) (by kernel_rfl) (by kernel_rfl) (fun _ _ _ h => h) (Or.inr ⟨by rfl, rfl⟩) hHeld ?_
        (try simp only [Act.put, List.setIfInBounds_toArray, List.set_cons_zero, List.set_cons_succ])
        refine take_slotP (i := 15) (d := 33) (v := undef) rfl rfl (by kernel_rfl) (by kernel_rfl) (by kernel_rfl) (fun _ _ _ h => h) (Or.inr ⟨by rfl, rfl⟩) hHeld ?_
        (try simp only [Act.put, List.setIfInBounds_toArray, List.set_cons_zero, List.set_cons_succ])
        refine take_slotP (i := 16) (d := 34) (v := undef) rfl rfl (by kernel_rfl) (by kernel_rfl) (by kernel_rfl) (fun _ _ _ h => h) (Or.inr ⟨by rfl, rfl⟩) hHeld ?_
        (try simp only [Act.put, List.setIfInBounds_toArray, List.set_cons_zero, List.set_cons_succ])
        refine take_slotP (i := 17) (d := 35) (v := .bool true) rfl rfl (by kernel_rfl) (by kernel_rfl) (by kernel_rfl) (fun _ _ _ h => h) (Or.inl ⟨by rfl, ?_⟩) hHeld ?_
        · intro wS hSw
          obtain ⟨z0, z1, z2, z3, z4⟩ := hSw
          clear hHeld
          go_simp
          (try (intro hz; omega))
        (try simp only [Act.put, List.setIfInBounds_toArray, List.set_cons_zero, List.set_cons_succ])
        refine take_slotP (i := 18) (d := 36) (v := .bool true) rfl rfl (by kernel_rfl) (by kernel_rfl) (by kernel_rfl) (fun _ _ _ h => h) (Or.inl ⟨by rfl, ?_⟩) hHeld ?_
        · intro wS hSw
          obtain ⟨z0, z1, z2, z3, z4⟩ := hSw
          clear hHeld
          go_simp
          (try (intro hz; omega))
        (try simp only [Act.put, List.setIfInBounds_toArray, List.set_cons_zero, List.set_cons_succ])
        refine take_slotP (i := 19) (d := 37) (v := undef) rfl rfl (by kernel_rfl) (by kernel_rfl) (by kernel_rfl) (fun _ _ _ h => h) (Or.inr ⟨by rfl, rfl⟩) hHeld ?_
        (try simp only [Act.put, List.setIfInBounds_toArray, List.set_cons_zero, List.set_cons_succ])
        refine take_slotP (i := 20) (d := 38) (v := undef) rfl rfl (by kernel_rfl) (by kernel_rfl) (by kernel_rfl) (fun _ _ _ h => h) (Or.inr ⟨by rfl, rfl⟩) hHeld ?_
        (try simp only [Act.put, List.setIfInBounds_toArray, List.set_cons_zero, List.set_cons_succ])
        refine take_slotP (i := 21) (d := 39) (v := undef) rfl rfl (by kernel_rfl) (by kernel_rfl) (by kernel_rfl) (fun _ _ _ h => h) (Or.inr ⟨by rfl, rfl⟩) hHeld ?_
        (try simp only [Act.put, List.setIfInBounds_toArray, List.set_cons_zero, List.set_cons_succ])
        refine take_slotP (i := 22) (d := 40) (v := undef) rfl rfl (by kernel_rfl) (by kernel_rfl) (by kernel_rfl) (fun _ _ _ h => h) (Or.inr ⟨by rfl, rfl⟩) hHeld ?_
        (try simp only [Act.put, List.setIfInBounds_toArray, List.set_cons_zero, List.set_cons_succ])
        refine take_slotP (i := 23) (d := 41) (v := undef) rfl rfl (by kernel_rfl) (by kernel_rfl) (by kernel_rfl) (fun _ _ _ h => h) (Or.inr ⟨by rfl, rfl⟩) hHeld ?_
        (try simp only [Act.put, List.setIfInBounds_toArray, List.set_cons_zero, List.set_cons_succ])
        refine take_slotP (i := 24) (d := 42) (v := undef) rfl rfl (by kernel_rfl) (by kernel_rfl) (by kernel_rfl) (fun _ _ _ h => h) (Or.inr ⟨by rfl, rfl⟩) hHeld ?_
        (try simp only [Act.put, List.setIfInBounds_toArray, List.set_cons_zero, List.set_cons_succ])
        refine take_slotP (i := 25) (d := 43) (v := undef) rfl rfl (by kernel_rfl) (by kernel_rfl) (by kernel_rfl) (fun _ _ _ h => h) (Or.inr ⟨by rfl, rfl⟩) hHeld ?_
        (try simp only [Act.put, List.setIfInBounds_toArray, List.set_cons_zero, List.set_cons_succ])
        refine take_slotP (i := 26) (d := 44) (v := undef) rfl rfl (by kernel_rfl) (by kernel_rfl) (by kernel_rfl) (fun _ _ _ h => h) (Or.inr ⟨by rfl, rfl⟩) hHeld ?_
        (try simp only [Act.put, List.setIfInBounds_toArray, List.set_cons_zero, List.set_cons_succ])
        refine take_slotP (i := 27) (d := 45) (v := undef) rfl rfl (by kernel_rfl) (by kernel_rfl) (by kernel_rfl) (fun _ _ _ h => h) (Or.inr ⟨by rfl, rfl⟩) hHeld ?_
        (try simp only [Act.put, List.setIfInBounds_toArray, List.set_cons_zero, List.set_cons_succ])
        refine take_slotP (i := 28) (d := 46) (v := undef) rfl rfl (by kernel_rfl) (by kernel_rfl) (by kernel_rfl) (fun _ _ _ h => h) (Or.inr ⟨by rfl, rfl⟩) hHeld ?_
        (try simp only [Act.put, List.setIfInBounds_toArray, List.set_cons_zero, List.set_cons_succ])
        refine take_slotP (i := 29) (d := 47) (v := .bool true) rfl rfl (by kernel_rfl) (by kernel_rfl) (by kernel_rfl) (fun _ _ _ h => h) (Or.inl ⟨by rfl, ?_⟩) hHeld ?_
        · intro wS hSw
          obtain ⟨z0, z1, z2, z3, z4⟩ := hSw
          clear hHeld
          go_simp
          (try (intro hz; omega))
        (try simp only [Act.put, List.setIfInBounds_toArray, List.set_cons_zero, List.set_cons_succ])
        clear hHeld
        refine wpAnyH_done (by kernel_rfl) (NoPanic.normal ?_) _
        clear CK
        have GE := hide (okPB_no (X := X) (fun h => unhide NO (h.2 k hlt)))
        go_wp2
        go_ret
        exact ⟨by rw [unhide GE]; rfl, unhide GG⟩
    · obtain rfl : k = n := by omega
      have GE := hide (okPB_yes (X := X) ⟨unhide HN, (unhide HI).2⟩)
      have GG := hide (unhide HI).1
      clear HI
      go_wp2
      go_ret
      exact ⟨by rw [unhide GE]; rfl, unhide GG⟩

end Go.Proofs.YtopaakjildmjcaaGreat

/- The document's At. -/
namespace Go.Proofs.YtopaakjildmjcaaGreat
open Go.RowKit Go.Shelf Go.Proofs.Wd
set_option linter.unusedVariables false
set_option linter.unusedSimpArgs false
set_option maxRecDepth 10000

def RW (R : Nat) (c : Bool) (n0 D : Int) (W : World) : Prop := ∃ cnt, n0 ≤ cnt ∧ cnt ≤ n0 + D ∧ RC R c cnt W
/-- What At holds: out's box, its numbers, the unit, the result's box. -/
def DAt (w : World) (R r c nn ob : Nat) (c0 : Bool) (n0 : Int) (Z : Nat → Int) (G : Bool) (d : Int) (ao : Option Addr) (cp : Nat) (W : World) : Prop :=
  Blk ob #[.int .i64 r, .int .i64 c, .slice ao nn cp] 24 W ∧ Row W ao nn Z ∧ (∀ U, U < w.heap.size → Off U nn ao) ∧ Off ob nn ao ∧ nn ≤ cp ∧ RW R (c0 || G) n0 d W ∧ Blk w.heap.size #[.int .i64 0, .int .i64 0, .slice none 0 0] 24 W ∧ w.heap.size < ob ∧ Mk R w W ∧ Off w.heap.size nn ao
theorem ap_at {B md nn cp : Nat} {W : World} (h : (Value.slice (some ⟨B, 0, none⟩) nn cp).ownBlock = (Value.slice (some ⟨md, 0, none⟩) 0 0).ownBlock ∨ ∃ g, (Value.slice (some ⟨B, 0, none⟩) nn cp).ownBlock = some g ∧ W.heap.size ≤ g) : B = md ∨ W.heap.size ≤ B := by
  rcases h with h | ⟨g, h, hg⟩
  · have h : some B = some md := h
    cases h
    exact Or.inl rfl
  · have h : some B = some g := h
    cases h
    exact Or.inr hg
theorem news_row {W : World} {b o nn : Nat} {Z : Nat → Int} (h : ∀ j, j < nn → W.cell? ⟨b, o + j, none⟩ = some (.int .i64 (Z j))) : ∀ j u, ((List.range nn).map fun i => Value.int .i64 (Z i))[j]? = some u → W.cell? ((⟨b, o, none⟩ : Addr).add j) = some u := by
  intro j u hu
  rw [List.getElem?_map] at hu
  by_cases hj : j < nn
  · rw [List.getElem?_range hj] at hu
    simp at hu
    subst hu
    rw [Go.WideShapes.add_plain]
    exact h j hj
  · rw [List.getElem?_eq_none (by simpa using hj)] at hu
    simp at hu
/-- out is laid. -/
theorem DAt.start {w W : World} {R r c nn ob B cp : Nat} {c0 : Bool} {n0 : Int} {Z : Nat → Int} (h : RC R c0 n0 W) (hR : R < w.heap.size) (hX : Blk ob #[.int .i64 0, .int .i64 0, .slice none 0 0] 24 W) (own : Own B nn Z W) (hB : w.heap.size < B) (hne : B ≠ ob) (hcp : nn ≤ cp) (hr : Blk w.heap.size #[.int .i64 0, .int .i64 0, .slice none 0 0] 24 W) (ho : w.heap.size < ob) (m : Mk R w W) :
    DAt w R r c nn ob c0 n0 Z false 0 (some ⟨B, 0, none⟩) cp (((W.setCell ⟨ob, 0, none⟩ (.int .i64 r)).setCell ⟨ob, 1, none⟩ (.int .i64 c)).setCell ⟨ob, 2, none⟩ (.slice (some ⟨B, 0, none⟩) nn cp)) := by
  have P := putM hX (.int .i64 r) (.int .i64 c) (.slice (some ⟨B, 0, none⟩) nn cp)
  obtain ⟨cur, o1, o2⟩ := own
  refine ⟨P.1, Own.row ⟨cur, Blk.keep o1 P.2 hne, o2⟩, fun U hU _ a ha => by cases ha; show B ≠ U; omega, fun _ a ha => by cases ha; exact hne, hcp, ⟨n0, Int.le_refl _, by omega, ?_⟩, Blk.keep hr P.2 (by omega), ho, m.new P.2 (by omega), fun _ a ha => by cases ha; show B ≠ w.heap.size; omega⟩
  rw [Bool.or_false]
  exact Blk.keep h P.2 (by omega)
/-- A round. -/
theorem DAt.step {w W W' : World} {R r c nn ob cp cp2 : Nat} {c0 G G' : Bool} {n0 d d' q : Int} {Z Y : Nat → Int} {ao a2 : Option Addr} (h : DAt w R r c nn ob c0 n0 Z G d ao cp W) (hR : R < w.heap.size) (m : Mk R W W') (u : RC R (c0 || G') q W') (hq : n0 ≤ q) (hq2 : q ≤ n0 + d') (hrow : Row W' a2 nn Y) (hoff : ∀ U, U < W.heap.size → Off U nn a2) (hcp : nn ≤ cp2) :
    Blk ob #[.int .i64 r, .int .i64 c, .slice ao nn cp] 24 W' ∧ DAt w R r c nn ob c0 n0 Y G' d' a2 cp2 (((W'.setCell ⟨ob, 0, none⟩ (.int .i64 r)).setCell ⟨ob, 1, none⟩ (.int .i64 c)).setCell ⟨ob, 2, none⟩ (.slice a2 nn cp2)) := by
  obtain ⟨h1, h2, h3, h4, h5, h6, h7, h8, h9, h10⟩ := h
  have b := Blk.mk h1 m (by omega : ob ≠ R)
  have P := putM b (.int .i64 r) (.int .i64 c) (.slice a2 nn cp2)
  have lo := Blk.lt h1
  refine ⟨b, P.1, hrow.mk (Mk.of P.2) (hoff ob lo), fun U hU => hoff U (by omega), hoff ob lo, hcp, ⟨q, hq, hq2, Blk.keep u P.2 (by omega)⟩, Blk.keep (Blk.mk h7 m (by omega)) P.2 (by omega), h8, (h9.trans m).new P.2 (by omega), hoff _ (by omega)⟩


set_option maxRecDepth 50000 in
set_option maxHeartbeats 16000000 in
theorem pRefAt_ok (R r c nn k n b o cap : Nat) (c0 : Bool) (n0 t : Int) (hn0 : 0 ≤ n0 ∧ n0 < 1000000000000000000) (ht : I64 t) (hr : 1 ≤ r ∧ r ≤ 12) (hc : 1 ≤ c ∧ c ≤ 12) (hnn : r * c = nn) (hk : k ≤ 24) (hnk : n = k + 1) (X : Nat → MV) (hok : okP n X) (hX : ∀ i, i ≤ k → (X i).R = r ∧ (X i).C = c ∧ (X i).len = nn) (hI : ∀ i, i ≤ k → ∀ j, j < nn → I64 ((X i).Z j)) (w : World) (h : RC R c0 n0 w) (hm : Mats w (some ⟨b, o, none⟩) n X) (hrow : ∀ i, i ≤ k → Row w (X i).ao nn (X i).Z) (ho : ∀ i, i ≤ k → Off R nn (X i).ao) (hoM : b ≠ R) :
    Calls Tryz.prog 21 #[.pointer (some ⟨R, 0, none⟩), .slice (some ⟨b, o, none⟩) n cap, .int .i64 t] w fun e w' => DocP r c nn (horZ (fun i => (X i).Z) k t k) 0 (fun w' => RW R (c0 || horC (fun i => (X i).Z) k t nn k) n0 100000 w' ∧ Mk R w w') w e w' := by
  have FI := hide (fun W (g : Grown w W) => pRefFine (some ⟨b, o, none⟩) n cap X (by omega) W (hm.grown g))
  rw [okPB_yes hok] at FI
  have k2 := mul12n r c hr hc
  rw [hnn] at k2
  have lR := Blk.lt h
  have G1 : Hid (Grown w (w.alloc (.cells #[.int .i64 0, .int .i64 0, .slice none 0 0] 24)) ∧ Blk w.heap.size #[.int .i64 0, .int .i64 0, .slice none 0 0] 24 (w.alloc (.cells #[.int .i64 0, .int .i64 0, .slice none 0 0] 24))) := ⟨(Grown.refl _).alloc _ _, Blk.new w _ _⟩
  obtain ⟨Zs, hZs⟩ : ∃ Zs : Nat → Nat → Int, Zs = fun i => (X i).Z := ⟨_, rfl⟩
  rw [← hZs]
  have XR : Hid (∀ i, i ≤ k → ∃ bx ox xc, (∀ j, j < nn → w.cell? ⟨bx, ox + j, none⟩ = some (.int .i64 (Zs i j))) ∧ bx ≠ R ∧ w.cell? ⟨b, o + i * 3, none⟩ = some (.int .i64 r) ∧ w.cell? ⟨b, o + i * 3 + 1, none⟩ = some (.int .i64 c) ∧ w.cell? ⟨b, o + i * 3 + 2, none⟩ = some (.slice (some ⟨bx, ox, none⟩) nn xc) ∧ (∀ j, j < nn → I64 (Zs i j))) := fun i hi => by
    obtain ⟨b', o', e, c0', c1', c2'⟩ := hm.at (k := i) (by omega)
    cases e
    obtain ⟨e1, e2, e3⟩ := hX i hi
    obtain ⟨bx, ox, e4, hz⟩ := (hrow i hi).some (by omega)
    rw [e1] at c0'
    rw [e2] at c1'
    rw [e3, e4] at c2'
    have hoi := ho i hi
    rw [e4] at hoi
    subst hZs
    exact ⟨bx, ox, (X i).cap, hz, off_at hoi (by omega), c0', c1', c2', hI i hi⟩
  have HR := hide lR
  have HU := hide h
  have HB := hide hoM
  have HN : Hid ((1 ≤ r ∧ r ≤ 12) ∧ (1 ≤ c ∧ c ≤ 12) ∧ r * c = nn ∧ 1 ≤ nn ∧ nn ≤ 144 ∧ k ≤ 24 ∧ n = k + 1 ∧ I64 t ∧ (0 ≤ n0 ∧ n0 < 1000000000000000000)) := ⟨hr, hc, hnn, by omega, by omega, hk, hnk, ht, hn0⟩
  have OK : Hid (okM r c nn) := ⟨by omega, by omega, by rw [← hnn, Int.natCast_mul]⟩
  obtain ⟨x0, hx0⟩ : ∃ x : Int, x = (k : Int) - 1 := ⟨_, rfl⟩
  have wq1 : wrap64 ((n : Int) - 1) = (k : Int) := by unfold wrap64; omega
  have wq2 : wrap64 ((n : Int) - 2) = x0 := by unfold wrap64; omega
  have wp1 : IntKind.i64.wrap ((n : Int) - 1) = (k : Int) := by rw [IntKind.wrap_i64]; omega
  have i0 : (0 : Int) ≤ (k : Int) := Int.natCast_nonneg _
  have i1 : (k : Int) < (n : Int) := by omega
  have HX0 := hide hx0
  clear hZs hm hX hI hrow ho hok h lR hoM hr hc hnn hk hnk ht hn0 k2 hx0
  go_enter Tryz.func21, Tryz.ntmps21
  go_wp2_with fail
  generalize w.alloc (.cells #[.int .i64 0, .int .i64 0, .slice none 0 0] 24) = w1 at *
  refine (unhide FI _ (unhide G1).1).mono ?_
  rintro e w2 ⟨rfl, g2⟩
  have G2 : Hid (Grown w w2 ∧ Blk w.heap.size #[.int .i64 0, .int .i64 0, .slice none 0 0] 24 w2) := ⟨gtrans (unhide G1).1 g2, Blk.grown (unhide G1).2 g2⟩
  obtain ⟨bx, ox, xc, hz, hbx, m0, m1, m2, _⟩ := unhide XR k (Nat.le_refl _)
  have y0 := gat (unhide G2).1 m0
  have y1 := gat (unhide G2).1 m1
  have y2 := gat (unhide G2).1 m2
  have HZ := hide (And.intro hz hbx)
  clear g2 G1 FI m0 m1 m2 hz hbx
  go_upto_region 4 with fail
  clear wq1 wp1 i0 i1 y0 y1 y2
  have CH : Hid (∀ W, Kp (w2.alloc (.cells #[.int .i64 r, .int .i64 c, .slice (some ⟨bx, ox, none⟩) nn xc] 24)) W → ((fun w' => w'.cell? ⟨w2.heap.size, 0, none⟩ = some (.int .i64 r) ∧ w'.cell? ⟨w2.heap.size, 1, none⟩ = some (.int .i64 c) ∧ w'.cell? ⟨w2.heap.size, 2, none⟩ = some (.slice (some ⟨bx, ox, none⟩) nn xc)) W) ∧ (∀ j, j < nn → W.cell? ⟨bx, ox + j, none⟩ = some (.int .i64 (Zs k j))) ∧ RC R c0 n0 W ∧ Blk w.heap.size #[.int .i64 0, .int .i64 0, .slice none 0 0] 24 W ∧ Mk R w W ∧ w.heap.size < (w2.alloc (.cells #[.int .i64 r, .int .i64 c, .slice (some ⟨bx, ox, none⟩) nn xc] 24)).heap.size) := fun W kW => by
    have bl := Blk.kp (Blk.new w2 #[.int .i64 r, .int .i64 c, .slice (some ⟨bx, ox, none⟩) nn xc] 24) kW
    have kk : Kp w W := ((Kp.of (unhide G2).1).alloc _ _).trans kW
    have lw := Blk.lt (unhide G2).2
    exact ⟨⟨Blk.cell bl 0, Blk.cell bl 1, Blk.cell bl 2⟩, fun j hj => kk.cell ((unhide HZ).1 j hj), Blk.kp (unhide HU) kk, Blk.kp (Blk.kp (unhide G2).2 ((Kp.refl w2).alloc _ _)) kW, Mk.kp kk, by simp; omega⟩
  generalize w2.alloc (.cells #[.int .i64 r, .int .i64 c, .slice (some ⟨bx, ox, none⟩) nn xc] 24) = w4 at *
  generalize w2.heap.size = lb at *
  clear G2 HZ
  obtain ⟨Zk, hZk⟩ : ∃ Zk, Zs k = Zk := ⟨_, rfl⟩
  rw [hZk] at CH
  have EZ := hide hZk
  clear hZk
  go_cut [9] (fun s9 wx => ∃ ob, s9 = .pointer (some ⟨ob, 0, none⟩) ∧ ∃ B cp, Hid (DAt w R r c nn ob c0 n0 Zk false 0 (some ⟨B, 0, none⟩) cp wx))
  case first =>
      refine region_G (fun w' => w'.cell? ⟨lb, 0, none⟩ = some (.int .i64 r) ∧ w'.cell? ⟨lb, 1, none⟩ = some (.int .i64 c) ∧ w'.cell? ⟨lb, 2, none⟩ = some (.slice (some ⟨bx, ox, none⟩) nn xc)) 10 (by kernel_rfl) ((unhide CH w4 (Kp.refl _)).1) (fun hHeld => ?_)
      have kd : Hid (Kp w4 w4.drew) := Kp.refl w4
      generalize w4.drew = wd at *
      refine take_G (i := 0) (d := 23) (v := .pointer (some ⟨lb, 0, none⟩)) rfl rfl (by kernel_rfl) (by kernel_rfl) (by kernel_rfl) (by kernel_rfl) (by kernel_rfl) (Or.inl ⟨by rfl, ?_⟩) hHeld ?_
      · intro wS hSw
        obtain ⟨z0, z1, z2⟩ := hSw
        clear hHeld
        go_simp
        (try (intro hz; omega))
      (try simp only [Act.put, List.setIfInBounds_toArray, List.set_cons_zero, List.set_cons_succ])
      refine take_G (i := 1) (d := 24) (v := .int .i64 r) rfl rfl (by kernel_rfl) (by kernel_rfl) (by kernel_rfl) (by kernel_rfl) (by kernel_rfl) (Or.inl ⟨by rfl, ?_⟩) hHeld ?_
      · intro wS hSw
        obtain ⟨z0, z1, z2⟩ := hSw
        clear hHeld
        go_simp
        (try (intro hz; omega))
      (try simp only [Act.put, List.setIfInBounds_toArray, List.set_cons_zero, List.set_cons_succ])
      refine take_G (i := 2) (d := 25) (v := .pointer (some ⟨lb, 1, none⟩)) rfl rfl (by kernel_rfl) (by kernel_rfl) (by kernel_rfl) (by kernel_rfl) (by kernel_rfl) (Or.inl ⟨by rfl, ?_⟩) hHeld ?_
      · intro wS hSw
        obtain ⟨z0, z1, z2⟩ := hSw
        clear hHeld
        go_simp
        (try (intro hz; omega))
      (try simp only [Act.put, List.setIfInBounds_toArray, List.set_cons_zero, List.set_cons_succ])
      refine take_G (i := 3) (d := 26) (v := .int .i64 c) rfl rfl (by kernel_rfl) (by kernel_rfl) (by kernel_rfl) (by kernel_rfl) (by kernel_rfl) (Or.inl ⟨by rfl, ?_⟩) hHeld ?_
      · intro wS hSw
        obtain ⟨z0, z1, z2⟩ := hSw
        clear hHeld
        go_simp
        (try (intro hz; omega))
      (try simp only [Act.put, List.setIfInBounds_toArray, List.set_cons_zero, List.set_cons_succ])
      refine take_G (i := 5) (d := 28) (v := .pointer (some ⟨lb, 2, none⟩)) rfl rfl (by kernel_rfl) (by kernel_rfl) (by kernel_rfl) (by kernel_rfl) (by kernel_rfl) (Or.inl ⟨by rfl, ?_⟩) hHeld ?_
      · intro wS hSw
        obtain ⟨z0, z1, z2⟩ := hSw
        clear hHeld
        go_simp
        (try (intro hz; omega))
      (try simp only [Act.put, List.setIfInBounds_toArray, List.set_cons_zero, List.set_cons_succ])
      refine take_G (i := 6) (d := 29) (v := .slice (some ⟨bx, ox, none⟩) nn xc) rfl rfl (by kernel_rfl) (by kernel_rfl) (by kernel_rfl) (by kernel_rfl) (by kernel_rfl) (Or.inl ⟨by rfl, ?_⟩) hHeld ?_
      · intro wS hSw
        obtain ⟨z0, z1, z2⟩ := hSw
        clear hHeld
        go_simp
        (try (intro hz; omega))
      (try simp only [Act.put, List.setIfInBounds_toArray, List.set_cons_zero, List.set_cons_succ])
      refine two_G (i := 4) (j := 9) (by kernel_rfl) (fun K hK => ?_) (fun K hK => ?_)
      · clear hHeld
        refine wpOp_of rfl rfl ?_
        unfold Oper.wp
        go_simp
        have OM : Hid ((wd.alloc (.cells #[] 3)).ownsRow w4.heap.size 3 1 (.slice (some ⟨wd.heap.size, 0, none⟩) 0 0) 0 []) := World.ownsRow_made (base := w4.heap.size) (e := 3) (size := 1) wd #[] 0 (unhide kd).2.2.2 (by unfold maxLen; omega) (by simp)
        have lmd : Hid (wd.heap.size < (wd.alloc (.cells #[] 3)).heap.size ∧ w4.heap.size ≤ wd.heap.size) := ⟨by simp, (unhide kd).2.2.2⟩
        have k5 : Hid (Kp w4 (wd.alloc (.cells #[] 3))) := (unhide kd).alloc _ _
        generalize wd.alloc (.cells #[] 3) = w5 at *
        generalize wd.heap.size = md at *
        have hHeld := (unhide CH _ (unhide k5)).1
        refine hK _ _ (fun _ => hHeld) ?_
        clear hK K
        (try simp only [Act.put, List.setIfInBounds_toArray, List.set_cons_zero, List.set_cons_succ])
        refine two_G (i := 7) (j := 9) (by kernel_rfl) (fun K hK => ?_) (fun K hK => ?_)
        · clear hHeld
          refine wpOp_of rfl rfl ?_
          refine wp_append_at (.tmp 27) (.tmp 29) rfl w4.heap.size (.slice (some ⟨md, 0, none⟩) 0 0) 0 [] (by first | rfl | simp [Act.eval, Act.put]) (unhide OM) ⟨bx, ox, none⟩ nn xc ((List.range nn).map fun i => Value.int .i64 (Zk i)) (by first | rfl | simp [Act.eval, Act.put]) (by simp) (news_row (unhide CH _ (unhide k5)).2.1) (cells_one _ _) (by have := unhide HN; omega) (by omega) (unhide k5).2.2.2 ?_
          intro v' w6 hown hgrow hat
          rw [Nat.zero_add, List.nil_append] at hown
          obtain ⟨B, cp, rfl, hcp, hbB, own⟩ := owns_ownC (unhide HN).2.2.2.1 hown
          have HBO := hide (ap_at hat)
          have k6 : Hid (Kp w4 w6) := Kp.by (unhide k5) hgrow (fun k e => ((unhide OM).lt k e).1)
          have OWN := hide (And.intro own (And.intro hcp hbB))
          clear hown hgrow hat own hcp hbB OM
          have hHeld := (unhide CH _ (unhide k6)).1
          refine hK _ _ (fun _ => hHeld) ?_
          clear hK K
          (try simp only [Act.put, List.setIfInBounds_toArray, List.set_cons_zero, List.set_cons_succ])
          refine take_G (i := 8) (d := 31) (v := .agg #[.int .i64 r, .int .i64 c, .slice (some ⟨B, 0, none⟩) nn cp]) rfl rfl (by kernel_rfl) (by kernel_rfl) (by kernel_rfl) (by kernel_rfl) (by kernel_rfl) (Or.inl ⟨by rfl, ?_⟩) hHeld ?_
          · intro wS hSw
            obtain ⟨z0, z1, z2⟩ := hSw
            clear hHeld
            go_simp
            (try (intro hz; omega))
          (try simp only [Act.put, List.setIfInBounds_toArray, List.set_cons_zero, List.set_cons_succ])
          clear hHeld
          refine step_G (i := 9) (by kernel_rfl) (fun K hK => ?_)
          refine wpOp_of rfl rfl ?_
          unfold Oper.wp
          go_simp
          have k7 : Hid (Kp w4 (w6.alloc (.cells #[.int .i64 0, .int .i64 0, .slice none 0 0] 24))) := (unhide k6).alloc _ _
          have ZB := hide (Blk.new w6 #[.int .i64 0, .int .i64 0, .slice none 0 0] 24)
          have lob : Hid (w6.heap.size < (w6.alloc (.cells #[.int .i64 0, .int .i64 0, .slice none 0 0] 24)).heap.size ∧ w4.heap.size ≤ w6.heap.size) := ⟨by simp, (unhide k6).2.2.2⟩
          have lB := hide (Own.ltA (unhide OWN).1)
          have OWN : Hid (Own B nn Zk (w6.alloc (.cells #[.int .i64 0, .int .i64 0, .slice none 0 0] 24)) ∧ nn ≤ cp ∧ w4.heap.size ≤ B) := ⟨Own.kpA (unhide OWN).1 ((Kp.refl _).alloc _ _), (unhide OWN).2⟩
          generalize w6.alloc (.cells #[.int .i64 0, .int .i64 0, .slice none 0 0] 24) = w7 at *
          generalize w6.heap.size = ob at *
          have hHeld := (unhide CH _ (unhide k7)).1
          refine hK _ _ (fun _ => hHeld) ?_
          clear hK K
          (try simp only [Act.put, List.setIfInBounds_toArray, List.set_cons_zero, List.set_cons_succ])
          clear hHeld
          have HD : Hid (DAt w R r c nn ob c0 n0 Zk false 0 (some ⟨B, 0, none⟩) cp (((w7.setCell ⟨ob, 0, none⟩ (.int .i64 r)).setCell ⟨ob, 1, none⟩ (.int .i64 c)).setCell ⟨ob, 2, none⟩ (.slice (some ⟨B, 0, none⟩) nn cp))) := by
            obtain ⟨_, _, q1, q2, q3, q4⟩ := unhide CH _ (unhide k7)
            have := unhide lob
            have := (unhide OWN).2.2
            exact DAt.start q1 (unhide HR) (unhide ZB) (unhide OWN).1 (by omega) (by have := unhide lB; omega) (unhide OWN).2.1 q2 (by omega) q3
          have z3 : w7.cell? ⟨ob, 0, none⟩ = some (.int .i64 0) := Blk.cell (unhide ZB) 0
          have z4 : w7.cell? ⟨ob, 1, none⟩ = some (.int .i64 0) := Blk.cell (unhide ZB) 1
          have z5 : w7.cell? ⟨ob, 2, none⟩ = some (.slice none 0 0) := Blk.cell (unhide ZB) 2
          have zf := Blk.free (unhide ZB)
          refine step_G (i := 10) (by kernel_rfl) (fun K hK => ?_)
          refine wpOp_of rfl rfl ?_
          unfold Oper.wp
          go_simp
          refine hK _ _ (fun h => absurd rfl h) ?_
          clear hK K
          (try simp only [Act.put, List.setIfInBounds_toArray, List.set_cons_zero, List.set_cons_succ])
          refine done_G (by kernel_rfl) ?_
          refine noPanic_normalE ?_
          go_wp2_with fail
          go_meet
          exact ⟨ob, rfl, B, cp, HD⟩
        · clear hHeld
          refine wpOp_of rfl rfl ?_
          unfold Oper.wp
          go_simp
          have k6 : Hid (Kp w4 (w5.alloc (.cells #[.int .i64 0, .int .i64 0, .slice none 0 0] 24))) := (unhide k5).alloc _ _
          have ZB := hide (Blk.new w5 #[.int .i64 0, .int .i64 0, .slice none 0 0] 24)
          have lob : Hid (w5.heap.size < (w5.alloc (.cells #[.int .i64 0, .int .i64 0, .slice none 0 0] 24)).heap.size ∧ w4.heap.size ≤ w5.heap.size) := ⟨by simp, (unhide k5).2.2.2⟩
          have OM : Hid ((w5.alloc (.cells #[.int .i64 0, .int .i64 0, .slice none 0 0] 24)).ownsRow w4.heap.size 3 1 (.slice (some ⟨md, 0, none⟩) 0 0) 0 []) := (unhide OM).alloc _
          generalize w5.alloc (.cells #[.int .i64 0, .int .i64 0, .slice none 0 0] 24) = w6 at *
          generalize w5.heap.size = ob at *
          have hHeld := (unhide CH _ (unhide k6)).1
          refine hK _ _ (fun _ => hHeld) ?_
          clear hK K
          (try simp only [Act.put, List.setIfInBounds_toArray, List.set_cons_zero, List.set_cons_succ])
          refine step_G (i := 7) (by kernel_rfl) (fun K hK => ?_)
          clear hHeld
          refine wpOp_of rfl rfl ?_
          refine wp_append_at (.tmp 27) (.tmp 29) rfl w4.heap.size (.slice (some ⟨md, 0, none⟩) 0 0) 0 [] (by first | rfl | simp [Act.eval, Act.put]) (unhide OM) ⟨bx, ox, none⟩ nn xc ((List.range nn).map fun i => Value.int .i64 (Zk i)) (by first | rfl | simp [Act.eval, Act.put]) (by simp) (news_row (unhide CH _ (unhide k6)).2.1) (cells_one _ _) (by have := unhide HN; omega) (by omega) (unhide k6).2.2.2 ?_
          intro v' w7 hown hgrow hat
          rw [Nat.zero_add, List.nil_append] at hown
          obtain ⟨B, cp, rfl, hcp, hbB, own⟩ := owns_ownC (unhide HN).2.2.2.1 hown
          have HBO := hide (ap_at hat)
          have k7 : Hid (Kp w4 w7) := Kp.by (unhide k6) hgrow (fun k e => ((unhide OM).lt k e).1)
          have OWN := hide (And.intro own (And.intro hcp hbB))
          have ZB := hide (Blk.by (unhide ZB) hgrow (by intro e; have e : some ob = some md := e; cases e; have := unhide lmd; have := unhide lob; omega))
          clear hown hgrow hat own hcp hbB OM
          have hHeld := (unhide CH _ (unhide k7)).1
          refine hK _ _ (fun _ => hHeld) ?_
          clear hK K
          (try simp only [Act.put, List.setIfInBounds_toArray, List.set_cons_zero, List.set_cons_succ])
          refine take_G (i := 8) (d := 31) (v := .agg #[.int .i64 r, .int .i64 c, .slice (some ⟨B, 0, none⟩) nn cp]) rfl rfl (by kernel_rfl) (by kernel_rfl) (by kernel_rfl) (by kernel_rfl) (by kernel_rfl) (Or.inl ⟨by rfl, ?_⟩) hHeld ?_
          · intro wS hSw
            obtain ⟨z0, z1, z2⟩ := hSw
            clear hHeld
            go_simp
            (try (intro hz; omega))
          (try simp only [Act.put, List.setIfInBounds_toArray, List.set_cons_zero, List.set_cons_succ])
          clear hHeld
          have HD : Hid (DAt w R r c nn ob c0 n0 Zk false 0 (some ⟨B, 0, none⟩) cp (((w7.setCell ⟨ob, 0, none⟩ (.int .i64 r)).setCell ⟨ob, 1, none⟩ (.int .i64 c)).setCell ⟨ob, 2, none⟩ (.slice (some ⟨B, 0, none⟩) nn cp))) := by
            obtain ⟨_, _, q1, q2, q3, q4⟩ := unhide CH _ (unhide k7)
            have := unhide lob
            have := (unhide OWN).2.2
            exact DAt.start q1 (unhide HR) (unhide ZB) (unhide OWN).1 (by omega) (by have := unhide HBO; have := unhide lmd; omega) (unhide OWN).2.1 q2 (by omega) q3
          have z3 : w7.cell? ⟨ob, 0, none⟩ = some (.int .i64 0) := Blk.cell (unhide ZB) 0
          have z4 : w7.cell? ⟨ob, 1, none⟩ = some (.int .i64 0) := Blk.cell (unhide ZB) 1
          have z5 : w7.cell? ⟨ob, 2, none⟩ = some (.slice none 0 0) := Blk.cell (unhide ZB) 2
          have zf := Blk.free (unhide ZB)
          refine step_G (i := 10) (by kernel_rfl) (fun K hK => ?_)
          refine wpOp_of rfl rfl ?_
          unfold Oper.wp
          go_simp
          refine hK _ _ (fun h => absurd rfl h) ?_
          clear hK K
          (try simp only [Act.put, List.setIfInBounds_toArray, List.set_cons_zero, List.set_cons_succ])
          refine done_G (by kernel_rfl) ?_
          refine noPanic_normalE ?_
          go_wp2_with fail
          go_meet
          exact ⟨ob, rfl, B, cp, HD⟩
      · clear hHeld
        refine wpOp_of rfl rfl ?_
        unfold Oper.wp
        go_simp
        have k5 : Hid (Kp w4 (wd.alloc (.cells #[.int .i64 0, .int .i64 0, .slice none 0 0] 24))) := (unhide kd).alloc _ _
        have ZB := hide (Blk.new wd #[.int .i64 0, .int .i64 0, .slice none 0 0] 24)
        have lob : Hid (wd.heap.size < (wd.alloc (.cells #[.int .i64 0, .int .i64 0, .slice none 0 0] 24)).heap.size ∧ w4.heap.size ≤ wd.heap.size) := ⟨by simp, (unhide kd).2.2.2⟩
        generalize wd.alloc (.cells #[.int .i64 0, .int .i64 0, .slice none 0 0] 24) = w5 at *
        generalize wd.heap.size = ob at *
        have hHeld := (unhide CH _ (unhide k5)).1
        refine hK _ _ (fun _ => hHeld) ?_
        clear hK K
        (try simp only [Act.put, List.setIfInBounds_toArray, List.set_cons_zero, List.set_cons_succ])
        refine step_G (i := 4) (by kernel_rfl) (fun K hK => ?_)
        clear hHeld
        refine wpOp_of rfl rfl ?_
        unfold Oper.wp
        go_simp
        have OM : Hid ((w5.alloc (.cells #[] 3)).ownsRow w4.heap.size 3 1 (.slice (some ⟨w5.heap.size, 0, none⟩) 0 0) 0 []) := World.ownsRow_made (base := w4.heap.size) (e := 3) (size := 1) w5 #[] 0 (unhide k5).2.2.2 (by unfold maxLen; omega) (by simp)
        have lmd : Hid (w5.heap.size < (w5.alloc (.cells #[] 3)).heap.size ∧ w4.heap.size ≤ w5.heap.size) := ⟨by simp, (unhide k5).2.2.2⟩
        have k6 : Hid (Kp w4 (w5.alloc (.cells #[] 3))) := (unhide k5).alloc _ _
        have ZB := hide (Blk.kp (unhide ZB) ((Kp.refl w5).alloc #[] 3))
        generalize w5.alloc (.cells #[] 3) = w6 at *
        generalize w5.heap.size = md at *
        have hHeld := (unhide CH _ (unhide k6)).1
        refine hK _ _ (fun _ => hHeld) ?_
        clear hK K
        (try simp only [Act.put, List.setIfInBounds_toArray, List.set_cons_zero, List.set_cons_succ])
        refine step_G (i := 7) (by kernel_rfl) (fun K hK => ?_)
        clear hHeld
        refine wpOp_of rfl rfl ?_
        refine wp_append_at (.tmp 27) (.tmp 29) rfl w4.heap.size (.slice (some ⟨md, 0, none⟩) 0 0) 0 [] (by first | rfl | simp [Act.eval, Act.put]) (unhide OM) ⟨bx, ox, none⟩ nn xc ((List.range nn).map fun i => Value.int .i64 (Zk i)) (by first | rfl | simp [Act.eval, Act.put]) (by simp) (news_row (unhide CH _ (unhide k6)).2.1) (cells_one _ _) (by have := unhide HN; omega) (by omega) (unhide k6).2.2.2 ?_
        intro v' w7 hown hgrow hat
        rw [Nat.zero_add, List.nil_append] at hown
        obtain ⟨B, cp, rfl, hcp, hbB, own⟩ := owns_ownC (unhide HN).2.2.2.1 hown
        have HBO := hide (ap_at hat)
        have k7 : Hid (Kp w4 w7) := Kp.by (unhide k6) hgrow (fun k e => ((unhide OM).lt k e).1)
        have OWN := hide (And.intro own (And.intro hcp hbB))
        have ZB := hide (Blk.by (unhide ZB) hgrow (by intro e; have e : some ob = some md := e; cases e; have := unhide lmd; have := unhide lob; omega))
        clear hown hgrow hat own hcp hbB OM
        have hHeld := (unhide CH _ (unhide k7)).1
        refine hK _ _ (fun _ => hHeld) ?_
        clear hK K
        (try simp only [Act.put, List.setIfInBounds_toArray, List.set_cons_zero, List.set_cons_succ])
        refine take_G (i := 8) (d := 31) (v := .agg #[.int .i64 r, .int .i64 c, .slice (some ⟨B, 0, none⟩) nn cp]) rfl rfl (by kernel_rfl) (by kernel_rfl) (by kernel_rfl) (by kernel_rfl) (by kernel_rfl) (Or.inl ⟨by rfl, ?_⟩) hHeld ?_
        · intro wS hSw
          obtain ⟨z0, z1, z2⟩ := hSw
          clear hHeld
          go_simp
          (try (intro hz; omega))
        (try simp only [Act.put, List.setIfInBounds_toArray, List.set_cons_zero, List.set_cons_succ])
        clear hHeld
        have HD : Hid (DAt w R r c nn ob c0 n0 Zk false 0 (some ⟨B, 0, none⟩) cp (((w7.setCell ⟨ob, 0, none⟩ (.int .i64 r)).setCell ⟨ob, 1, none⟩ (.int .i64 c)).setCell ⟨ob, 2, none⟩ (.slice (some ⟨B, 0, none⟩) nn cp))) := by
          obtain ⟨_, _, q1, q2, q3, q4⟩ := unhide CH _ (unhide k7)
          have := unhide lob
          have := (unhide OWN).2.2
          exact DAt.start q1 (unhide HR) (unhide ZB) (unhide OWN).1 (by omega) (by have := unhide HBO; have := unhide lmd; have := unhide lob; omega) (unhide OWN).2.1 q2 (by omega) q3
        have z3 : w7.cell? ⟨ob, 0, none⟩ = some (.int .i64 0) := Blk.cell (unhide ZB) 0
        have z4 : w7.cell? ⟨ob, 1, none⟩ = some (.int .i64 0) := Blk.cell (unhide ZB) 1
        have z5 : w7.cell? ⟨ob, 2, none⟩ = some (.slice none 0 0) := Blk.cell (unhide ZB) 2
        have zf := Blk.free (unhide ZB)
        refine step_G (i := 10) (by kernel_rfl) (fun K hK => ?_)
        refine wpOp_of rfl rfl ?_
        unfold Oper.wp
        go_simp
        refine hK _ _ (fun h => absurd rfl h) ?_
        clear hK K
        (try simp only [Act.put, List.setIfInBounds_toArray, List.set_cons_zero, List.set_cons_succ])
        refine done_G (by kernel_rfl) ?_
        refine noPanic_normalE ?_
        go_wp2_with fail
        go_meet
        exact ⟨ob, rfl, B, cp, HD⟩
  case rest =>
    obtain ⟨ob, rfl, B0, cp0, HD⟩ := hcut
    clear CH
    go_wp2_with fail
    simp only [wq2]
    clear wq2
    go_loopw [10] (fun i wr => ∃ (j : Nat) (x : Int), j ≤ k ∧ i = .int .i64 x ∧ Hid (x = (k : Int) - 1 - j) ∧ ∃ ao cp, Hid (DAt w R r c nn ob c0 n0 (horZ Zs k t j) (horC Zs k t nn j) ((j : Int) * 1000) ao cp wr)) (fun i _ => (intOf i + 1).toNat)
    case atStart => exact ⟨0, x0, Nat.zero_le _, rfl, (by have := unhide HX0; show x0 = _; omega), _, _, by show Hid (DAt w R r c nn ob c0 n0 (Zs k) false ((0 : Nat) * 1000) _ _ _); rw [unhide EZ]; exact HD⟩
    case round =>
      obtain ⟨j, x, hj, rfl, HXJ, ao1, cp1, HJ⟩ := hrel
      clear HD
      by_cases hlt : j < k
      · obtain ⟨m, hm⟩ : ∃ m : Nat, x = (m : Int) := ⟨k - 1 - j, by have := unhide HXJ; omega⟩
        subst hm
        have hmk : Hid (m = k - (j + 1) ∧ m ≤ k) := by have := unhide HXJ; exact ⟨by omega, by omega⟩
        obtain ⟨x', hx'⟩ : ∃ x' : Int, x' = (m : Int) - 1 := ⟨_, rfl⟩
        have wm : wrap64 ((m : Int) - 1) = x' := by have := (unhide HN).2.2.2.2.2.1; have := (unhide hmk).2; unfold wrap64; omega
        have HX' : Hid (x' = (k : Int) - 1 - ((j + 1 : Nat) : Int) ∧ x' = (m : Int) - 1) := by have := unhide HXJ; exact ⟨by omega, hx'⟩
        obtain ⟨bm, om, mc, hzm, hbm, m0, m1, m2, hIm⟩ := unhide XR m (unhide hmk).2
        have hN := unhide HN
        have y0 := Blk.cell (unhide HJ).1 0
        have y1 := Blk.cell (unhide HJ).1 1
        have y2 := Blk.cell (unhide HJ).1 2
        have y0 : wr.cell? ⟨ob, 0, none⟩ = some (.int .i64 r) := y0
        have y1 : wr.cell? ⟨ob, 1, none⟩ = some (.int .i64 c) := y1
        have y2 : wr.cell? ⟨ob, 2, none⟩ = some (.slice ao1 nn cp1) := y2
        have SC : Hid (∃ cnt, (n0 ≤ cnt ∧ cnt ≤ n0 + (j : Int) * 1000 ∧ j ≤ 24) ∧ Calls Tryz.prog 40 #[.pointer (some ⟨R, 0, none⟩), .agg #[.int .i64 r, .int .i64 c, .slice ao1 nn cp1], .int .i64 t] wr fun e w' => DocP r c nn (fun p => m2N (horZ Zs k t j p) t) 0 (fun w' => RC R (c0 || horC Zs k t nn j || orC (fun p => m2C (horZ Zs k t j p) t) nn) (cnt + 2 * nn) w' ∧ Mk R wr w') wr e w') := by
          obtain ⟨d1, d2, d3, d4, d5, ⟨cnt, q1, q2, hu⟩, d7, d8, d9, d10⟩ := unhide HJ
          have hI : ∀ p, p < nn → I64 (Zs k p) := by
            obtain ⟨_, _, _, _, _, _, _, _, hh⟩ := unhide XR k (Nat.le_refl _)
            exact hh
          exact ⟨cnt, ⟨q1, q2, by omega⟩, refScale_ok R _ cnt r c t hN.2.2.2.2.2.2.2.1 ao1 nn cp1 _ (unhide OK) ⟨by omega, by omega⟩ (hide (fun i hi => horZ_I64 Zs k t nn hI j i hi)) wr hu d2 (d3 R (unhide HR))⟩
        have MC : Hid ((∀ p, p < nn → w.cell? ⟨bm, om + p, none⟩ = some (.int .i64 (Zs m p))) ∧ bm ≠ R ∧ w.cell? ⟨b, o + m * 3, none⟩ = some (.int .i64 r) ∧ w.cell? ⟨b, o + m * 3 + 1, none⟩ = some (.int .i64 c) ∧ w.cell? ⟨b, o + m * 3 + 2, none⟩ = some (.slice (some ⟨bm, om, none⟩) nn mc) ∧ (∀ p, p < nn → I64 (Zs m p))) := ⟨hzm, hbm, m0, m1, m2, hIm⟩
        obtain ⟨cnt, hcnt, sc⟩ := unhide SC
        have HC := hide hcnt
        have SC2 := hide sc
        have i0 : (0 : Int) ≤ (m : Int) := Int.natCast_nonneg _
        have i1 : (m : Int) < (n : Int) := by have := (unhide hmk).2; omega
        have HLT : Hid (j + 1 ≤ k) := hlt
        clear hzm hbm m0 m1 m2 hIm hN hx' hcnt sc SC HXJ hlt hj
        go_wp2_with fail
        refine (unhide SC2).mono ?_
        rintro e w2 ⟨a2, p2, rfl, hp2, row2, off2, hu2, hm2⟩
        have W2 := hide (And.intro hp2 (And.intro row2 (And.intro off2 (And.intro hu2 hm2))))
        clear hp2 row2 off2 hu2 hm2 SC2 y0 y1 y2
        go_wp2_with fail
        have xbl : Hid (Blk w2.heap.size #[.int .i64 r, .int .i64 c, .slice a2 nn p2] 24 (w2.alloc (.cells #[.int .i64 r, .int .i64 c, .slice a2 nn p2] 24))) := Blk.new w2 _ _
        have ka : Hid (Kp w2 (w2.alloc (.cells #[.int .i64 r, .int .i64 c, .slice a2 nn p2] 24))) := (Kp.refl _).alloc _ _
        generalize w2.alloc (.cells #[.int .i64 r, .int .i64 c, .slice a2 nn p2] 24) = w3 at *
        have HX : Hid (w2.heap.size ≠ R ∧ b ≠ R) := ⟨by have := (unhide W2).2.2.2.2.2.2.2; have := (unhide HJ).2.2.2.2.2.2.2.2.1.2.2.2; have := unhide HR; omega, unhide HB⟩
        have HX3 : Hid (w2.heap.size ≠ ob ∧ b ≠ ob) := by
          have q1 := Blk.lt (unhide HJ).1
          have q2 := (unhide W2).2.2.2.2.2.2.2
          have q3 := heap_gt (unhide MC).2.2.1
          have q4 := (unhide HJ).2.2.2.2.2.2.2.1
          exact ⟨by omega, by omega⟩
        have HJ1 : Hid (j + 1 ≤ k) := unhide HLT
        have M3 : Hid (Mk R wr w3) := (unhide W2).2.2.2.2.trans (Mk.kp (unhide ka))
        have SU : Hid (∀ W, Kp w3 W → Calls Tryz.prog 41 #[.pointer (some ⟨R, 0, none⟩), .agg #[.int .i64 r, .int .i64 c, .slice a2 nn p2], .agg #[.int .i64 r, .int .i64 c, .slice (some ⟨bm, om, none⟩) nn mc]] W fun e w' => DocP r c nn (fun p => s2N (m2N (horZ Zs k t j p) t) (Zs m p)) 0 (fun w' => RC R (c0 || horC Zs k t nn j || orC (fun p => m2C (horZ Zs k t j p) t) nn || orC (fun p => s2C (m2N (horZ Zs k t j p) t) (Zs m p)) nn) (cnt + 2 * nn + 2 * nn) w' ∧ Mk R W w') W e w') := fun W kW => by
          obtain ⟨hp2, row2, off2, hu2, hm2⟩ := unhide W2
          obtain ⟨hzm, hbm, _, _, _, hIm⟩ := unhide MC
          have hN := unhide HN
          have hC := unhide HC
          have kk := (unhide ka).trans kW
          have mW : Mk R w W := ((unhide HJ).2.2.2.2.2.2.2.2.1.trans hm2).trans (Mk.kp kk)
          exact refSum_ok R _ (cnt + 2 * nn) r c a2 (some ⟨bm, om, none⟩) nn p2 mc _ _ (unhide OK) ⟨by omega, by omega⟩ (hide (fun i hi => m2N_I64 _ _)) (hide hIm) W (Blk.kp hu2 kk) (row2.kp kk) (off2 R (by have := (unhide HJ).2.2.2.2.2.2.2.2.1.2.2.2; have := unhide HR; omega)) (Or.inr ⟨bm, om, rfl, fun i hi => mW.cell (hzm i hi) hbm⟩) (fun _ a ha => by cases ha; exact hbm)
        have SS : Hid (∀ w5 a5 p5, nn ≤ p5 → Row w5 a5 nn (fun p => s2N (m2N (horZ Zs k t j p) t) (Zs m p)) → (∀ U, U < w3.heap.size → Off U nn a5) → RC R (c0 || horC Zs k t nn j || orC (fun p => m2C (horZ Zs k t j p) t) nn || orC (fun p => s2C (m2N (horZ Zs k t j p) t) (Zs m p)) nn) (cnt + 2 * nn + 2 * nn) w5 → Mk R w3 w5 →
            Blk ob #[.int .i64 r, .int .i64 c, .slice ao1 nn cp1] 24 w5 ∧ Hid (DAt w R r c nn ob c0 n0 (horZ Zs k t (j + 1)) (horC Zs k t nn (j + 1)) (((j + 1 : Nat) : Int) * 1000) a5 p5 (((w5.setCell ⟨ob, 0, none⟩ (.int .i64 r)).setCell ⟨ob, 1, none⟩ (.int .i64 c)).setCell ⟨ob, 2, none⟩ (.slice a5 nn p5)))) := fun w5 a5 p5 hp5 row5 off5 hu5 hm5 => by
          have hN := unhide HN
          have hC := unhide HC
          have e1 : horZ Zs k t (j + 1) = fun p => s2N (m2N (horZ Zs k t j p) t) (Zs m p) := by
            show hoZ _ (Zs (k - (j + 1))) t = _
            rw [← (unhide hmk).1]
            rfl
          have e2 : (c0 || horC Zs k t nn (j + 1)) = (c0 || horC Zs k t nn j || orC (fun p => m2C (horZ Zs k t j p) t) nn || orC (fun p => s2C (m2N (horZ Zs k t j p) t) (Zs m p)) nn) := by
            show (c0 || (horC Zs k t nn j || (orC _ nn || orC (fun p => s2C _ (Zs (k - (j + 1)) p)) nn))) = _
            rw [← (unhide hmk).1]
            simp only [Bool.or_assoc]
          rw [e1]
          rw [← e2] at hu5
          have mm : Mk R wr w5 := (unhide M3).trans hm5
          have lw : wr.heap.size ≤ w3.heap.size := (unhide M3).2.2.2
          have := (unhide HJ).step (unhide HR) mm hu5 (by omega) (d' := ((j + 1 : Nat) : Int) * 1000) (by omega) row5 (fun U hU => off5 U (by omega)) hp5
          exact ⟨this.1, this.2⟩
        have HHeld : Hid ((fun w' => w'.cell? ⟨w2.heap.size, 0, none⟩ = some (.int .i64 r) ∧ w'.cell? ⟨w2.heap.size, 1, none⟩ = some (.int .i64 c) ∧ w'.cell? ⟨w2.heap.size, 2, none⟩ = some (.slice a2 nn p2) ∧ w'.cell? ⟨b, o + m * 3, none⟩ = some (.int .i64 r) ∧ w'.cell? ⟨b, o + m * 3 + 1, none⟩ = some (.int .i64 c) ∧ w'.cell? ⟨b, o + m * 3 + 2, none⟩ = some (.slice (some ⟨bm, om, none⟩) nn mc)) w3.drew) := by
          have mW : Mk R w w3 := (unhide HJ).2.2.2.2.2.2.2.2.1.trans (unhide M3)
          obtain ⟨_, _, q0, q1, q2, _⟩ := unhide MC
          exact ⟨Blk.cell (unhide xbl) 0, Blk.cell (unhide xbl) 1, Blk.cell (unhide xbl) 2, mW.cell q0 (unhide HB), mW.cell q1 (unhide HB), mW.cell q2 (unhide HB)⟩
        generalize w2.heap.size = xb at *
        clear W2 ka M3 MC HC xbl hmk HJ
        generalize hma : (some ⟨bm, om, none⟩ : Option Addr) = ma at *
        refine wp_region_noPanic ?_
        refine wp_region_held_drew (S := fun w' => w'.cell? ⟨xb, 0, none⟩ = some (.int .i64 r) ∧ w'.cell? ⟨xb, 1, none⟩ = some (.int .i64 c) ∧ w'.cell? ⟨xb, 2, none⟩ = some (.slice a2 nn p2) ∧ w'.cell? ⟨b, o + m * 3, none⟩ = some (.int .i64 r) ∧ w'.cell? ⟨b, o + m * 3 + 1, none⟩ = some (.int .i64 c) ∧ w'.cell? ⟨b, o + m * 3 + 2, none⟩ = some (.slice ma nn mc)) (by kernel_rfl) (unhide HHeld) (fun hHeld => ?_)
        clear HHeld
        refine take_slotP (i := 0) (d := 47) (v := .pointer (some ⟨R, 0, none⟩)) rfl rfl (by kernel_rfl) (by kernel_rfl) (by kernel_rfl) (fun _ _ _ h => h) (Or.inl ⟨by rfl, ?_⟩) hHeld ?_
        · intro wS hSw
          obtain ⟨z0, z1, z2, z3, z4, z5⟩ := hSw
          clear hHeld
          go_simp
          (try (intro hz; omega))
        (try simp only [Act.put, List.setIfInBounds_toArray, List.set_cons_zero, List.set_cons_succ])
        refine take_slotP (i := 1) (d := 48) (v := .agg #[.int .i64 r, .int .i64 c, .slice a2 nn p2]) rfl rfl (by kernel_rfl) (by kernel_rfl) (by kernel_rfl) (fun _ _ _ h => h) (Or.inl ⟨by rfl, ?_⟩) hHeld ?_
        · intro wS hSw
          obtain ⟨z0, z1, z2, z3, z4, z5⟩ := hSw
          clear hHeld
          go_simp
          (try (intro hz; omega))
        (try simp only [Act.put, List.setIfInBounds_toArray, List.set_cons_zero, List.set_cons_succ])
        refine take_slotP (i := 2) (d := 49) (v := .slice (some ⟨b, o, none⟩) n cap) rfl rfl (by kernel_rfl) (by kernel_rfl) (by kernel_rfl) (fun _ _ _ h => h) (Or.inl ⟨by rfl, ?_⟩) hHeld ?_
        · intro wS hSw
          obtain ⟨z0, z1, z2, z3, z4, z5⟩ := hSw
          clear hHeld
          go_simp
          (try (intro hz; omega))
        (try simp only [Act.put, List.setIfInBounds_toArray, List.set_cons_zero, List.set_cons_succ])
        refine take_slotP (i := 3) (d := 50) (v := .int .i64 (m : Int)) rfl rfl (by kernel_rfl) (by kernel_rfl) (by kernel_rfl) (fun _ _ _ h => h) (Or.inl ⟨by rfl, ?_⟩) hHeld ?_
        · intro wS hSw
          obtain ⟨z0, z1, z2, z3, z4, z5⟩ := hSw
          clear hHeld
          go_simp
          (try (intro hz; omega))
        (try simp only [Act.put, List.setIfInBounds_toArray, List.set_cons_zero, List.set_cons_succ])
        refine take_slotP (i := 4) (d := 51) (v := .pointer (some ⟨b, o + m * 3, none⟩)) rfl rfl (by kernel_rfl) (by kernel_rfl) (by kernel_rfl) (fun _ _ _ h => h) (Or.inl ⟨by rfl, ?_⟩) hHeld ?_
        · intro wS hSw
          obtain ⟨z0, z1, z2, z3, z4, z5⟩ := hSw
          clear hHeld
          go_simp
          (try (intro hz; omega))
        (try simp only [Act.put, List.setIfInBounds_toArray, List.set_cons_zero, List.set_cons_succ])
        refine take_slotP (i := 5) (d := 52) (v := .agg #[.int .i64 r, .int .i64 c, .slice ma nn mc]) rfl rfl (by kernel_rfl) (by kernel_rfl) (by kernel_rfl) (fun _ _ _ h => h) (Or.inl ⟨by rfl, ?_⟩) hHeld ?_
        · intro wS hSw
          obtain ⟨z0, z1, z2, z3, z4, z5⟩ := hSw
          clear hHeld
          go_simp
          (try (intro hz; omega))
        (try simp only [Act.put, List.setIfInBounds_toArray, List.set_cons_zero, List.set_cons_succ])
        refine wpAnyH_ready (rs := [6]) (by kernel_rfl) (by simp) ?_
        refine AllReadyH.cons rfl (fun K hK => ?_) AllReadyH.nil
        go_simp
        refine (unhide SU _ (show Kp w3 w3.drew from Kp.refl _)).mono ?_
        rintro e w5 ⟨a5, p5, rfl, hp5, row5, off5, hu5, hm5⟩
        have hHeld : (fun w' => w'.cell? ⟨xb, 0, none⟩ = some (.int .i64 r) ∧ w'.cell? ⟨xb, 1, none⟩ = some (.int .i64 c) ∧ w'.cell? ⟨xb, 2, none⟩ = some (.slice a2 nn p2) ∧ w'.cell? ⟨b, o + m * 3, none⟩ = some (.int .i64 r) ∧ w'.cell? ⟨b, o + m * 3 + 1, none⟩ = some (.int .i64 c) ∧ w'.cell? ⟨b, o + m * 3 + 2, none⟩ = some (.slice ma nn mc)) w5 := by
          obtain ⟨q0, q1, q2, q3, q4, q5⟩ := hHeld
          have m5 : Mk R w3 w5 := hm5
          have n1 := unhide HX
          exact ⟨m5.cell q0 n1.1, m5.cell q1 n1.1, m5.cell q2 n1.1, m5.cell q3 n1.2, m5.cell q4 n1.2, m5.cell q5 n1.2⟩
        have ST := hide (unhide SS w5 a5 p5 hp5 row5 off5 hu5 (show Mk R w3 w5 from hm5))
        refine hK.out _ _ hHeld (fun hHeld => ?_)
        clear hK K hp5 row5 off5 hu5 hm5 SU SS
        (try simp only [Act.put, List.setIfInBounds_toArray, List.set_cons_zero, List.set_cons_succ])
        refine take_slotP (i := 7) (d := 46) (v := .tuple #[.agg #[.int .i64 r, .int .i64 c, .slice a5 nn p5], .int .i64 0]) rfl rfl (by kernel_rfl) (by kernel_rfl) (by kernel_rfl) (fun _ _ _ h => h) (Or.inl ⟨by rfl, ?_⟩) hHeld ?_
        · intro wS hSw
          obtain ⟨z0, z1, z2, z3, z4, z5⟩ := hSw
          clear hHeld
          go_simp
          (try (intro hz; omega))
        (try simp only [Act.put, List.setIfInBounds_toArray, List.set_cons_zero, List.set_cons_succ])
        refine take_slotP (i := 8) (d := 54) (v := .agg #[.int .i64 r, .int .i64 c, .slice a5 nn p5]) rfl rfl (by kernel_rfl) (by kernel_rfl) (by kernel_rfl) (fun _ _ _ h => h) (Or.inl ⟨by rfl, ?_⟩) hHeld ?_
        · intro wS hSw
          obtain ⟨z0, z1, z2, z3, z4, z5⟩ := hSw
          clear hHeld
          go_simp
          (try (intro hz; omega))
        (try simp only [Act.put, List.setIfInBounds_toArray, List.set_cons_zero, List.set_cons_succ])
        refine take_slotP (i := 9) (d := 55) (v := .int .i64 0) rfl rfl (by kernel_rfl) (by kernel_rfl) (by kernel_rfl) (fun _ _ _ h => h) (Or.inl ⟨by rfl, ?_⟩) hHeld ?_
        · intro wS hSw
          obtain ⟨z0, z1, z2, z3, z4, z5⟩ := hSw
          clear hHeld
          go_simp
          (try (intro hz; omega))
        (try simp only [Act.put, List.setIfInBounds_toArray, List.set_cons_zero, List.set_cons_succ])
        have z0 : w5.cell? ⟨ob, 0, none⟩ = some (.int .i64 r) := Blk.cell (unhide ST).1 0
        have z1 : w5.cell? ⟨ob, 1, none⟩ = some (.int .i64 c) := Blk.cell (unhide ST).1 1
        have z2 : w5.cell? ⟨ob, 2, none⟩ = some (.slice ao1 nn cp1) := Blk.cell (unhide ST).1 2
        have zf := Blk.free (unhide ST).1
        have SD := hide (unhide ST).2
        have hHeld : (fun w' => w'.cell? ⟨xb, 0, none⟩ = some (.int .i64 r) ∧ w'.cell? ⟨xb, 1, none⟩ = some (.int .i64 c) ∧ w'.cell? ⟨xb, 2, none⟩ = some (.slice a2 nn p2) ∧ w'.cell? ⟨b, o + m * 3, none⟩ = some (.int .i64 r) ∧ w'.cell? ⟨b, o + m * 3 + 1, none⟩ = some (.int .i64 c) ∧ w'.cell? ⟨b, o + m * 3 + 2, none⟩ = some (.slice ma nn mc)) (((w5.setCell ⟨ob, 0, none⟩ (.int .i64 r)).setCell ⟨ob, 1, none⟩ (.int .i64 c)).setCell ⟨ob, 2, none⟩ (.slice a5 nn p5)) := by
          have P := Mk.of (putM (unhide ST).1 (.int .i64 r) (.int .i64 c) (.slice a5 nn p5)).2
          obtain ⟨q0, q1, q2, q3, q4, q5⟩ := hHeld
          have n1 := unhide HX3
          exact ⟨P.cell q0 n1.1, P.cell q1 n1.1, P.cell q2 n1.1, P.cell q3 n1.2, P.cell q4 n1.2, P.cell q5 n1.2⟩
        have HS3 := hide hHeld
        clear ST hHeld
        refine wpAnyH_ready (rs := [10]) (by kernel_rfl) (by simp) ?_
        refine AllReadyH.cons rfl (fun K hK => ?_) AllReadyH.nil
        go_simp
        refine hK.out _ _ (unhide HS3) (fun hHeld => ?_)
        clear HS3 hHeld
        clear hK K
        (try simp only [Act.put, List.setIfInBounds_toArray, List.set_cons_zero, List.set_cons_succ])
        refine wpAnyH_done (by kernel_rfl) (NoPanic.normal ?_) _
        clear z0 z1 z2 zf
        generalize (((w5.setCell ⟨ob, 0, none⟩ (.int .i64 r)).setCell ⟨ob, 1, none⟩ (.int .i64 c)).setCell ⟨ob, 2, none⟩ (.slice a5 nn p5)) = w6 at *
        go_wp2
        go_roundw
        case rel => exact ⟨j + 1, x', unhide HJ1, by first | rfl | rw [wm], (by have := unhide HX'; show x' = _; omega), a5, p5, unhide SD⟩
        case measure => have := unhide HX'; (try rw [wm]); simp [intOf]; omega
      · obtain rfl : j = k := by omega
        obtain rfl : x = -1 := by have := unhide HXJ; omega
        have y0 : wr.cell? ⟨ob, 0, none⟩ = some (.int .i64 r) := Blk.cell (unhide HJ).1 0
        have y1 : wr.cell? ⟨ob, 1, none⟩ = some (.int .i64 c) := Blk.cell (unhide HJ).1 1
        have y2 : wr.cell? ⟨ob, 2, none⟩ = some (.slice ao1 nn cp1) := Blk.cell (unhide HJ).1 2
        obtain ⟨d1, d2, d3, d4, d5, ⟨cnt, q1, q2, hu⟩, d7, d8, d9, d10⟩ := unhide HJ
        have e0 : wr.cell? ⟨w.heap.size, 0, none⟩ = some (.int .i64 0) := Blk.cell d7 0
        have e1 : wr.cell? ⟨w.heap.size, 1, none⟩ = some (.int .i64 0) := Blk.cell d7 1
        have e2 : wr.cell? ⟨w.heap.size, 2, none⟩ = some (.slice none 0 0) := Blk.cell d7 2
        have f := Blk.free d7
        have hn := (unhide HN).2.2.2.2.2.1
        have RR : Hid (Row wr ao1 nn (horZ Zs j t j) ∧ (∀ U, U < w.heap.size → Off U nn ao1) ∧ nn ≤ cp1 ∧ (∃ cnt, n0 ≤ cnt ∧ cnt ≤ n0 + 100000 ∧ RC R (c0 || horC Zs j t nn j) cnt wr) ∧ Blk w.heap.size #[.int .i64 0, .int .i64 0, .slice none 0 0] 24 wr ∧ Mk R w wr ∧ Off w.heap.size nn ao1) := ⟨d2, d3, d5, ⟨cnt, q1, by omega, hu⟩, d7, d9, d10⟩
        clear d1 d2 d3 d4 d5 q1 q2 hu d7 d8 d9 d10 HJ hn
        go_wp2
        obtain ⟨h1, h2, h3, ⟨cnt, q1, q2, hu⟩, h5, h6, h7⟩ := unhide RR
        have P := putM h5 (.int .i64 r) (.int .i64 c) (.slice ao1 nn cp1)
        generalize (((wr.setCell ⟨w.heap.size, 0, none⟩ (.int .i64 r)).setCell ⟨w.heap.size, 1, none⟩ (.int .i64 c)).setCell ⟨w.heap.size, 2, none⟩ (.slice ao1 nn cp1)) = wE at *
        have c0' : wE.cell? ⟨w.heap.size, 0, none⟩ = some (.int .i64 r) := Blk.cell P.1 0
        have c1' : wE.cell? ⟨w.heap.size, 1, none⟩ = some (.int .i64 c) := Blk.cell P.1 1
        have c2' : wE.cell? ⟨w.heap.size, 2, none⟩ = some (.slice ao1 nn cp1) := Blk.cell P.1 2
        refine bodyPost_ret (v := .tuple #[.agg #[.int .i64 r, .int .i64 c, .slice ao1 nn cp1], .int .i64 0]) (by simp [results, Tryz.results21, go_sem, c0', c1', c2']) rfl ?_
        exact ⟨ao1, cp1, rfl, h3, h1.mk (Mk.of P.2) h7, h2, ⟨cnt, q1, q2, Blk.keep hu P.2 (by have := unhide HR; omega)⟩, h6.new P.2 (by omega)⟩

set_option maxRecDepth 20000 in
set_option maxHeartbeats 4000000 in
theorem pRefAt_bad (R : Nat) (c0 : Bool) (n0 t : Int) (ao : Option Addr) (n cap : Nat) (X : Nat → MV) (Z : Nat → Int) (hl : n ≤ 9223372036854775807) (hb : ¬ okP n X) (w : World) (h : RC R c0 n0 w) (hm : Mats w ao n X) :
    Calls Tryz.prog 21 #[.pointer (some ⟨R, 0, none⟩), .slice ao n cap, .int .i64 t] w fun e w' => DocP 0 0 0 Z 3 (fun w' => RC R c0 n0 w' ∧ Mk R w w') w e w' := by
  have FI := hide (fun W (g : Grown w W) => pRefFine ao n cap X hl W (hm.grown g))
  rw [okPB_no hb] at FI
  have lR := Blk.lt h
  have G1 : Hid (Grown w (w.alloc (.cells #[.int .i64 0, .int .i64 0, .slice none 0 0] 24)) ∧ Blk w.heap.size #[.int .i64 0, .int .i64 0, .slice none 0 0] 24 (w.alloc (.cells #[.int .i64 0, .int .i64 0, .slice none 0 0] 24))) := ⟨(Grown.refl _).alloc _ _, Blk.new w _ _⟩
  have HU := hide (And.intro h lR)
  clear hm hb h lR hl
  go_enter Tryz.func21, Tryz.ntmps21
  go_wp2_with fail
  generalize w.alloc (.cells #[.int .i64 0, .int .i64 0, .slice none 0 0] 24) = w1 at *
  refine (unhide FI _ (unhide G1).1).mono ?_
  rintro e w2 ⟨rfl, g2⟩
  have B2 := Blk.grown (unhide G1).2 g2
  have GG := hide (And.intro (gtrans (unhide G1).1 g2) B2)
  have e0 : w2.cell? ⟨w.heap.size, 0, none⟩ = some (.int .i64 0) := Blk.cell B2 0
  have e1 : w2.cell? ⟨w.heap.size, 1, none⟩ = some (.int .i64 0) := Blk.cell B2 1
  have e2 : w2.cell? ⟨w.heap.size, 2, none⟩ = some (.slice none 0 0) := Blk.cell B2 2
  have f := Blk.free B2
  clear g2 G1 FI B2
  go_wp2
  have P := putM (unhide GG).2 (.int .i64 0) (.int .i64 0) (.slice none 0 0)
  generalize (((w2.setCell ⟨w.heap.size, 0, none⟩ (.int .i64 0)).setCell ⟨w.heap.size, 1, none⟩ (.int .i64 0)).setCell ⟨w.heap.size, 2, none⟩ (.slice none 0 0)) = wE at *
  have c0' : wE.cell? ⟨w.heap.size, 0, none⟩ = some (.int .i64 0) := Blk.cell P.1 0
  have c1' : wE.cell? ⟨w.heap.size, 1, none⟩ = some (.int .i64 0) := Blk.cell P.1 1
  have c2' : wE.cell? ⟨w.heap.size, 2, none⟩ = some (.slice none 0 0) := Blk.cell P.1 2
  refine bodyPost_ret (v := .tuple #[.agg #[.int .i64 0, .int .i64 0, .slice none 0 0], .int .i64 3]) (by simp [results, Tryz.results21, go_sem, c0', c1', c2']) rfl ?_
  exact ⟨none, 0, rfl, Nat.le_refl _, Or.inl rfl, fun U _ h0 => absurd h0 (Nat.lt_irrefl _), Blk.keep (Blk.grown (unhide HU).1 (unhide GG).1) P.2 (by have := (unhide HU).2; omega), (Mk.kp (Kp.of (unhide GG).1)).new P.2 (by omega)⟩

end Go.Proofs.YtopaakjildmjcaaGreat
