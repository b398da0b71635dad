/- The walks of TextPuts and TextGets: beside the document's answer. -/
import Derived.Test.YtnelkhmahmoclaaGreatDoorTextG
namespace Go.Proofs.YtnelkhmahmoclaaGreatDoor
open Go.RowKit Go.Proofs.Wd
set_option linter.unusedVariables false
set_option linter.unusedSimpArgs false
set_option maxRecDepth 10000

set_option maxHeartbeats 2000000 in
theorem lawTextPuts (a : Int) (ha : I64 a) (ao : Option Addr) (n cap : Nat) (Z : Nat → Int) (hn : n ≤ 9223372036854775807) (h0 : ao = none → n = 0 ∧ cap = 0) (hZ : Hid (∀ i, i < n → I64 (Z i))) (w : World) (hr : Row w ao n Z) :
    Calls Tryz.prog 3 #[.int .i64 a, .slice ao n cap] w fun e w' => e = .returned (.bool true) ∧ Kp w w' := by
  by_cases c : 40 < n
  · clear h0 hr
    go_enter Tryz.func3, Tryz.ntmps3
    go_wp2_with fail
    refine (lawAwake _).mono ?_
    rintro e w1 ⟨rfl, k1⟩
    go_wp2
    go_ret
    exact ⟨rfl, k1⟩
  · have HR := hide hr
    have P1 := hide (fun w => textPutT a ha w)
    have P2 := hide (fun w => refPutT a ha w)
    obtain ⟨S, hS⟩ : ∃ S : ByteArray, (⟨(putL a).toArray⟩ : ByteArray) = S := ⟨_, rfl⟩
    rw [hS] at P1 P2
    have L1 := hide (fun ao cap w h => textLineT ao n cap Z (by omega) hZ w h)
    have L2 := hide (fun w h => refLineT ao n cap Z (by omega) hZ w h)
    obtain ⟨T, hT⟩ : ∃ T : ByteArray, (⟨(lineL Z n).toArray⟩ : ByteArray) = T := ⟨_, rfl⟩
    rw [hT] at L1 L2
    have C1 := hide (kitCopy ao n cap Z (by omega) h0 w hr)
    clear hr hS hT h0 ha
    go_enter Tryz.func3, Tryz.ntmps3
    go_wp2_with fail
    refine (unhide C1).mono ?_
    rintro e w1 hp
    obtain ⟨ao1, cap1, rfl, r1, -, k1⟩ := hp
    have S1 : Hid (Row w1 ao1 n Z ∧ Kp w w1) := ⟨r1, k1⟩
    clear r1 k1 C1
    go_wp2_with fail
    refine (unhide P1 _).mono ?_
    rintro e w2 ⟨rfl, k2⟩
    have S2 : Hid (Row w2 ao1 n Z ∧ Kp w w2) := ⟨(unhide S1).1.kp k2, (unhide S1).2.trans k2⟩
    clear k2 S1
    go_wp2_with fail
    refine (unhide P2 _).mono ?_
    rintro e w3 ⟨rfl, g3⟩
    have S3 : Hid (Row w3 ao1 n Z ∧ Kp w w3) := ⟨(unhide S2).1.grown g3, (unhide S2).2.grown g3⟩
    clear g3 S2
    go_wp2_with fail
    refine (unhide L1 ao1 cap1 _ (unhide S3).1).mono ?_
    rintro e w4 ⟨rfl, k4⟩
    have S4 : Hid (Row w4 ao1 n Z ∧ Kp w w4) := ⟨(unhide S3).1.kp k4, (unhide S3).2.trans k4⟩
    clear k4 S3
    go_wp2_with fail
    refine (unhide L2 _ ((unhide HR).kp (unhide S4).2)).mono ?_
    rintro e w5 ⟨rfl, g5⟩
    have S5 : Hid (Row w5 ao1 n Z ∧ Kp w w5) := ⟨(unhide S4).1.grown g5, (unhide S4).2.grown g5⟩
    clear g5 S4
    go_wp2_with fail
    refine (kitSameQ ao1 ao n cap1 cap Z (by omega) _ (unhide S5).1 ((unhide HR).kp (unhide S5).2)).mono ?_
    rintro e w6 ⟨rfl, m, rfl⟩
    have S6 : Hid (Kp w (w5.drewN m)) := (unhide S5).2
    clear S5
    go_wp2_with fail
    refine (lawAwake _).mono ?_
    rintro e w7 ⟨rfl, k7⟩
    have K := hide ((unhide S6).trans k7)
    clear k7 S6
    go_wp2
    go_ret
    exact ⟨rfl, unhide K⟩

theorem Free.from {W W' w : World} {ao : Option Addr} {n : Nat} (h : Free W' w ao n) (k : Kp W W') : Free W w ao n := by
  rcases h with h | ⟨b, o, h1, h2, h3⟩
  · exact Or.inl h
  · exact Or.inr ⟨b, o, h1, Nat.le_trans k.2.2.2 h2, h3⟩

theorem Free.kp {W w w' : World} {ao : Option Addr} {n : Nat} {Z : Nat → Int} (h : Free W w ao n) (k : Kp w w') (r : Row w ao n Z) : Free W w' ao n := by
  rcases h with h | ⟨b, o, h1, h2, h3⟩
  · exact Or.inl h
  · refine Or.inr ⟨b, o, h1, h2, fun i hi => ?_⟩
    obtain ⟨b', o', e, hc⟩ := r.at hi
    rw [h1] at e
    cases e
    rw [← h3 i hi]
    exact World.frozen?_of_block (k.2.2.1 b (heap_gt hc))

set_option maxHeartbeats 1000000 in
theorem kitOver (W0 : World) (ao : Option Addr) (n cap : Nat) (Z : Nat → Int) (hn : n ≤ 1000000) (w : World) (h0 : Kp W0 w) (hr : Row w ao n Z) (hf : Free W0 w ao n) :
    Calls Tryz.prog 20 #[.slice ao n cap] w fun e w' => e = .returned (.tuple #[]) ∧ Kp W0 w' := by
  have H0 := hide h0
  have HR := hide (And.intro hr hf)
  clear h0 hr hf
  go_enter Tryz.func20, Tryz.ntmps20
  go_wp2
  go_loopw [2] (fun i wr => ∃ k : Nat, k ≤ n ∧ i = .int .i64 k ∧ Hid (Kp W0 wr ∧ (∃ Y, Row wr ao n Y) ∧ Free W0 wr ao n)) (fun i _ => n - (intOf i).toNat)
  case atStart => exact ⟨0, Nat.zero_le _, rfl, unhide H0, ⟨Z, (unhide HR).1⟩, (unhide HR).2⟩
  case round =>
    obtain ⟨k, hk, rfl, HI⟩ := hrel
    by_cases hlt : k < n
    · obtain ⟨i1, ⟨Y, i2⟩, i3⟩ := unhide HI
      obtain ⟨b, o, e1, hc⟩ := i2.at hlt
      subst e1
      have hfz : wr.frozen? ⟨b, o + k, none⟩ = false := by
        rcases i3 with i3 | ⟨b', o', e2, _, i3⟩
        · omega
        · cases e2; exact i3 k hlt
      have hb : W0.heap.size ≤ b := by
        rcases i3 with i3 | ⟨b', o', e2, i4, _⟩
        · omega
        · cases e2; exact i4
      have R : Hid (Kp W0 (wr.setCell ⟨b, o + k, none⟩ (.int .i64 (-77))) ∧ (∃ Y, Row (wr.setCell ⟨b, o + k, none⟩ (.int .i64 (-77))) (some ⟨b, o, none⟩) n Y) ∧ Free W0 (wr.setCell ⟨b, o + k, none⟩ (.int .i64 (-77))) (some ⟨b, o, none⟩) n) := by
        refine ⟨i1.mod ((Mod.refl _ _).setCell _ _) hb, ⟨fun i => if i = k then -77 else Y i, ?_⟩, i3.set _ _⟩
        rcases i2 with i2 | ⟨b', o', e2, i2⟩
        · omega
        · cases e2
          refine Or.inr ⟨b, o, rfl, fun i hi => ?_⟩
          by_cases e : i = k
          · subst e
            rw [World.cell?_setCell_same _ _ _ hc]
            simp
          · rw [World.cell?_setCell_other _ _ _ _ (by simp <;> omega), i2 i hi]
            simp [e]
      clear i1 i2 i3 HI
      go_wp2
      go_roundw
      case rel => exact ⟨k + 1, by omega, by go_num, R⟩
      case measure => simp [intOf]; omega
    · obtain rfl : n = k := by omega
      go_wp2
      exact bodyPost_end (v := .tuple #[]) (by simp [results, Tryz.results20, go_sem]) rfl ⟨rfl, (unhide HI).1⟩

set_option maxRecDepth 20000 in
set_option maxHeartbeats 4000000 in
theorem lawTextGets (s line : ByteArray) (hs : s.size ≤ 9223372036854775807) (hl : line.size ≤ 9223372036854775807) (w : World) :
    Calls Tryz.prog 4 #[.string s, .string line] w fun e w' => e = .returned (.bool true) ∧ Kp w w' := by
  by_cases c1 : 400 < s.size
  · go_enter Tryz.func4, Tryz.ntmps4
    go_wp2_with fail
    refine (lawAwake _).mono ?_
    rintro e w1 ⟨rfl, k1⟩
    go_wp2
    go_ret
    exact ⟨rfl, k1⟩
  by_cases c2 : 400 < line.size
  · go_enter Tryz.func4, Tryz.ntmps4
    go_wp2_with fail
    refine (lawAwake _).mono ?_
    rintro e w1 ⟨rfl, k1⟩
    go_wp2
    go_ret
    exact ⟨rfl, k1⟩
  have G1 := hide (fun w => textGetT s (by omega) w)
  have G2 := hide (fun w => refGetT s (by omega) w)
  generalize getR s.data.toList = x at *
  obtain ⟨x1, x2⟩ := x
  simp only at G1 G2
  have L1 := hide (fun w => textListT line (by omega) w)
  have L2 := hide (fun w => refListT line (by omega) w)
  have RL : (listR line.data.toList).1.length ≤ 1000000 := by
    have := listR_len line.data.toList
    rw [len_list] at this
    omega
  generalize listR line.data.toList = R at *
  go_enter Tryz.func4, Tryz.ntmps4
  go_wp2_with fail
  refine (unhide G1 _).mono ?_
  rintro e w1 ⟨rfl, k1⟩
  go_wp2_with fail
  refine (unhide G2 _).mono ?_
  rintro e w2 ⟨rfl, k2⟩
  have K2 := hide (k1.trans k2)
  clear k1 k2 G1 G2
  go_wp2_with fail
  refine (unhide L1 _).mono ?_
  rintro e w3 hp
  obtain ⟨ao1, cap1, rfl, r1, f1, k3⟩ := hp
  have S3 : Hid (Row w3 ao1 R.1.length (fun i => R.1.getD i 0) ∧ Free w w3 ao1 R.1.length ∧ Kp w w3) := ⟨r1, f1.from (unhide K2), (unhide K2).trans k3⟩
  clear r1 f1 k3 K2
  obtain ⟨Rl, Re, Ra⟩ := R
  simp only at S3 RL
  go_wp2_with fail
  refine (unhide L2 _).mono ?_
  rintro e w4 hp
  obtain ⟨ao2, cap2, rfl, r2, -, k4⟩ := hp
  simp only at r2 ⊢
  have kk : Kp w3 w4 := ((Kp.refl w3).alloc _ _).trans k4
  have b1 : Blk w3.heap.size #[.int .i64 Re, .int .i64 Ra] 33 w4 := Blk.kp (heap_alloc_new w3 _) k4
  have S4 : Hid (Row w4 ao1 Rl.length (fun i => Rl.getD i 0) ∧ Row w4 ao2 Rl.length (fun i => Rl.getD i 0) ∧ Free w w4 ao1 Rl.length ∧ Kp w w4 ∧ Blk w3.heap.size #[.int .i64 Re, .int .i64 Ra] 33 w4) := ⟨(unhide S3).1.kp kk, r2, (unhide S3).2.1.kp kk (unhide S3).1, (unhide S3).2.2.trans kk, b1⟩
  clear r2 k4 kk b1 S3 L1 L2
  generalize w3.heap.size = B1 at *
  have gg : Grown w4 (w4.alloc (.cells #[.int .i64 Re, .int .i64 Ra] 33)) := (Grown.refl _).alloc _ _
  have S5 : Hid (Row (w4.alloc (.cells #[.int .i64 Re, .int .i64 Ra] 33)) ao1 Rl.length (fun i => Rl.getD i 0) ∧ Row (w4.alloc (.cells #[.int .i64 Re, .int .i64 Ra] 33)) ao2 Rl.length (fun i => Rl.getD i 0) ∧ Free w (w4.alloc (.cells #[.int .i64 Re, .int .i64 Ra] 33)) ao1 Rl.length ∧ Kp w (w4.alloc (.cells #[.int .i64 Re, .int .i64 Ra] 33))) :=
    ⟨(unhide S4).1.grown gg, (unhide S4).2.1.grown gg, (unhide S4).2.2.1.kp (Kp.of gg) (unhide S4).1, (unhide S4).2.2.2.1.grown gg⟩
  have e10 : (w4.alloc (.cells #[.int .i64 Re, .int .i64 Ra] 33)).cell? ⟨B1, 0, none⟩ = some (.int .i64 Re) := Blk.cell (Blk.grown (unhide S4).2.2.2.2 gg) 0
  have e11 : (w4.alloc (.cells #[.int .i64 Re, .int .i64 Ra] 33)).cell? ⟨B1, 1, none⟩ = some (.int .i64 Ra) := Blk.cell (Blk.grown (unhide S4).2.2.2.2 gg) 1
  clear S4 gg
  go_wp2_with fail
  refine (kitSameQ ao1 ao2 Rl.length cap1 cap2 _ RL _ (unhide S5).1 (unhide S5).2.1).mono ?_
  rintro e w5 ⟨rfl, m, rfl⟩
  go_wp2_with fail
  refine (kitOver w ao1 Rl.length cap1 _ RL _ (by exact (unhide S5).2.2.2) (by exact (unhide S5).1) (by exact (unhide S5).2.2.1)).mono ?_
  rintro e w6 ⟨rfl, k6⟩
  clear S5 e10 e11
  go_wp2_with fail
  refine (lawAwake _).mono ?_
  rintro e w7 ⟨rfl, k7⟩
  have K := hide (k6.trans k7)
  clear k6 k7
  go_wp2
  go_ret
  exact ⟨rfl, unhide K⟩

end Go.Proofs.YtnelkhmahmoclaaGreatDoor
