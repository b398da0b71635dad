/- The program's Get. -/
import Derived.Test.YtnelkhmahmoclaaGreatDoorTextQ
namespace Go.Proofs.YtnelkhmahmoclaaGreatDoor
open Go.RowKit Go.Shelf Go.Proofs.Wd
set_option linter.unusedVariables false
set_option linter.unusedSimpArgs false
set_option maxRecDepth 10000

/-- To the nearest one by 5^16, so many times. -/
def nearF (F : Nat) : Nat := (2 * F + 152587890625) / 305175781250
def nf : Nat → Nat → Nat
  | 0, F => F
  | k + 1, F => nearF (nf k F)
theorem nearF_le (F : Nat) : nearF F ≤ F + 1 := by unfold nearF; omega
theorem rdiv_near5 (F : Nat) : rdiv (F : Int) 152587890625 = (nearF F : Int) := by
  have e1 : ((F : Int).natAbs : Int) = F := by omega
  have e2 : (((152587890625 : Int).natAbs : Nat) : Int) = 152587890625 := rfl
  unfold rdiv rawq nearF
  rw [e1, e2]
  have c1 : decide ((F : Int) < 0) = false := decide_eq_false (by omega)
  have c2 : decide ((152587890625 : Int) < 0) = false := rfl
  rw [c1, c2]
  simp only [bne_self_eq_false, Bool.false_eq_true, if_false]
  split <;> omega
def BigN (F : Nat) : Prop := F < 85070591730234615865843651857942052864
theorem BigN.step {F : Nat} (h : F < 85070591730234615865843651857942052860) : nearF F < 85070591730234615865843651857942052860 := by unfold nearF; omega
theorem div5 (F : Nat) (h : F < 85070591730234615865843651857942052860) (w : World) : Calls Tryz.prog 67 #[.agg #[.int .i64 (hiOf (F : Int)), .int .u64 (loOf (F : Int))], .int .i64 152587890625] w fun e w' => e = .returned (.tuple #[.agg #[.int .i64 (hiOf (nearF F : Int)), .int .u64 (loOf (nearF F : Int))], .int .i64 0]) ∧ Grown w w' := by
  have q := wideDiv (hiOf (F : Int)) (loOf (F : Int)) 152587890625 (hiOf_I64 _) (loOf_U64 _) (by unfold I64; omega) (by omega) (div64_all _ _ _ (Int.emod_nonneg _ (by decide)) (Int.emod_lt_of_pos _ (by decide)) (absI_U64 152587890625 (by unfold I64; omega)) (loOf_U64 _)) w
  rw [val_of] at q
  have e : wrapW (F : Int) = F := by unfold wrapW; omega
  rw [e, rdiv_near5] at q
  exact q
theorem nf_big (F : Nat) (h : F < 85070591730234615865843651857942052860) : ∀ k, nf k F < 85070591730234615865843651857942052860
  | 0 => h
  | k + 1 => BigN.step (nf_big F h k)

set_option maxHeartbeats 400000 in
theorem textParts (F : Nat) (h : F < 85070591730234615865843651857942052860) (w : World) : Calls Tryz.prog 43 #[.agg #[.int .i64 (hiOf (F : Int)), .int .u64 (loOf (F : Int))]] w fun e w' => e = .returned (.agg #[.int .i64 (hiOf (nf 2 F : Int)), .int .u64 (loOf (nf 2 F : Int))]) ∧ Kp w w' := by
  have H := hide (fun k => nf_big F h k)
  clear h
  go_enter Tryz.func43, Tryz.ntmps43
  go_wp2_with fail
  go_loopw [3] (fun x wr => ∃ k : Nat, x = .int .i64 (k : Int) ∧ k ≤ 2 ∧ Blk w.heap.size #[.int .i64 (hiOf (nf k F : Int)), .int .u64 (loOf (nf k F : Int))] 43 wr ∧ Blk (w.heap.size + 1) #[.int .i64 0, .int .u64 0] 43 wr ∧ Kp w wr) (fun x _ => 2 - (Lib.intOf x).toNat)
  case atStart => exact ⟨0, rfl, by omega, Blk.grown (heap_alloc_new w _) ((Grown.refl _).alloc _ _), by have := heap_alloc_new (w.alloc (.cells #[.int .i64 (hiOf (F : Int)), .int .u64 (loOf (F : Int))] 43)) (.cells #[.int .i64 0, .int .u64 0] 43); rw [World.size_alloc] at this; exact this, ((Kp.refl w).alloc _ _).alloc _ _⟩
  case round =>
    obtain ⟨k, rfl, hk, b1, b2, kk⟩ := hrel
    have d0 : wr.cell? ⟨w.heap.size, 0, none⟩ = some (.int .i64 (hiOf (nf k F : Int))) := Blk.cell b1 0
    have d1 : wr.cell? ⟨w.heap.size, 1, none⟩ = some (.int .u64 (loOf (nf k F : Int))) := Blk.cell b1 1
    have HH := hide (And.intro b1 (And.intro b2 kk))
    have f1 := Blk.free b1
    have f2 := Blk.free b2
    have g0 : wr.cell? ⟨w.heap.size + 1, 0, none⟩ = some (.int .i64 0) := Blk.cell b2 0
    have g1 : wr.cell? ⟨w.heap.size + 1, 1, none⟩ = some (.int .u64 0) := Blk.cell b2 1
    clear b1 b2 kk
    by_cases c : k < 2
    · have cc : (k : Int) < 2 := by omega
      have D := hide (div5 (nf k F) (unhide H k) wr)
      have E : Hid (nf (k + 1) F = nearF (nf k F)) := rfl
      generalize nf k F = x at *
      generalize nearF x = y at *
      go_wp2_with fail
      refine (unhide D).mono ?_
      rintro e w1 ⟨rfl, g⟩
      obtain ⟨b1, b2, kk⟩ := unhide HH
      have c1 := Blk.grown b1 g
      have c2 := Blk.grown b2 g
      have f1' := Blk.free c1
      have d0' : w1.cell? ⟨w.heap.size, 0, none⟩ = some (.int .i64 (hiOf (x : Int))) := Blk.cell c1 0
      have d1' : w1.cell? ⟨w.heap.size, 1, none⟩ = some (.int .u64 (loOf (x : Int))) := Blk.cell c1 1
      have GG := hide (And.intro c1 (And.intro c2 (kk.grown g)))
      clear b1 b2 kk c1 c2 g HH D d0 d1 f1 f2 g0 g1
      go_wp2
      go_roundw
      case rel =>
        obtain ⟨c1, c2, kk⟩ := unhide GG
        refine ⟨k + 1, by simp [go_sem], by omega, ?_, ?_, ?_⟩
        · rw [unhide E]
          exact Blk.set (Blk.set c1 0 _) 1 _
        · exact Blk.keep c2 (((Mod.refl w.heap.size w1).setCell 0 _).setCell 1 _) (by omega)
        · exact kk.mod (((Mod.refl w.heap.size w1).setCell 0 _).setCell 1 _) (Nat.le_refl _)
      case measure => simp [Lib.intOf]; omega
    · obtain rfl : k = 2 := by omega
      go_wp2
      refine bodyPost_ret (v := .agg #[.int .i64 (hiOf (nf 2 F : Int)), .int .u64 (loOf (nf 2 F : Int))]) (by simp [results, Tryz.results43, go_sem, *]) rfl ?_
      exact ⟨rfl, (unhide HH).2.2.mod (((Mod.refl (w.heap.size + 1) wr).setCell 0 _).setCell 1 _) (by omega)⟩

theorem pre_neg (l : List UInt8) : Lib.hasPrefix l [45] = negL l := by
  unfold Lib.hasPrefix negL
  cases l with
  | nil => rfl
  | cons c l =>
    by_cases h : c = 45
    · subst h; simp
    · simp [List.isPrefixOf, h]
      exact fun e => h e.symm
theorem pre_rest (l : List UInt8) : Lib.trimPrefix l [45] = restL l := by
  unfold Lib.trimPrefix restL
  rw [pre_neg]
  rfl
/-- What a decimal is read as, in the program's words. -/
theorem get_bad (l : List UInt8) (h : (!okW ((restL l).take (fi 46 (restL l))) || (decide (fi 46 (restL l) < (restL l).length) && !okD ((restL l).drop (fi 46 (restL l) + 1)) 32)) = true) : getR l = (0, 5) := by
  unfold getR
  rw [form_cut, if_pos h]
theorem get_good (l : List UInt8) (h : ¬ (!okW ((restL l).take (fi 46 (restL l))) || (decide (fi 46 (restL l) < (restL l).length) && !okD ((restL l).drop (fi 46 (restL l) + 1)) 32)) = true) : getR l = numR (negL l) (numL ((restL l).take (fi 46 (restL l)))) (numL ((restL l).drop (fi 46 (restL l) + 1))) ((restL l).drop (fi 46 (restL l) + 1)).length := by
  unfold getR
  rw [form_cut, if_neg h]
theorem near_nf (b : List UInt8) (hb : b.length ≤ 32) : nf 2 (fracN b) = (2 * numL b * 4294967296 + 10 ^ b.length) / (2 * 10 ^ b.length) := by
  have h := near_twice (fracN b) 152587890625 (nearF (fracN b)) (nf 2 (fracN b)) (by omega) (by omega) rfl rfl
  have e : (152587890625 * 152587890625 : Nat) = 23283064365386962890625 := by decide
  rw [e] at h
  exact near_parts (numL b) b.length _ _ hb rfl h.1 h.2
theorem frac_big (b : List UInt8) (hb : b.length ≤ 32) (hd : b.all isD = true) : fracN b < 100000000000000000000000000000000 := by
  have h := num_lt b hd
  unfold fracN
  have e : (100000000000000000000000000000000 : Nat) = 10 ^ b.length * 10 ^ (32 - b.length) := by rw [← Nat.pow_add, show b.length + (32 - b.length) = 32 by omega]
  rw [e]
  exact Nat.mul_lt_mul_of_pos_right h (Nat.pow_pos (by omega))
theorem frac_zero (b : List UInt8) : fracN b = 0 ↔ numL b = 0 := by
  unfold fracN
  have : 0 < 10 ^ (32 - b.length) := Nat.pow_pos (by omega)
  constructor
  · intro h
    rcases Nat.mul_eq_zero.1 h with h | h
    · exact h
    · omega
  · intro h
    rw [h]; simp

theorem toKp {P : Program} {f : FuncId} {args : Array Value} {w : World} {v : Ending} (h : Calls P f args w fun e w' => e = v ∧ Grown w w') : Calls P f args w fun e w' => e = v ∧ Kp w w' := h.mono fun _ _ k => ⟨k.1, Kp.of k.2⟩
theorem keepK {W0 W w1 : World} {b : Nat} {x y : Value} (h : Kp W w1) (hv : W.cell? ⟨b, 0, none⟩ = some x ∧ W.cell? ⟨b, 1, none⟩ = some y ∧ Kp W0 W) : w1.cell? ⟨b, 0, none⟩ = some x ∧ w1.cell? ⟨b, 1, none⟩ = some y ∧ Kp W0 w1 := ⟨h.cell hv.1, h.cell hv.2.1, hv.2.2.trans h⟩

set_option maxHeartbeats 1600000 in
theorem textGetT (s : ByteArray) (hs : s.size ≤ 1000000) (w : World) : Calls Tryz.prog 16 #[.string s] w fun e w' => e = .returned (.tuple #[.int .i64 (getR s.data.toList).1, .int .i64 (getR s.data.toList).2]) ∧ Kp w w' := by
  have hsz : s.data.toList.length = s.size := by rw [Array.length_toList]; rfl
  have P := hide (fun w => libPrefix s w)
  rw [pre_neg, pre_rest] at P
  have gb := get_bad s.data.toList
  have gg := get_good s.data.toList
  have hrl : (restL s.data.toList).length ≤ s.data.toList.length := by unfold restL; split <;> simp
  generalize getR s.data.toList = G at *
  generalize restL s.data.toList = t at *
  generalize negL s.data.toList = bl at *
  obtain ⟨T, hT⟩ : ∃ T : ByteArray, (⟨t.toArray⟩ : ByteArray) = T := ⟨_, rfl⟩
  have hTs : T.size ≤ 1000000 := by rw [← hT]; show t.length ≤ _; omega
  have C := hide (fun w => libCut T 46 hTs w)
  rw [show T.data.toList = t by rw [← hT]] at C
  rw [hT] at P
  generalize fi 46 t = j at *
  generalize hA : t.take j = a at *
  generalize hB : t.drop (j + 1) = b at *
  obtain ⟨A, hA'⟩ : ∃ A : ByteArray, (⟨a.toArray⟩ : ByteArray) = A := ⟨_, rfl⟩
  obtain ⟨B, hB'⟩ : ∃ B : ByteArray, (⟨b.toArray⟩ : ByteArray) = B := ⟨_, rfl⟩
  have hAs : A.size ≤ 1000000 := by rw [← hA']; show a.length ≤ _; rw [← hA]; simp; omega
  have hBs : B.size ≤ 1000000 := by rw [← hB']; show b.length ≤ _; rw [← hB]; simp; omega
  have IW := hide (fun w => textIsWhole A hAs w)
  have ID := hide (fun w => textIsDigits B 32 hBs (by omega) w)
  rw [hA', hB'] at C
  have ae : A.data.toList = a := by rw [← hA']
  have be : B.data.toList = b := by rw [← hB']
  rw [ae] at IW
  rw [be] at ID
  have hno : ¬ j < t.length → b = [] := fun h => by rw [← hB]; exact List.drop_eq_nil_of_le (by omega)
  have hpd : decide (j < t.length) = false → b = [] := fun h => hno (by simpa using h)
  clear hno hT hTs hAs hBs hA hB hsz hrl
  generalize decide (j < t.length) = pd at *
  cases hw : okW a with
  | false =>
    have G5 := hide (gb (by rw [hw]; rfl))
    rw [hw] at IW
    clear gb gg hpd hw ID
    go_enter Tryz.func16, Tryz.ntmps16
    go_wp2_with fail
    refine (unhide P _).mono ?_
    rintro e w1 ⟨rfl, rfl⟩
    go_wp2_with fail
    refine (unhide C _).mono ?_
    rintro e w2 ⟨rfl, g2⟩
    go_wp2_with fail
    refine (unhide IW _).mono ?_
    rintro e w3 ⟨rfl, k3⟩
    go_wp2
    go_ret2
    rw [unhide G5]
    exact ⟨rfl, (Kp.of g2).trans k3⟩
  | true =>
    rw [hw] at IW
    by_cases hbad : pd = true ∧ okD b 32 = false
    · obtain ⟨rfl, hd⟩ := hbad
      have G5 := hide (gb (by rw [hw, hd]; rfl))
      rw [hd] at ID
      clear gb gg hpd hw hd
      go_enter Tryz.func16, Tryz.ntmps16
      go_wp2_with fail
      refine (unhide P _).mono ?_
      rintro e w1 ⟨rfl, rfl⟩
      go_wp2_with fail
      refine (unhide C _).mono ?_
      rintro e w2 ⟨rfl, g2⟩
      go_wp2_with fail
      refine (unhide IW _).mono ?_
      rintro e w3 ⟨rfl, k3⟩
      go_wp2_with fail
      refine (unhide ID _).mono ?_
      rintro e w4 ⟨rfl, k4⟩
      go_wp2
      go_ret2
      rw [unhide G5]
      exact ⟨rfl, ((Kp.of g2).trans k3).trans k4⟩
    · have hbl : b.all isD = true ∧ b.length ≤ 32 := by
        cases pd with
        | false => rw [hpd rfl]; simp
        | true =>
          cases hd : okD b 32 with
          | false => exact absurd ⟨rfl, hd⟩ hbad
          | true =>
            unfold okD at hd
            simp only [Bool.and_eq_true, decide_eq_true_eq] at hd
            exact ⟨hd.2.2, hd.2.1⟩
      have GN := hide (gg (by
        rw [hw]
        cases pd with
        | false => simp
        | true =>
          cases hd : okD b 32 with
          | false => exact absurd ⟨rfl, hd⟩ hbad
          | true => simp))
      have haw : a ≠ [] ∧ a.all isD = true ∧ a.length ≤ 10 := by
        unfold okW okD at hw
        simp only [Bool.and_eq_true, decide_eq_true_eq] at hw
        exact ⟨hw.1.1, hw.1.2.2, hw.1.2.1⟩
      have as' : A.size = a.length := by rw [← ae, Array.length_toList]; rfl
      have bs' : B.size = b.length := by rw [← be, Array.length_toList]; rfl
      have NU := hide (fun w => textNumber A (by rw [ae]; exact haw.1) (by rw [ae]; exact haw.2.1) (by omega) w)
      have FR := hide (fun w => textFraction B (by omega) (by rw [be]; exact hbl.1) w)
      rw [ae] at NU
      rw [be] at FR
      have hh : numL a < 10000000000 := Nat.lt_of_lt_of_le (num_lt a haw.2.1) (by
        have : (10000000000 : Nat) = 10 ^ 10 := by decide
        rw [this]
        exact Nat.pow_le_pow_right (by omega) haw.2.2)
      have fb := frac_big b hbl.2 hbl.1
      have fz := frac_zero b
      have fn := hide (near_nf b hbl.2)
      have PA := hide (fun w => textParts (fracN b) (by omega) w)
      have hid : pd = true → okD b 32 = true := fun e => by
        cases hd : okD b 32 with
        | false => exact absurd ⟨e, hd⟩ hbad
        | true => rfl
      rw [numR, ← unhide fn] at GN
      have hqb : nf 2 (fracN b) ≤ fracN b + 2 := Nat.le_trans (nearF_le _) (Nat.succ_le_succ (nearF_le _))
      clear gb gg hpd hw hbl haw as' bs' ae be hA' hB' fn
      generalize numL a = hn at *
      generalize numL b = N at *
      generalize nf 2 (fracN b) = q at *
      generalize fracN b = F at *
      go_enter Tryz.func16, Tryz.ntmps16
      go_wp2_with fail
      refine (unhide P _).mono ?_
      rintro e w1 ⟨rfl, rfl⟩
      go_wp2_with fail
      refine (unhide C _).mono ?_
      rintro e w2 ⟨rfl, g2⟩
      have k2 := hide (Kp.of g2)
      clear g2 P C
      go_upto_region 3 with fail
      go_cut [33] (fun s33 wx => s33 = .bool false ∧ Kp w1 wx)
      case first =>
        cases pd with
        | false =>
          clear ID
          go_wp2_with fail
          refine (unhide IW _).mono ?_
          rintro e w3 ⟨rfl, k3⟩
          go_wp2
          go_meet
          exact ⟨rfl, (unhide k2).trans k3⟩
        | true =>
          rw [hid rfl] at ID
          go_wp2_with fail
          refine (unhide IW _).mono ?_
          rintro e w3 ⟨rfl, k3⟩
          go_wp2_with fail
          refine (unhide ID _).mono ?_
          rintro e w4 ⟨rfl, k4⟩
          go_wp2
          go_meet
          exact ⟨rfl, ((unhide k2).trans k3).trans k4⟩
      case rest =>
        obtain ⟨rfl, k3⟩ := hcut
        clear k2 IW ID hid hbad
        go_upto_region 5 with fail
        go_cut [8, 9] (fun s8 s9 wx => s8 = .int .i64 (hn : Int) ∧ ∃ g, s9 = .pointer (some ⟨g, 0, none⟩) ∧ wx.cell? ⟨g, 0, none⟩ = some (.int .i64 (hiOf (F : Int))) ∧ wx.cell? ⟨g, 1, none⟩ = some (.int .u64 (loOf (F : Int))) ∧ Kp w1 wx)
        case first =>
          go_wp2_with fail
          refine (unhide NU _).mono ?_
          rintro e w4 ⟨rfl, k4⟩
          go_wp2_with fail
          refine (unhide FR _).mono ?_
          rintro e w5 ⟨rfl, k5⟩
          have KK := hide ((k3.trans k4).trans k5)
          clear k3 k4 k5 NU FR
          go_wp2
          go_meet
          exact ⟨rfl, w5.heap.size, rfl, by simp, by simp, (unhide KK).alloc _ _⟩
        case rest =>
          obtain ⟨rfl, g, rfl, x0, x1, K6⟩ := hcut
          clear NU FR k3
          have hnz := wide_nz F fb
          have hz0 : F = 0 → hiOf (F : Int) = 0 ∧ loOf (F : Int) = 0 := fun e => by subst e; exact ⟨rfl, rfl⟩
          have hq3 : ∀ op x y xs ys w, (eqGuard op 43 x y (.agg xs) (.agg ys)).run Tryz.prog w = .ok () w := fun op x y xs ys w => run_eqGuard_agg w op 43 x y xs ys wideGuard
          generalize hiOf (F : Int) = X at *
          generalize loOf (F : Int) = Y at *
          have hq2 := fun w => wide_neq X Y w
          have hq1 := fun w => wide_eqi X Y w
          have hq0 := wideGuard
          obtain ⟨nz, hqz⟩ : ∃ nz, (if (X == 0) = true then Y == 0 else false) = nz := ⟨_, rfl⟩
          rw [hqz] at hnz hq1 hq2
          by_cases c1 : 2147483648 < hn
          · have c1' : (2147483648 : Int) < (hn : Int) := by omega
            have G4 : Hid (G = (0, 4)) := by rw [Hid, unhide GN, if_pos (Or.inl c1)]
            have KK := hide K6
            clear GN PA fz fb hh K6 hnz hz0 hq2 hq3 hq1 hq0 hqz hqb
            go_wp2
            go_ret2
            rw [unhide G4]
            exact ⟨rfl, unhide KK⟩
          · have c1' : (hn : Int) ≤ 2147483648 := by omega
            by_cases c2 : hn = 2147483648 ∧ F ≠ 0
            · obtain ⟨c3, c2⟩ := c2
              have G4 : Hid (G = (0, 4)) := by rw [Hid, unhide GN, if_pos (Or.inr ⟨c3, fun e => c2 (fz.2 e)⟩)]
              have e31 : ((hn : Int) == 2147483648) = true := beq_iff_eq.2 (by omega)
              have KK := hide K6
              obtain rfl : nz = false := hnz c2
              clear GN PA fz fb hh c1 c2 c3 K6 hnz hz0 hq3 hq2 hq1 hq0 hqb
              generalize (hn : Int) = H at *
              iterate 26 (first | go_values | go_skip | go_guarded | go_step | go_upon | (simp only [Int.not_lt, Int.not_le] at *; go_simp))
              refine neq_wide (.tmp 44) (.tmp 45) X Y rfl rfl rfl ?_
              rw [hqz]
              clear hqz
              go_wp2
              go_ret2
              rw [unhide G4]
              exact ⟨rfl, unhide KK⟩
            · have GG : Hid (G = (if bl then -((min (hn * 4294967296 + q) 9223372036854775807 : Nat) : Int) else ((min (hn * 4294967296 + q) 9223372036854775807 : Nat) : Int), 0)) := by
                rw [Hid, unhide GN, if_neg]
                rintro (h | ⟨h1, h2⟩)
                · exact c1 h
                · exact c2 ⟨h1, fun e => h2 (fz.1 e)⟩
              have hV : Hid (fitI (wrapW ((hn : Int) * 4294967296 + (q : Int))) = ((min (hn * 4294967296 + q) 9223372036854775807 : Nat) : Int)) := by
                show _ = _
                have e : wrapW ((hn : Int) * 4294967296 + (q : Int)) = (hn : Int) * 4294967296 + (q : Int) := by unfold wrapW; omega
                rw [e]
                unfold fitI
                split
                · omega
                · split <;> omega
              have MU := hide (fun w => toKp (wideMul hn 4294967296 (by unfold I64; omega) (by unfold I64; omega) w))
              have AD := hide (fun w => toKp (addV ((hn : Int) * 4294967296) (q : Int) w))
              have FI := hide (fun w => toKp (fitV ((hn : Int) * 4294967296 + (q : Int)) w))
              rw [unhide hV] at FI
              obtain ⟨M, hM⟩ : ∃ M : Int, ((min (hn * 4294967296 + q) 9223372036854775807 : Nat) : Int) = M := ⟨_, rfl⟩
              have hMb : 0 ≤ M ∧ M ≤ 9223372036854775807 := by rw [← hM]; omega
              rw [hM] at FI GG
              have NE := hide (fun w => toKp (fixNeg M (by unfold I64; omega) w))
              have hNeg : fitI (tk 0 - tk M) = -M := by
                unfold fitI tk
                rw [if_neg (show ¬ (0 : Int) = -9223372036854775808 by omega), if_neg (show ¬ M = -9223372036854775808 by omega), if_neg (by omega), if_neg (by omega)]
                omega
              rw [hNeg] at NE
              clear hNeg hMb hM hV hqb
              generalize fitB (wrapW ((hn : Int) * 4294967296 + (q : Int))) = fb' at *
              generalize cutB (tk 0 - tk M) 0 M = cb at *
              go_upto_region 6 with fail
              go_cut [38, 39, 40, 41, 42, 43, 44, 45, 46, 47, 48] (fun s38 s39 s40 s41 s42 s43 s44 s45 s46 s47 s48 wx => s48 = .bool false ∧ wc = wx)
              case first =>
                clear GG GN PA MU AD FI NE K6 hq2 hq3 hq1 hq0 hnz
                by_cases c3 : hn = 2147483648
                · have hF0 : F = 0 := Classical.byContradiction fun h => c2 ⟨c3, h⟩
                  obtain ⟨hX0, hY0⟩ := hz0 hF0
                  have hqt : (if (X == 0) = true then Y == 0 else false) = true := by rw [hX0, hY0]; rfl
                  have e31 : ((hn : Int) == 2147483648) = true := beq_iff_eq.2 (by omega)
                  clear c3 hF0 hX0 hY0 hqz hz0 c1 c2 fz fb hh
                  generalize (hn : Int) = H at *
                  iterate 23 (first | go_values | go_skip | go_guarded | go_step | go_upon | (simp only [Int.not_lt, Int.not_le] at *; go_simp))
                  refine neq_wide (.tmp 44) (.tmp 45) X Y rfl rfl rfl ?_
                  rw [hqt]
                  clear hqt
                  go_wp2_with fail
                  go_meet
                  exact ⟨by first | rfl | exact congrArg Value.bool (decide_eq_false (by omega)), rfl⟩
                · have e32 : ((hn : Int) == 2147483648) = false := beq_eq_false_iff_ne.2 (by omega)
                  clear c3 hqz hz0 c1 c2 fz fb hh
                  go_wp2_with fail
                  go_meet
                  exact ⟨by first | rfl | exact congrArg Value.bool (decide_eq_false (by omega)), rfl⟩
              case rest =>
                obtain ⟨rfl, rfl⟩ := hcut
                clear GN hq2 hq3 hq1 hq0 hnz hqz hz0 c1 c2 fz fb hh c1'
                go_upto_region 8 with fail
                go_cut [10] (fun s10 wx => s10 = .int .i64 M ∧ Kp w1 wx)
                case first =>
                  clear GG NE
                  go_region_held3 (fun w' => w'.cell? ⟨g, 0, none⟩ = some (.int .i64 X) ∧ w'.cell? ⟨g, 1, none⟩ = some (.int .u64 Y) ∧ Kp w1 w')
                    (first | exact keepK hg9 (by assumption) | (refine ⟨?_, ?_, K6.trans (Kp.of ((Grown.refl _).drew))⟩ <;> simp [go_sem, *]))
                    (first
                      | (go_at_call 25; refine (unhide MU _).mono ?_; rintro e w9 ⟨rfl, hg9⟩)
                      | (go_at_call 43; refine (unhide PA _).mono ?_; rintro e w9 ⟨rfl, hg9⟩)
                      | (go_at_call 24; refine (unhide AD _).mono ?_; rintro e w9 ⟨rfl, hg9⟩)
                      | (go_at_call 42; refine (unhide FI _).mono ?_; rintro e w9 ⟨rfl, hg9⟩))
                  all_goals go_wp2_with fail
                  all_goals go_meet
                  all_goals exact ⟨rfl, (keepK (Kp.refl _) (by assumption)).2.2⟩
                case rest =>
                  obtain ⟨rfl, k9⟩ := hcut
                  have KK := hide k9
                  clear k9 K6 PA MU AD FI
                  cases bl with
                  | false =>
                    clear NE
                    go_wp2
                    go_ret2
                    rw [unhide GG]
                    exact ⟨rfl, unhide KK⟩
                  | true =>
                    go_wp2_with fail
                    refine (unhide NE _).mono ?_
                    rintro e w10 ⟨rfl, k10⟩
                    have K2 := hide ((unhide KK).trans k10)
                    clear k10 KK NE
                    go_wp2
                    go_ret2
                    rw [unhide GG]
                    exact ⟨rfl, unhide K2⟩
end Go.Proofs.YtnelkhmahmoclaaGreatDoor
