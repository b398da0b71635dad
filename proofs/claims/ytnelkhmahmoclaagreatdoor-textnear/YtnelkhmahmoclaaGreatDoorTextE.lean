/- The document's text: what a decimal is read as. -/
import Derived.Test.YtnelkhmahmoclaaGreatDoorTextD
import Derived.Deep.DeepCutAuto
namespace Go.Proofs.YtnelkhmahmoclaaGreatDoor
open Go.RowKit Go.Proofs.Wd
set_option linter.unusedVariables false
set_option linter.unusedSimpArgs false
set_option maxRecDepth 10000

theorem ext_list (s : ByteArray) (a : Nat) : (s.extract a s.size).data.toList = s.data.toList.drop a := by
  have : (s.extract a s.size).data = s.data.extract a s.data.size := ByteArray.data_extract
  rw [this, Array.toList_extract]
  simp only [List.extract_eq_take_drop]
  exact List.take_of_length_le (by rw [List.length_drop, Array.length_toList]; exact Nat.le_refl _)
theorem ext_size (s : ByteArray) (a : Nat) : (s.extract a s.size).size = s.size - a := by
  have h := congrArg List.length (ext_list s a)
  rw [List.length_drop, Array.length_toList, Array.length_toList] at h
  exact h
theorem len_list (s : ByteArray) : s.data.toList.length = s.size := Array.length_toList

theorem getR_none {l : List UInt8} (h : formL (restL l) = none) : getR l = (0, 5) := by unfold getR; rw [h]
theorem getR_some {l : List UInt8} {h N K : Nat} (e : formL (restL l) = some (h, N, K)) : getR l = numR (negL l) h N K := by unfold getR; rw [e]
theorem form_none1 {t : List UInt8} (h : nd t < 1 ∨ 10 < nd t ∨ (1 < nd t ∧ t.getD 0 0 = 48)) : formL t = none := by unfold formL; rw [if_pos h]
theorem form_none2 {t : List UInt8} (h0 : ¬ (nd t < 1 ∨ 10 < nd t ∨ (1 < nd t ∧ t.getD 0 0 = 48))) (h1 : nd t < t.length)
    (h : t.getD (nd t) 0 ≠ 46 ∨ nd (t.drop (nd t + 1)) < 1 ∨ 32 < nd (t.drop (nd t + 1)) ∨ nd t + 1 + nd (t.drop (nd t + 1)) < t.length) : formL t = none := by unfold formL; rw [if_neg h0, if_pos h1, if_pos h]
theorem form_some2 {t : List UInt8} (h0 : ¬ (nd t < 1 ∨ 10 < nd t ∨ (1 < nd t ∧ t.getD 0 0 = 48))) (h1 : nd t < t.length)
    (h : ¬ (t.getD (nd t) 0 ≠ 46 ∨ nd (t.drop (nd t + 1)) < 1 ∨ 32 < nd (t.drop (nd t + 1)) ∨ nd t + 1 + nd (t.drop (nd t + 1)) < t.length)) :
    formL t = some (preV (dig t) (nd t), preV (dig (t.drop (nd t + 1))) (nd (t.drop (nd t + 1))), nd (t.drop (nd t + 1))) := by unfold formL; rw [if_neg h0, if_pos h1, if_neg h]
theorem form_some1 {t : List UInt8} (h0 : ¬ (nd t < 1 ∨ 10 < nd t ∨ (1 < nd t ∧ t.getD 0 0 = 48))) (h1 : ¬ nd t < t.length) : formL t = some (preV (dig t) (nd t), 0, 0) := by unfold formL; rw [if_neg h0, if_neg h1]

set_option maxHeartbeats 400000 in
theorem refGet_empty (s : ByteArray) (hs : s.size = 0) (w : World) :
    Calls Tryz.prog 17 #[.string s] w fun e w' => e = .returned (.tuple #[.int .i64 0, .int .i64 5]) ∧ Kp w w' := by
  have hn : nd s.data.toList = 0 := by
    have := nd_le s.data.toList
    rw [len_list, hs] at this
    omega
  have D := hide (refDigits s (by omega) w)
  rw [hn] at D
  clear hn
  go_enter Tryz.func17, Tryz.ntmps17
  go_wp2_with fail
  refine (unhide D).mono ?_
  rintro e w1 ⟨rfl, rfl⟩
  go_wp2
  go_ret2
  exact ⟨rfl, Kp.refl _⟩

/-- What stands behind the reading of a text without its sign. -/
theorem byte48 (c : UInt8) : c = 48 ↔ (c.toNat : Int) = 48 := by
  constructor
  · intro h; rw [h]; rfl
  · intro h
    apply UInt8.toNat_inj.1
    show c.toNat = 48
    omega
theorem byte46 (c : UInt8) : c = 46 ↔ (c.toNat : Int) = 46 := by
  constructor
  · intro h; rw [h]; rfl
  · intro h
    apply UInt8.toNat_inj.1
    show c.toNat = 46
    omega
theorem byte45 (c : UInt8) : c = 45 ↔ (c.toNat : Int) = 45 := by
  constructor
  · intro h; rw [h]; rfl
  · intro h
    apply UInt8.toNat_inj.1
    show c.toNat = 45
    omega

/-- What is answered, where the number is not too great. -/
def ResP (bl : Bool) (h N K : Nat) (r1 r2 : Int) : Prop := numR bl h N K = (r1, r2) ∧ ¬ (2147483648 < h ∨ (h = 2147483648 ∧ N ≠ 0))
/-- What stands behind j doublings. -/
def LowI (N K j l : Nat) (D : Nat → Nat) : Prop := l < 2 ^ j ∧ (∀ i, i < K → D i ≤ 9) ∧ N * 2 ^ j = l * 10 ^ K + preV D K
theorem LowI.start (K : Nat) (D : Nat → Nat) (h : ∀ i, i < K → D i ≤ 9) : LowI (preV D K) K 0 0 D := ⟨by decide, h, by simp⟩
theorem LowI.bound {N K j l : Nat} {D : Nat → Nat} (h : LowI N K j l D) (hj : j ≤ 32) : l < 4294967296 :=
  Nat.lt_of_lt_of_le h.1 (show 2 ^ j ≤ 2 ^ 32 from Nat.pow_le_pow_right (by omega) hj)
theorem LowI.step {N K j l : Nat} {D O : Nat → Nat} {q : Bool} (h : LowI N K j l D) (hq : decide (10 ^ K ≤ 2 * preV D K) = q) (ho : ∀ i, i < K → O i ≤ 9) (h2 : preV O K = 2 * preV D K % 10 ^ K) : LowI N K (j + 1) (2 * l + (if q then 1 else 0)) O := by
  obtain ⟨h1, h3, h4⟩ := h
  refine ⟨?_, ho, dbl_inv _ _ _ _ _ _ q h4 (preV_lt D K h3) hq h2⟩
  rw [Nat.pow_succ]
  split <;> omega
theorem LowI.done {N K l : Nat} {D : Nat → Nat} {q : Bool} (h : LowI N K 32 l D) (hq : decide (10 ^ K ≤ 2 * preV D K) = q) : l + (if q then 1 else 0) = (2 * N * 4294967296 + 10 ^ K) / (2 * 10 ^ K) := by
  obtain ⟨h1, h3, h4⟩ := h
  rw [← round_eq N (10 ^ K) l (preV D K) (Nat.pow_pos (by omega)) h4 (preV_lt D K h3)]
  cases q with
  | true => rw [if_pos rfl, if_pos (by simpa using hq)]
  | false => rw [if_neg (by simp), if_neg (by simpa using hq)]
theorem ResP.eq {bl : Bool} {h N K m : Nat} {r1 r2 : Int} (H : ResP bl h N K r1 r2) (e : min (h * 4294967296 + (2 * N * 4294967296 + 10 ^ K) / (2 * 10 ^ K)) 9223372036854775807 = m) : r1 = (if bl then -(m : Int) else (m : Int)) ∧ r2 = 0 := by
  obtain ⟨h1, h2⟩ := H
  unfold numR at h1
  rw [if_neg h2, e] at h1
  simp only [Prod.mk.injEq] at h1
  exact ⟨h1.1.symm, h1.2.symm⟩
theorem one_cellB (x : Int) : ∀ u ∈ [Value.int .u8 x], u.oneCell' = true := by
  intro u hu
  simp at hu
  subst hu
  rfl
theorem owns_rowB {w : World} {base n : Nat} {v : Value} {D : Nat → Nat} (h : w.ownsRow base 5 1 v n ((List.range n).map fun i => Value.int .u8 (D i : Int))) : ∃ ao cap, v = .slice ao n cap ∧ RowB w ao n D := by
  rcases h.2 with ⟨rfl, rfl⟩ | ⟨g, cap, cur, rfl, hb, hg, hn, _, hsz, hxs⟩
  · exact ⟨none, 0, rfl, Or.inl rfl⟩
  · refine ⟨_, cap, rfl, Or.inr ⟨g, 0, rfl, fun i hi => ?_⟩⟩
    rw [Nat.zero_add, cell_of_row w g i cur 5 (0, 0) hg]
    have e : (cur.toList.take (n * 1))[i]? = some (.int .u8 (D i : Int)) := by rw [hxs]; simp [hi]
    rw [List.getElem?_take, if_pos (by omega)] at e
    simpa using e

set_option maxRecDepth 100000 in
set_option maxHeartbeats 8000000 in
theorem refGet_full (s : ByteArray) (r1 r2 : Int) (hs : s.size ≤ 1000000) (hp : 0 < s.size) (hG : getR s.data.toList = (r1, r2)) (w : World) :
    Calls Tryz.prog 17 #[.string s] w fun e w' => e = .returned (.tuple #[.int .i64 r1, .int .i64 r2]) ∧ Kp w w' := by
  obtain ⟨bl, hbl⟩ : ∃ bl, ((s[0].toNat : Int) == 45) = bl := ⟨_, rfl⟩
  obtain ⟨T, hT⟩ : ∃ T : ByteArray, T = if bl then s.extract 1 s.size else s := ⟨_, rfl⟩
  have hneg : negL s.data.toList = bl := by
    rw [← hbl]
    unfold negL
    rw [Bool.eq_iff_iff]
    simp only [decide_eq_true_eq, beq_iff_eq]
    rw [len_list, getD_byte s 0 hp, byte45]
    exact ⟨fun h => h.2, fun h => ⟨hp, h⟩⟩
  have ht : T.data.toList = restL s.data.toList := by
    unfold restL
    rw [hneg, hT]
    cases bl
    · rfl
    · exact ext_list s 1
  have hTs : T.size ≤ 1000000 := by
    rw [hT]
    cases bl
    · exact hs
    · show (s.extract 1 s.size).size ≤ _
      rw [ext_size]; omega
  have HT := hide hT
  have F0 : Hid (∀ x, formL T.data.toList = x → (match x with | none => (0, 5) | some (h, N, K) => numR bl h N K) = (r1, r2)) := by
    intro x hx
    rw [← hG, ← hneg]
    unfold getR
    rw [← ht, hx]
    cases x <;> rfl
  clear hT hG hneg ht
  go_enter Tryz.func17, Tryz.ntmps17
  go_upto_if 27 with fail
  go_cut [0] (fun a wx => a = .string T ∧ w = wx)
  case first =>
    cases bl
    · have e : T = s := unhide HT
      go_wp2_with fail
      go_meet
      case rel => exact ⟨by rw [e], rfl⟩
    · have e : T = s.extract 1 s.size := unhide HT
      have E := hide e
      clear e
      go_wp2_with fail
      go_meet
      case rel => exact ⟨by rw [unhide E], rfl⟩
  case rest =>
    obtain ⟨rfl, rfl⟩ := hcut
    clear HT hbl hp hs
    have D := hide (refDigits T (by omega))
    have hnl := nd_le T.data.toList
    rw [len_list] at hnl
    obtain ⟨t, htt⟩ : ∃ t, T.data.toList = t := ⟨_, rfl⟩
    rw [htt] at D hnl F0
    have HTT := hide htt
    obtain ⟨n, hn⟩ : ∃ n, nd t = n := ⟨_, rfl⟩
    rw [hn] at D hnl
    have HN := hide hn
    clear hn htt
    go_wp2_with fail
    refine (unhide D _).mono ?_
    rintro e w1 ⟨rfl, rfl⟩
    clear D
    by_cases c1 : n < 1
    · have := unhide F0 none (form_none1 (Or.inl (by rw [unhide HN]; exact c1)))
      obtain ⟨rfl, rfl⟩ : (0 : Int) = r1 ∧ (5 : Int) = r2 := by simpa using this
      clear this F0
      go_wp2
      go_ret2
      exact ⟨rfl, Kp.refl _⟩
    by_cases c2 : 10 < n
    · have := unhide F0 none (form_none1 (Or.inr (Or.inl (by rw [unhide HN]; exact c2))))
      obtain ⟨rfl, rfl⟩ : (0 : Int) = r1 ∧ (5 : Int) = r2 := by simpa using this
      clear this F0
      go_wp2
      go_ret2
      exact ⟨rfl, Kp.refl _⟩
    have hT0 : 0 < T.size := by omega
    have b0 : t.getD 0 0 = T[0] := by rw [← unhide HTT]; exact getD_byte T 0 hT0
    have B0 := hide b0
    clear b0
    by_cases c3 : 1 < n ∧ (T[0].toNat : Int) = 48
    · obtain ⟨c4, c5⟩ := c3
      have := unhide F0 none (form_none1 (Or.inr (Or.inr ⟨by rw [unhide HN]; exact c4, by rw [unhide B0, byte48]; exact c5⟩)))
      obtain ⟨rfl, rfl⟩ : (0 : Int) = r1 ∧ (5 : Int) = r2 := by simpa using this
      clear this F0
      go_wp2
      go_ret2
      exact ⟨rfl, Kp.refl _⟩
    have C : Hid (¬ (nd t < 1 ∨ 10 < nd t ∨ (1 < nd t ∧ t.getD 0 0 = 48))) := by
      rw [Hid, unhide HN, unhide B0, byte48]
      omega
    go_upto_region 5 with fail
    go_cut [46] (fun a wx => a = .bool false ∧ w1 = wx)
    case first =>
      by_cases c4 : 1 < n
      · have c5 : ¬ ((T[0].toNat : Int) = 48) := fun h => c3 ⟨c4, h⟩
        have c6 : ((T[0].toNat : Int) == 48) = false := by simpa using c5
        clear c3 c5
        have cc : (decide ((n : Int) < 1) || decide (10 < (n : Int))) = false := by simp; omega
        have CC := hide cc
        clear cc
        go_wp2_with fail
        go_meet
        case rel => exact ⟨by rw [unhide CC], rfl⟩
      · clear c3
        have cc : (decide ((n : Int) < 1) || decide (10 < (n : Int))) = false := by simp; omega
        have CC := hide cc
        clear cc
        go_wp2_with fail
        go_meet
        case rel => exact ⟨by rw [unhide CC], rfl⟩
    case rest =>
      obtain ⟨rfl, rfl⟩ := hcut
      clear c3 B0
      go_wp2_with fail
      go_loop [6, 7] (fun h i => ∃ k : Nat, k ≤ n ∧ i = .int .i64 k ∧ h = .int .u64 (preV (dig t) k : Int)) (fun _ i => n - (intOf i).toNat)
      case atStart => exact ⟨0, Nat.zero_le _, rfl, rfl⟩
      case round =>
        obtain ⟨k, hk, rfl, rfl⟩ := hrel
        by_cases hlt : k < n
        · have bk : t.getD k 0 = T[k] := by rw [← unhide HTT]; exact getD_byte T k (by omega)
          have dk := dig_le t k (by rw [unhide HN]; exact hlt)
          have ek : dig t k = T[k].toNat - 48 := by unfold dig; rw [bk]
          rw [bk] at dk
          have p1 : preV (dig t) k < 10 ^ k := preV_lt (dig t) k (fun i hi => (dig_le t i (by rw [unhide HN]; omega)).1)
          have p2 : 10 ^ k ≤ 10 ^ 10 := Nat.pow_le_pow_right (by omega) (by omega)
          have E : Hid (preV (dig t) (k + 1) = 10 * preV (dig t) k + (T[k].toNat - 48)) := by rw [← ek]; rfl
          have q1 : (preV (dig t) k : Int) ≤ 10000000000 := by omega
          have q2 : (48 : Int) ≤ (T[k].toNat : Int) := by omega
          have q3 : (T[k].toNat : Int) ≤ 57 := by omega
          clear bk dk ek p1 p2
          generalize preV (dig t) k = P at *
          go_wp2
          go_round
          case rel => exact ⟨k + 1, by omega, by go_num, by rw [unhide E]; go_num⟩
          case measure => simp [intOf]; omega
        · obtain rfl : n = k := by omega
          have hh : preV (dig t) n < 10 ^ n := preV_lt (dig t) n (fun i hi => (dig_le t i (by rw [unhide HN]; exact hi)).1)
          have h10 : 10 ^ n ≤ 10 ^ 10 := Nat.pow_le_pow_right (by omega) (by omega)
          have hh2 : (preV (dig t) n : Int) ≤ 10000000000 := by omega
          clear hh h10
          obtain ⟨hi, ehi⟩ : ∃ hi, preV (dig t) n = hi := ⟨_, rfl⟩
          rw [ehi] at hh2
          have EH := hide ehi
          rw [ehi]
          clear ehi
          go_upto_if 63 with fail
          go_cut [8, 9, 10] (fun d a b wx => ∃ (ao : Option Addr) (cap K : Nat) (Dg : Nat → Nat), d = .slice ao K cap ∧ K ≤ 32 ∧ Hid (RowB wx ao K Dg ∧ (∀ i, i < K → Dg i ≤ 9) ∧ formL t = some (hi, preV Dg K, K) ∧ Kp w1 wx))
          case first =>
            by_cases c7 : n < T.size
            · have D2 := hide (refDigits (T.extract (n + 1) T.size) (by rw [ext_size]; omega))
              rw [ext_list, unhide HTT] at D2
              have hkl := nd_le (t.drop (n + 1))
              rw [List.length_drop, ← unhide HTT, len_list, unhide HTT] at hkl
              obtain ⟨rr, hrr⟩ : ∃ rr, t.drop (n + 1) = rr := ⟨_, rfl⟩
              rw [hrr] at D2 hkl
              obtain ⟨kk, hkk⟩ : ∃ kk, nd rr = kk := ⟨_, rfl⟩
              rw [hkk] at D2 hkl
              have HRR := hide hrr
              have HKK := hide hkk
              clear hrr hkk
              have bn : t.getD n 0 = T[n] := by rw [← unhide HTT]; exact getD_byte T n c7
              have BN := hide bn
              clear bn
              have C7 : Hid (nd t < t.length) := by rw [Hid, unhide HN, ← unhide HTT, len_list]; exact c7
              go_wp2_with fail
              refine (unhide D2 _).mono ?_
              rintro e w2 ⟨rfl, rfl⟩
              clear D2
              have FB : Hid (¬ ((T[n].toNat : Int) = 46) ∨ kk < 1 ∨ 32 < kk ∨ n + 1 + kk < T.size → formL t = none) := by
                intro h
                refine form_none2 (unhide C) (unhide C7) ?_
                rw [unhide HN, unhide BN, unhide HRR, unhide HKK, ← unhide HTT, len_list, ne_eq, byte46]
                exact h
              have FG : Hid (¬ (¬ ((T[n].toNat : Int) = 46) ∨ kk < 1 ∨ 32 < kk ∨ n + 1 + kk < T.size) → formL t = some (hi, preV (dig rr) kk, kk)) := by
                intro h
                rw [form_some2 (unhide C) (unhide C7) (by rw [unhide HN, unhide BN, unhide HRR, unhide HKK, ← unhide HTT, len_list, ne_eq, byte46]; exact h), unhide HN, unhide HRR, unhide HKK, unhide EH]
              by_cases e1 : (T[n].toNat : Int) = 46
              · by_cases e2 : kk < 1
                · have := unhide F0 none (unhide FB (Or.inr (Or.inl e2)))
                  obtain ⟨rfl, rfl⟩ : (0 : Int) = r1 ∧ (5 : Int) = r2 := by simpa using this
                  clear this F0
                  go_wp2
                  go_ret2
                  exact ⟨rfl, Kp.refl _⟩
                by_cases e3 : 32 < kk
                · have := unhide F0 none (unhide FB (Or.inr (Or.inr (Or.inl e3))))
                  obtain ⟨rfl, rfl⟩ : (0 : Int) = r1 ∧ (5 : Int) = r2 := by simpa using this
                  clear this F0
                  go_wp2
                  go_ret2
                  exact ⟨rfl, Kp.refl _⟩
                by_cases e4 : n + 1 + kk < T.size
                · have := unhide F0 none (unhide FB (Or.inr (Or.inr (Or.inr e4))))
                  obtain ⟨rfl, rfl⟩ : (0 : Int) = r1 ∧ (5 : Int) = r2 := by simpa using this
                  clear this F0
                  go_wp2
                  go_ret2
                  exact ⟨rfl, Kp.refl _⟩
                have GOOD := hide (unhide FG (by omega))
                clear FB FG
                obtain ⟨i0, hi', hz0, hz1, hz2⟩ := info_parts Tryz.infoByte
                obtain ⟨B, hB⟩ : ∃ B, w2.heap.size = B := ⟨_, rfl⟩
                have HB := hide hB
                clear hB
                go_wp2_with fail
                go_loopw [8, 10] (fun v i wr => ∃ j : Nat, j ≤ kk ∧ i = .int .i64 j ∧ Hid (wr.ownsRow B 5 1 v j ((List.range j).map fun x => Value.int .u8 (dig rr x : Int)) ∧ B ≤ wr.heap.size ∧ Kp w2 wr)) (fun _ i _ => kk - (intOf i).toNat)
                case atStart => exact ⟨0, Nat.zero_le _, rfl, World.ownsRow_nil _ _ _ _, Nat.le_of_eq (unhide HB).symm, Kp.refl _⟩
                case round =>
                  obtain ⟨j, hj, rfl, HV⟩ := hrel
                  by_cases hlt2 : j < kk
                  · have jb : n + 1 + j < T.size := by omega
                    have bj : rr.getD j 0 = T[n + 1 + j] := by
                      rw [← unhide HRR, ← unhide HTT, ← getD_byte T (n + 1 + j) jb]
                      simp [List.getD, List.getElem?_drop]
                    have dj := dig_le rr j (by rw [unhide HKK]; exact hlt2)
                    have ej : (dig rr j : Int) = (T[n + 1 + j].toNat : Int) - 48 := by unfold dig; rw [bj]; rw [bj] at dj; omega
                    have EJ := hide ej
                    rw [bj] at dj
                    have q2 : (48 : Int) ≤ (T[n + 1 + j].toNat : Int) := by omega
                    have q3 : (T[n + 1 + j].toNat : Int) ≤ 57 := by omega
                    clear bj dj ej
                    have HO := hide (unhide HV).1
                    have HBS := hide (unhide HV).2.1
                    go_wp2_with (at_builtin; refine wpList_append_own _ rfl _ _ 50 rfl B 5 i0 (.int .u8 0) 1 1 Tryz.underlying50 hi' hz0 hz1 hz2 rfl (by decide) _ _ _ rfl ((unhide HO).alloc _) ⟨wr.heap.size, 0, none⟩ 1 1 [.int .u8 ((T[n + 1 + j].toNat : Int) - 48)] rfl rfl (news_one _ _ _) (one_cellB _) (by unfold maxLen; omega) (by omega) (by have := unhide HBS; simp; omega) ?_; intro v' w6 hown' hgrow _)
                    have R : Hid (w6.ownsRow B 5 1 v' (j + 1) ((List.range (j + 1)).map fun x => Value.int .u8 (dig rr x : Int)) ∧ B ≤ w6.heap.size ∧ Kp w2 w6) := by
                      have lt := ((unhide HO).alloc (Obj.cells #[Value.int .u8 ((T[n + 1 + j].toNat : Int) - 48)] 5)).lt
                      refine ⟨?_, ?_, ?_⟩
                      · rw [List.range_succ, List.map_append, List.map_singleton, unhide EJ]
                        exact hown'
                      · have h1 : wr.heap.size + 1 ≤ w6.heap.size := by have := hgrow.size; simpa using this
                        have h2 := unhide HBS
                        omega
                      · refine Kp.by ((unhide HV).2.2.alloc _ _) hgrow (fun i e => ?_)
                        have h1 := (lt i e).1
                        have h2 := unhide HB
                        omega
                    clear hown' hgrow HV HO HBS EJ
                    go_wp2
                    go_roundw
                    case rel => exact ⟨j + 1, by omega, by go_num, R⟩
                    case measure => simp [intOf]; omega
                  · obtain rfl : kk = j := by omega
                    obtain ⟨ao2, cap2, rfl, row2⟩ := owns_rowB (unhide HV).1
                    have RW := hide (And.intro row2 (unhide HV).2.2)
                    clear row2 HV
                    go_wp2_with fail
                    go_meet
                    case rel => exact ⟨ao2, cap2, kk, dig rr, rfl, by omega, (unhide RW).1, fun i hi => (dig_le rr i (by rw [unhide HKK]; exact hi)).1, unhide GOOD, (unhide RW).2⟩
              · have := unhide F0 none (unhide FB (Or.inl e1))
                obtain ⟨rfl, rfl⟩ : (0 : Int) = r1 ∧ (5 : Int) = r2 := by simpa using this
                clear this F0
                go_wp2
                go_ret2
                exact ⟨rfl, Kp.refl _⟩
            · have C7 : Hid (¬ nd t < t.length) := by rw [Hid, unhide HN, ← unhide HTT, len_list]; exact c7
              go_wp2_with fail
              go_meet
              case rel => exact ⟨none, 0, 0, fun _ => 0, rfl, by omega, Or.inl rfl, fun i hi => absurd hi (Nat.not_lt_zero _), by rw [form_some1 (unhide C) (unhide C7), unhide HN, unhide EH]; rfl, Kp.refl _⟩
          case rest =>
            obtain ⟨ao, cap, K, Dg, rfl, hK, HC⟩ := hcut
            have FX := hide (unhide F0 _ (unhide HC).2.2.1)
            have NG := hide (fun w h => refNought ao K cap Dg (by omega) (unhide HC).2.1 w h)
            clear F0 C
            by_cases g1 : 2147483648 < hi
            · have := unhide FX
              simp only [numR, if_pos (Or.inl g1)] at this
              obtain ⟨rfl, rfl⟩ : (0 : Int) = r1 ∧ (4 : Int) = r2 := by simpa using this
              clear this FX NG
              go_wp2
              go_ret2
              exact ⟨rfl, (unhide HC).2.2.2⟩
            by_cases g2 : hi = 2147483648 ∧ preV Dg K ≠ 0
            · have := unhide FX
              simp only [numR, if_pos (Or.inr g2)] at this
              obtain ⟨rfl, rfl⟩ : (0 : Int) = r1 ∧ (4 : Int) = r2 := by simpa using this
              clear this FX
              obtain ⟨rfl, g3⟩ := g2
              have g4 : decide (preV Dg K = 0) = false := by simpa using g3
              rw [g4] at NG
              clear g3 g4
              go_wp2_with fail
              refine (unhide NG _ (unhide HC).1).mono ?_
              rintro e w3 ⟨rfl, rfl⟩
              go_wp2
              go_ret2
              exact ⟨rfl, (unhide HC).2.2.2⟩
            have g3 : ¬ (2147483648 < hi ∨ (hi = 2147483648 ∧ preV Dg K ≠ 0)) := by
              intro h
              rcases h with h | h
              · exact g1 h
              · exact g2 h
            have FY : ResP bl hi (preV Dg K) K r1 r2 := ⟨unhide FX, g3⟩
            clear FX g3
            go_upto_region 21 with fail
            go_cut [6, 115] (fun h a wx => h = .int .u64 (hi : Int) ∧ a = .bool false ∧ wc = wx)
            case first =>
              by_cases g4 : hi = 2147483648
              · have g5 : preV Dg K = 0 := by
                  by_cases e : preV Dg K = 0
                  · exact e
                  · exact absurd ⟨g4, e⟩ g2
                have g6 : decide (preV Dg K = 0) = true := by simpa using g5
                rw [g6] at NG
                clear g2 g5 g6
                have E4 := hide g4
                have g7 : (hi : Int) = 2147483648 := by omega
                clear g4 g1
                go_wp2_with fail
                refine (unhide NG _ (unhide HC).1).mono ?_
                rintro e w3 ⟨rfl, rfl⟩
                go_wp2_with fail
                go_meet
                case rel => exact ⟨by rw [unhide E4]; rfl, rfl, rfl⟩
              · have g5 : (hi : Int) ≤ 2147483647 := by omega
                have g6 : ((hi : Int) == 2147483648) = false := beq_eq_false_iff_ne.2 (by omega)
                have G5 : Hid (decide ((2147483648 : Int) < (hi : Int)) = false) := decide_eq_false (by omega)
                clear g1 g2 g4
                go_wp2_with fail
                go_meet
                case rel => exact ⟨rfl, by first | rfl | (rw [unhide G5]), rfl⟩
            case rest =>
              obtain ⟨rfl, rfl, rfl⟩ := hcut
              clear NG g2
              have hhi : (hi : Int) ≤ 2147483648 := by omega
              clear g1
              go_wp2_with fail
              go_loopw [8, 11, 12] (fun d lo i wr => ∃ (j l : Nat) (ao : Option Addr) (cap : Nat) (D : Nat → Nat), j ≤ 32 ∧ i = .int .i64 j ∧ lo = .int .u64 (l : Int) ∧ d = .slice ao K cap ∧ LowI (preV Dg K) K j l D ∧ RowB wr ao K D ∧ Kp w1 wr) (fun _ _ i _ => 32 - (intOf i).toNat)
              case atStart => exact ⟨0, 0, ao, cap, Dg, by omega, rfl, rfl, rfl, LowI.start K Dg (unhide HC).2.1, (unhide HC).1, (unhide HC).2.2.2⟩
              case round =>
                obtain ⟨j, l, ao', cap', D, hj, rfl, rfl, rfl, i1, i2, i3⟩ := hrel
                have DB := hide (refDoubled ao' K cap' D (by omega) i1.2.1)
                have lb := i1.bound hj
                have lb2 : (l : Int) ≤ 4294967295 := by omega
                clear lb
                by_cases hlt : j < 32
                · go_wp2_with fail
                  refine (unhide DB _ i2).mono ?_
                  rintro e w3 hp3
                  obtain ⟨O, rfl, o1, o2, o3, o4⟩ := hp3
                  obtain ⟨q, hq⟩ : ∃ q, decide (10 ^ K ≤ 2 * preV D K) = q := ⟨_, rfl⟩
                  rw [hq]
                  have R1 := i1.step hq o1 o2
                  have R2 := i3.grown o4
                  clear hq o1 o2 o4 DB i1 i2 i3
                  cases q
                  all_goals
                    go_wp2
                    go_roundw
                    case rel => exact ⟨j + 1, _, _, _, O, by omega, by go_num, by go_num, rfl, R1, o3, R2⟩
                    case measure => simp [intOf]; omega
                · obtain rfl : 32 = j := by omega
                  go_wp2_with fail
                  refine (unhide DB _ i2).mono ?_
                  rintro e w3 hp3
                  obtain ⟨O, rfl, -, -, -, o4⟩ := hp3
                  obtain ⟨q, hq⟩ : ∃ q, decide (10 ^ K ≤ 2 * preV D K) = q := ⟨_, rfl⟩
                  rw [hq]
                  obtain ⟨m, hm⟩ : ∃ m, min (hi * 4294967296 + (2 * preV Dg K * 4294967296 + 10 ^ K) / (2 * 10 ^ K)) 9223372036854775807 = m := ⟨_, rfl⟩
                  have RE := hide (FY.eq hm)
                  rw [← i1.done hq] at hm
                  have R2 := i3.grown o4
                  have HM := hide hm
                  clear hm hq DB i1 i2 i3 o4 FY
                  cases q
                  · have hm2 := unhide HM
                    rw [if_neg (by decide), Nat.add_zero] at hm2
                    rcases (show (hi * 4294967296 + l ≤ 9223372036854775807 ∧ m = hi * 4294967296 + l) ∨ (9223372036854775808 ≤ hi * 4294967296 + l ∧ m = 9223372036854775807) by omega) with v | v
                    · clear HM hm2
                      have v1 : (hi : Int) * 4294967296 + (l : Int) ≤ 9223372036854775807 := by omega
                      have v2 : (m : Int) = (hi : Int) * 4294967296 + (l : Int) := by omega
                      rw [v2] at RE
                      clear v v2
                      cases bl
                      · obtain ⟨e1, rfl⟩ := unhide RE
                        rw [if_neg (by decide)] at e1
                        subst e1
                        clear RE
                        go_wp2
                        go_ret2
                        exact ⟨rfl, R2⟩
                      · obtain ⟨e1, rfl⟩ := unhide RE
                        rw [if_pos rfl] at e1
                        subst e1
                        clear RE
                        go_wp2
                        go_ret2
                        exact ⟨rfl, R2⟩
                    · clear HM hm2
                      have v1 : 9223372036854775808 ≤ (hi : Int) * 4294967296 + (l : Int) := by omega
                      have v2 : (m : Int) = 9223372036854775807 := by omega
                      rw [v2] at RE
                      clear v v2
                      cases bl
                      · obtain ⟨e1, rfl⟩ := unhide RE
                        rw [if_neg (by decide)] at e1
                        subst e1
                        clear RE
                        go_wp2
                        go_ret2
                        exact ⟨rfl, R2⟩
                      · obtain ⟨e1, rfl⟩ := unhide RE
                        rw [if_pos rfl] at e1
                        subst e1
                        clear RE
                        go_wp2
                        go_ret2
                        exact ⟨rfl, R2⟩
                  · have hm2 := unhide HM
                    rw [if_pos rfl] at hm2
                    rcases (show (hi * 4294967296 + l + 1 ≤ 9223372036854775807 ∧ m = hi * 4294967296 + l + 1) ∨ (9223372036854775808 ≤ hi * 4294967296 + l + 1 ∧ m = 9223372036854775807) by omega) with v | v
                    · clear HM hm2
                      have v1 : (hi : Int) * 4294967296 + (l : Int) + 1 ≤ 9223372036854775807 := by omega
                      have v2 : (m : Int) = (hi : Int) * 4294967296 + (l : Int) + 1 := by omega
                      rw [v2] at RE
                      clear v v2
                      cases bl
                      · obtain ⟨e1, rfl⟩ := unhide RE
                        rw [if_neg (by decide)] at e1
                        subst e1
                        clear RE
                        go_wp2
                        go_ret2
                        exact ⟨rfl, R2⟩
                      · obtain ⟨e1, rfl⟩ := unhide RE
                        rw [if_pos rfl] at e1
                        subst e1
                        clear RE
                        go_wp2
                        go_ret2
                        exact ⟨rfl, R2⟩
                    · clear HM hm2
                      have v1 : 9223372036854775808 ≤ (hi : Int) * 4294967296 + (l : Int) + 1 := by omega
                      have v2 : (m : Int) = 9223372036854775807 := by omega
                      rw [v2] at RE
                      clear v v2
                      cases bl
                      · obtain ⟨e1, rfl⟩ := unhide RE
                        rw [if_neg (by decide)] at e1
                        subst e1
                        clear RE
                        go_wp2
                        go_ret2
                        exact ⟨rfl, R2⟩
                      · obtain ⟨e1, rfl⟩ := unhide RE
                        rw [if_pos rfl] at e1
                        subst e1
                        clear RE
                        go_wp2
                        go_ret2
                        exact ⟨rfl, R2⟩

/-- What the document's Get answers. -/
theorem refGetT (s : ByteArray) (hs : s.size ≤ 1000000) (w : World) :
    Calls Tryz.prog 17 #[.string s] w fun e w' => e = .returned (.tuple #[.int .i64 (getR s.data.toList).1, .int .i64 (getR s.data.toList).2]) ∧ Kp w w' := by
  by_cases hp : 0 < s.size
  · exact refGet_full s _ _ hs hp rfl w
  · have h0 : s.size = 0 := by omega
    have e : getR s.data.toList = (0, 5) := by
      have hl : s.data.toList = [] := List.eq_nil_of_length_eq_zero (by rw [len_list]; exact h0)
      rw [hl]
      rfl
    rw [e]
    exact refGet_empty s h0 w

end Go.Proofs.YtnelkhmahmoclaaGreatDoor
