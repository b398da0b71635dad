/- The document's text: a number's decimal, and a line. -/
import Derived.Test.YtnelkhmahmoclaaGreatDoorTextMath
import Derived.Test.YtnelkhmahmoclaaGreatDoorWideA
import Derived.Laws.IdiomStrings
import Derived.Deep.LoopGhost
namespace Go.Proofs.YtnelkhmahmoclaaGreatDoor
open Go.RowKit Go.Proofs.Wd
set_option linter.unusedVariables false
set_option linter.unusedSimpArgs false
set_option maxRecDepth 10000

theorem one_byte (c : UInt8) (w : World) : (convert 50 9 (.slice (some ⟨w.heap.size, 0, none⟩) 1 1)).run Tryz.prog (w.alloc (.cells #[.int .u8 (c.toNat : Int)] 5)) = .ok (.string ⟨#[c]⟩) (w.alloc (.cells #[.int .u8 (c.toNat : Int)] 5)) := by
  have := run_convert_bytes_back (P := Tryz.prog) (w.alloc (.cells #[.int .u8 (c.toNat : Int)] 5)) 50 9 5 ⟨w.heap.size, 0, none⟩ 1 [c] Tryz.underlying50 Tryz.underlying5 Tryz.underlying9 (fun j hj => by
    match j, hj with
    | 0, _ => simp [Addr.add])
  exact this

set_option maxHeartbeats 400000 in
theorem refDigit (n : Nat) (h1 : n < 10) (w : World) :
    Calls Tryz.prog 34 #[.int .u64 (n : Int)] w fun e w' => e = .returned (.string ⟨#[chr n]⟩) ∧ Grown w w' := by
  have hb := one_byte (chr n) w
  rw [chr_nat n h1, show ((48 + n : Nat) : Int) = 48 + (n : Int) by omega] at hb
  go_enter Tryz.func34, Tryz.ntmps34
  go_wp2
  go_ret
  exact ⟨rfl, (Grown.refl _).alloc _ _⟩

theorem str_add (x y : List UInt8) (h : x.length + y.length ≤ 9223372036854775807) (w : World) : (Op.stringOp .add ⟨x.toArray⟩ ⟨y.toArray⟩).run Tryz.prog w = .ok (.string ⟨(x ++ y).toArray⟩) w := by
  rw [run_string_add_sum w _ _ (by simpa [ByteArray.size] using h), ByteArray.mk_append_mk]

set_option maxHeartbeats 400000 in
theorem refWholeT : ∀ (n : Nat), n < 18446744073709551616 → ∀ (w : World), Calls Tryz.prog 33 #[.int .u64 (n : Int)] w fun e w' => e = .returned (.string ⟨(wholeL n).toArray⟩) ∧ Grown w w' := by
  intro n
  induction n using Nat.strongRecOn with
  | ind n ih =>
    intro hn w
    by_cases c : n < 10
    · rw [wholeL_lt n c]
      go_enter Tryz.func33, Tryz.ntmps33
      go_wp2_with fail
      refine (refDigit n c _).mono ?_
      rintro e w1 ⟨rfl, g1⟩
      go_wp2
      go_ret
      exact ⟨rfl, g1⟩
    · have hl := wholeL_len20 (n / 10) (by omega)
      have IH := hide (ih (n / 10) (by omega) (by omega))
      clear ih
      have D := hide (fun w => refDigit (n % 10) (by omega) w)
      rw [show ((n / 10 : Nat) : Int) = (n : Int) / 10 from by omega] at IH
      rw [show ((n % 10 : Nat) : Int) = (n : Int) % 10 from by omega] at D
      have hs := str_add (wholeL (n / 10)) [chr (n % 10)] (by simp; omega)
      have E := hide (wholeL_ge n c)
      rw [unhide E]
      clear E
      go_enter Tryz.func33, Tryz.ntmps33
      go_wp2_with fail
      refine (unhide IH _).mono ?_
      rintro e w1 ⟨rfl, g1⟩
      have G1 := hide g1
      clear g1
      go_wp2_with fail
      refine (unhide D _).mono ?_
      rintro e w2 ⟨rfl, g2⟩
      have G2 := hide (gtrans (unhide G1) g2)
      clear g2
      go_wp2
      go_ret
      exact ⟨rfl, unhide G2⟩

theorem str_len (l : List UInt8) : (ByteArray.mk l.toArray).size = l.length := by simp [ByteArray.size]

set_option maxHeartbeats 4000000 in
theorem refPutT_core (a : Int) (sg : List UInt8) (m : Nat) (hm : m < 9223372036854775808) (ha : (a = (m : Int) ∧ sg = []) ∨ (a = -(m : Int) ∧ 0 < m ∧ sg = [45]) ∨ (a = -9223372036854775808 ∧ m = 9223372036854775807 ∧ sg = [45])) (w : World) :
    Calls Tryz.prog 12 #[.int .i64 a] w fun e w' => e = .returned (.string ⟨(sg ++ wholeL (m / 4294967296) ++ (if m % 4294967296 = 0 then [] else 46 :: fracL 32 (m % 4294967296))).toArray⟩) ∧ Grown w w' := by
  have hW := hide (refWholeT (m / 4294967296) (by omega))
  have hl := wholeL_len20 (m / 4294967296) (by omega)
  rw [show ((m / 4294967296 : Nat) : Int) = (m : Int) / 4294967296 from by omega] at hW
  generalize wholeL (m / 4294967296) = wl at *
  have hr : m % 4294967296 < 4294967296 := Nat.mod_lt _ (by omega)
  have er : ((m % 4294967296 : Nat) : Int) = (m : Int) % 4294967296 := by omega
  have ER := hide er
  clear er
  generalize m % 4294967296 = r0 at *
  have hsl : sg.length ≤ 1 := by rcases ha with ⟨_, h⟩ | ⟨_, _, h⟩ | ⟨_, _, h⟩ <;> rw [h] <;> simp
  obtain ⟨S0, hS0⟩ : ∃ S : ByteArray, S = ⟨(sg ++ wl ++ (if r0 = 0 then [] else 46 :: fracL 32 r0)).toArray⟩ := ⟨_, rfl⟩
  obtain ⟨SG, hSG⟩ : ∃ S : ByteArray, S = ⟨sg.toArray⟩ := ⟨_, rfl⟩
  obtain ⟨SW, hSW⟩ : ∃ S : ByteArray, S = ⟨wl.toArray⟩ := ⟨_, rfl⟩
  obtain ⟨S1, hS1⟩ : ∃ S : ByteArray, S = ⟨(sg ++ wl).toArray⟩ := ⟨_, rfl⟩
  obtain ⟨S2, hS2⟩ : ∃ S : ByteArray, S = ⟨(sg ++ wl ++ [46]).toArray⟩ := ⟨_, rfl⟩
  rw [← hS0]
  rw [← hSW] at hW
  have hs1 : ∀ w, (Op.stringOp .add SG SW).run Tryz.prog w = .ok (.string S1) w := fun w => by rw [hSG, hSW, hS1]; exact str_add sg wl (by omega) w
  have hs2 : ∀ w, (Op.stringOp .add S1 ⟨#[46]⟩).run Tryz.prog w = .ok (.string S2) w := fun w => by rw [hS1, hS2]; exact str_add (sg ++ wl) [46] (by simp; omega) w
  have HS0 := hide hS0
  have HS1 := hide hS1
  have HS2 := hide hS2
  clear hS0 hSW hS1 hS2
  rcases ha with ⟨rfl, e⟩ | ⟨rfl, hm0, e⟩ | ⟨rfl, rfl, e⟩
  · rw [e] at hSG
    rw [hSG] at hs1
    clear e hSG
    go_enter Tryz.func12, Tryz.ntmps12
    go_wp2_with fail
    refine (unhide hW _).mono ?_
    rintro e w1 ⟨rfl, g1⟩
    have G1 := hide g1
    clear g1
    by_cases hz : r0 = 0
    · have RET : Hid (∀ S : ByteArray, S = ⟨(sg ++ wl ++ fracL 32 r0).toArray⟩ → Ending.returned (.string S) = .returned (.string S0)) := fun S h => by rw [h, unhide HS0, hz, fracL_zero]; simp
      have rz : (m : Int) % 4294967296 = 0 := by have := unhide ER; omega
      go_wp2_with fail
      have RZ := hide rz
      clear rz
      go_loopg [4, 5] 32 (fun k out rest wr => ∃ (r : Nat) (S : ByteArray), rest = .int .u64 (r : Int) ∧ out = .string S ∧ Hid (∃ dn : List UInt8, S = ⟨((sg ++ wl) ++ dn).toArray⟩ ∧ dn.length + k ≤ 32 ∧ Even2 k r ∧ dn ++ fracL k r = fracL 32 r0 ∧ Grown w wr))
      case atStart => exact ⟨r0, _, by rw [unhide RZ, hz]; rfl, rfl, [], by rw [List.append_nil]; exact unhide HS1, by simp, Even2.start r0 hr, rfl, unhide G1⟩
      case round =>
        obtain ⟨r, S, rfl, rfl, HH⟩ := hrel
        clear G1
        by_cases hr0 : r = 0
        · subst hr0
          have HD : Hid (S = ⟨((sg ++ wl) ++ fracL 32 r0).toArray⟩ ∧ Grown w wr) := by
            obtain ⟨dn, h1, _, _, h2, h3⟩ := unhide HH
            rw [fracL_zero, List.append_nil] at h2
            rw [h1, h2]
            exact ⟨rfl, h3⟩
          clear HH
          go_wp2
          go_ret
          exact ⟨(unhide RET _ (unhide HD).1), (unhide HD).2⟩
        · obtain ⟨dn, q1, q2, q3, q4, q5⟩ := unhide HH
          have rb : r < 4294967296 := q3.2.1
          have rp : 0 < r := by omega
          obtain ⟨f, rfl⟩ : ∃ f, gk = f + 1 := by
            cases gk with
            | zero => exact absurd (q3.zero) hr0
            | succ f => exact ⟨f, rfl⟩
          have D := hide (fun w => refDigit (r * 10 / 4294967296) (by omega) w)
          rw [show ((r * 10 / 4294967296 : Nat) : Int) = (r : Int) * 10 / 4294967296 from by omega] at D
          have R := hide (And.intro q3.step (show dn ++ [chr (r * 10 / 4294967296)] ++ fracL f (r * 10 % 4294967296) = fracL 32 r0 by rw [← q4, fracL_step f r hr0, List.append_assoc]; rfl))
          generalize chr (r * 10 / 4294967296) = ch at *
          obtain ⟨S2, hS2⟩ : ∃ S2 : ByteArray, S2 = ⟨((sg ++ wl) ++ (dn ++ [ch])).toArray⟩ := ⟨_, rfl⟩
          have hs3 : ∀ w, (Op.stringOp .add S ⟨#[ch]⟩).run Tryz.prog w = .ok (.string S2) w := fun w => by
            rw [q1, hS2, ← List.append_assoc]
            exact str_add ((sg ++ wl) ++ dn) [ch] (by simp; omega) w
          have Q := hide (And.intro hS2 (And.intro q2 q5))
          clear q1 q2 q3 q4 q5 hS2 HH
          go_wp2_with fail
          refine (unhide D _).mono ?_
          rintro e w2 ⟨rfl, g2⟩
          have G2 := hide (gtrans (unhide Q).2.2 g2)
          clear g2 D
          go_wp2
          go_roundg f
          case measure => omega
          case rel => exact ⟨r * 10 % 4294967296, S2, by go_num, rfl, dn ++ [ch], (unhide Q).1, by have := (unhide Q).2.1; simp; omega, (unhide R).1, (unhide R).2, unhide G2⟩
    · have RET : Hid (∀ S : ByteArray, S = ⟨(sg ++ wl ++ [46] ++ fracL 32 r0).toArray⟩ → Ending.returned (.string S) = .returned (.string S0)) := fun S h => by rw [h, unhide HS0, if_neg hz]; simp
      have rz : (m : Int) % 4294967296 = (r0 : Int) := by have := unhide ER; omega
      have rp : 0 < r0 := by omega
      go_wp2_with fail
      have RZ := hide rz
      clear rz
      go_loopg [4, 5] 32 (fun k out rest wr => ∃ (r : Nat) (S : ByteArray), rest = .int .u64 (r : Int) ∧ out = .string S ∧ Hid (∃ dn : List UInt8, S = ⟨((sg ++ wl ++ [46]) ++ dn).toArray⟩ ∧ dn.length + k ≤ 32 ∧ Even2 k r ∧ dn ++ fracL k r = fracL 32 r0 ∧ Grown w wr))
      case atStart => exact ⟨r0, _, by rw [unhide RZ], rfl, [], by rw [List.append_nil]; exact unhide HS2, by simp, Even2.start r0 hr, rfl, unhide G1⟩
      case round =>
        obtain ⟨r, S, rfl, rfl, HH⟩ := hrel
        clear G1
        by_cases hr0 : r = 0
        · subst hr0
          have HD : Hid (S = ⟨((sg ++ wl ++ [46]) ++ fracL 32 r0).toArray⟩ ∧ Grown w wr) := by
            obtain ⟨dn, h1, _, _, h2, h3⟩ := unhide HH
            rw [fracL_zero, List.append_nil] at h2
            rw [h1, h2]
            exact ⟨rfl, h3⟩
          clear HH
          go_wp2
          go_ret
          exact ⟨(unhide RET _ (unhide HD).1), (unhide HD).2⟩
        · obtain ⟨dn, q1, q2, q3, q4, q5⟩ := unhide HH
          have rb : r < 4294967296 := q3.2.1
          have rp : 0 < r := by omega
          obtain ⟨f, rfl⟩ : ∃ f, gk = f + 1 := by
            cases gk with
            | zero => exact absurd (q3.zero) hr0
            | succ f => exact ⟨f, rfl⟩
          have D := hide (fun w => refDigit (r * 10 / 4294967296) (by omega) w)
          rw [show ((r * 10 / 4294967296 : Nat) : Int) = (r : Int) * 10 / 4294967296 from by omega] at D
          have R := hide (And.intro q3.step (show dn ++ [chr (r * 10 / 4294967296)] ++ fracL f (r * 10 % 4294967296) = fracL 32 r0 by rw [← q4, fracL_step f r hr0, List.append_assoc]; rfl))
          generalize chr (r * 10 / 4294967296) = ch at *
          obtain ⟨S2, hS2⟩ : ∃ S2 : ByteArray, S2 = ⟨((sg ++ wl ++ [46]) ++ (dn ++ [ch])).toArray⟩ := ⟨_, rfl⟩
          have hs3 : ∀ w, (Op.stringOp .add S ⟨#[ch]⟩).run Tryz.prog w = .ok (.string S2) w := fun w => by
            rw [q1, hS2, ← List.append_assoc]
            exact str_add ((sg ++ wl ++ [46]) ++ dn) [ch] (by simp; omega) w
          have Q := hide (And.intro hS2 (And.intro q2 q5))
          clear q1 q2 q3 q4 q5 hS2 HH
          go_wp2_with fail
          refine (unhide D _).mono ?_
          rintro e w2 ⟨rfl, g2⟩
          have G2 := hide (gtrans (unhide Q).2.2 g2)
          clear g2 D
          go_wp2
          go_roundg f
          case measure => omega
          case rel => exact ⟨r * 10 % 4294967296, S2, by go_num, rfl, dn ++ [ch], (unhide Q).1, by have := (unhide Q).2.1; simp; omega, (unhide R).1, (unhide R).2, unhide G2⟩
  · rw [e] at hSG
    rw [hSG] at hs1
    clear e hSG
    go_enter Tryz.func12, Tryz.ntmps12
    go_wp2_with fail
    refine (unhide hW _).mono ?_
    rintro e w1 ⟨rfl, g1⟩
    have G1 := hide g1
    clear g1
    by_cases hz : r0 = 0
    · have RET : Hid (∀ S : ByteArray, S = ⟨(sg ++ wl ++ fracL 32 r0).toArray⟩ → Ending.returned (.string S) = .returned (.string S0)) := fun S h => by rw [h, unhide HS0, hz, fracL_zero]; simp
      have rz : (m : Int) % 4294967296 = 0 := by have := unhide ER; omega
      go_wp2_with fail
      have RZ := hide rz
      clear rz
      go_loopg [4, 5] 32 (fun k out rest wr => ∃ (r : Nat) (S : ByteArray), rest = .int .u64 (r : Int) ∧ out = .string S ∧ Hid (∃ dn : List UInt8, S = ⟨((sg ++ wl) ++ dn).toArray⟩ ∧ dn.length + k ≤ 32 ∧ Even2 k r ∧ dn ++ fracL k r = fracL 32 r0 ∧ Grown w wr))
      case atStart => exact ⟨r0, _, by rw [unhide RZ, hz]; rfl, rfl, [], by rw [List.append_nil]; exact unhide HS1, by simp, Even2.start r0 hr, rfl, unhide G1⟩
      case round =>
        obtain ⟨r, S, rfl, rfl, HH⟩ := hrel
        clear G1
        by_cases hr0 : r = 0
        · subst hr0
          have HD : Hid (S = ⟨((sg ++ wl) ++ fracL 32 r0).toArray⟩ ∧ Grown w wr) := by
            obtain ⟨dn, h1, _, _, h2, h3⟩ := unhide HH
            rw [fracL_zero, List.append_nil] at h2
            rw [h1, h2]
            exact ⟨rfl, h3⟩
          clear HH
          go_wp2
          go_ret
          exact ⟨(unhide RET _ (unhide HD).1), (unhide HD).2⟩
        · obtain ⟨dn, q1, q2, q3, q4, q5⟩ := unhide HH
          have rb : r < 4294967296 := q3.2.1
          have rp : 0 < r := by omega
          obtain ⟨f, rfl⟩ : ∃ f, gk = f + 1 := by
            cases gk with
            | zero => exact absurd (q3.zero) hr0
            | succ f => exact ⟨f, rfl⟩
          have D := hide (fun w => refDigit (r * 10 / 4294967296) (by omega) w)
          rw [show ((r * 10 / 4294967296 : Nat) : Int) = (r : Int) * 10 / 4294967296 from by omega] at D
          have R := hide (And.intro q3.step (show dn ++ [chr (r * 10 / 4294967296)] ++ fracL f (r * 10 % 4294967296) = fracL 32 r0 by rw [← q4, fracL_step f r hr0, List.append_assoc]; rfl))
          generalize chr (r * 10 / 4294967296) = ch at *
          obtain ⟨S2, hS2⟩ : ∃ S2 : ByteArray, S2 = ⟨((sg ++ wl) ++ (dn ++ [ch])).toArray⟩ := ⟨_, rfl⟩
          have hs3 : ∀ w, (Op.stringOp .add S ⟨#[ch]⟩).run Tryz.prog w = .ok (.string S2) w := fun w => by
            rw [q1, hS2, ← List.append_assoc]
            exact str_add ((sg ++ wl) ++ dn) [ch] (by simp; omega) w
          have Q := hide (And.intro hS2 (And.intro q2 q5))
          clear q1 q2 q3 q4 q5 hS2 HH
          go_wp2_with fail
          refine (unhide D _).mono ?_
          rintro e w2 ⟨rfl, g2⟩
          have G2 := hide (gtrans (unhide Q).2.2 g2)
          clear g2 D
          go_wp2
          go_roundg f
          case measure => omega
          case rel => exact ⟨r * 10 % 4294967296, S2, by go_num, rfl, dn ++ [ch], (unhide Q).1, by have := (unhide Q).2.1; simp; omega, (unhide R).1, (unhide R).2, unhide G2⟩
    · have RET : Hid (∀ S : ByteArray, S = ⟨(sg ++ wl ++ [46] ++ fracL 32 r0).toArray⟩ → Ending.returned (.string S) = .returned (.string S0)) := fun S h => by rw [h, unhide HS0, if_neg hz]; simp
      have rz : (m : Int) % 4294967296 = (r0 : Int) := by have := unhide ER; omega
      have rp : 0 < r0 := by omega
      go_wp2_with fail
      have RZ := hide rz
      clear rz
      go_loopg [4, 5] 32 (fun k out rest wr => ∃ (r : Nat) (S : ByteArray), rest = .int .u64 (r : Int) ∧ out = .string S ∧ Hid (∃ dn : List UInt8, S = ⟨((sg ++ wl ++ [46]) ++ dn).toArray⟩ ∧ dn.length + k ≤ 32 ∧ Even2 k r ∧ dn ++ fracL k r = fracL 32 r0 ∧ Grown w wr))
      case atStart => exact ⟨r0, _, by rw [unhide RZ], rfl, [], by rw [List.append_nil]; exact unhide HS2, by simp, Even2.start r0 hr, rfl, unhide G1⟩
      case round =>
        obtain ⟨r, S, rfl, rfl, HH⟩ := hrel
        clear G1
        by_cases hr0 : r = 0
        · subst hr0
          have HD : Hid (S = ⟨((sg ++ wl ++ [46]) ++ fracL 32 r0).toArray⟩ ∧ Grown w wr) := by
            obtain ⟨dn, h1, _, _, h2, h3⟩ := unhide HH
            rw [fracL_zero, List.append_nil] at h2
            rw [h1, h2]
            exact ⟨rfl, h3⟩
          clear HH
          go_wp2
          go_ret
          exact ⟨(unhide RET _ (unhide HD).1), (unhide HD).2⟩
        · obtain ⟨dn, q1, q2, q3, q4, q5⟩ := unhide HH
          have rb : r < 4294967296 := q3.2.1
          have rp : 0 < r := by omega
          obtain ⟨f, rfl⟩ : ∃ f, gk = f + 1 := by
            cases gk with
            | zero => exact absurd (q3.zero) hr0
            | succ f => exact ⟨f, rfl⟩
          have D := hide (fun w => refDigit (r * 10 / 4294967296) (by omega) w)
          rw [show ((r * 10 / 4294967296 : Nat) : Int) = (r : Int) * 10 / 4294967296 from by omega] at D
          have R := hide (And.intro q3.step (show dn ++ [chr (r * 10 / 4294967296)] ++ fracL f (r * 10 % 4294967296) = fracL 32 r0 by rw [← q4, fracL_step f r hr0, List.append_assoc]; rfl))
          generalize chr (r * 10 / 4294967296) = ch at *
          obtain ⟨S2, hS2⟩ : ∃ S2 : ByteArray, S2 = ⟨((sg ++ wl ++ [46]) ++ (dn ++ [ch])).toArray⟩ := ⟨_, rfl⟩
          have hs3 : ∀ w, (Op.stringOp .add S ⟨#[ch]⟩).run Tryz.prog w = .ok (.string S2) w := fun w => by
            rw [q1, hS2, ← List.append_assoc]
            exact str_add ((sg ++ wl ++ [46]) ++ dn) [ch] (by simp; omega) w
          have Q := hide (And.intro hS2 (And.intro q2 q5))
          clear q1 q2 q3 q4 q5 hS2 HH
          go_wp2_with fail
          refine (unhide D _).mono ?_
          rintro e w2 ⟨rfl, g2⟩
          have G2 := hide (gtrans (unhide Q).2.2 g2)
          clear g2 D
          go_wp2
          go_roundg f
          case measure => omega
          case rel => exact ⟨r * 10 % 4294967296, S2, by go_num, rfl, dn ++ [ch], (unhide Q).1, by have := (unhide Q).2.1; simp; omega, (unhide R).1, (unhide R).2, unhide G2⟩
  · rw [e] at hSG
    rw [hSG] at hs1
    clear e hSG
    go_enter Tryz.func12, Tryz.ntmps12
    go_wp2_with fail
    refine (unhide hW _).mono ?_
    rintro e w1 ⟨rfl, g1⟩
    have G1 := hide g1
    clear g1
    by_cases hz : r0 = 0
    · exact absurd (unhide ER) (by rw [hz]; decide)
    · have RET : Hid (∀ S : ByteArray, S = ⟨(sg ++ wl ++ [46] ++ fracL 32 r0).toArray⟩ → Ending.returned (.string S) = .returned (.string S0)) := fun S h => by rw [h, unhide HS0, if_neg hz]; simp
      have rz : (9223372036854775807 : Int) % 4294967296 = (r0 : Int) := by have := unhide ER; omega
      have rp : 0 < r0 := by omega
      go_wp2_with fail
      have RZ := hide rz
      clear rz
      go_loopg [4, 5] 32 (fun k out rest wr => ∃ (r : Nat) (S : ByteArray), rest = .int .u64 (r : Int) ∧ out = .string S ∧ Hid (∃ dn : List UInt8, S = ⟨((sg ++ wl ++ [46]) ++ dn).toArray⟩ ∧ dn.length + k ≤ 32 ∧ Even2 k r ∧ dn ++ fracL k r = fracL 32 r0 ∧ Grown w wr))
      case atStart => exact ⟨r0, _, by rw [unhide ER]; rfl, rfl, [], by rw [List.append_nil]; exact unhide HS2, by simp, Even2.start r0 hr, rfl, unhide G1⟩
      case round =>
        obtain ⟨r, S, rfl, rfl, HH⟩ := hrel
        clear G1
        by_cases hr0 : r = 0
        · subst hr0
          have HD : Hid (S = ⟨((sg ++ wl ++ [46]) ++ fracL 32 r0).toArray⟩ ∧ Grown w wr) := by
            obtain ⟨dn, h1, _, _, h2, h3⟩ := unhide HH
            rw [fracL_zero, List.append_nil] at h2
            rw [h1, h2]
            exact ⟨rfl, h3⟩
          clear HH
          go_wp2
          go_ret
          exact ⟨(unhide RET _ (unhide HD).1), (unhide HD).2⟩
        · obtain ⟨dn, q1, q2, q3, q4, q5⟩ := unhide HH
          have rb : r < 4294967296 := q3.2.1
          have rp : 0 < r := by omega
          obtain ⟨f, rfl⟩ : ∃ f, gk = f + 1 := by
            cases gk with
            | zero => exact absurd (q3.zero) hr0
            | succ f => exact ⟨f, rfl⟩
          have D := hide (fun w => refDigit (r * 10 / 4294967296) (by omega) w)
          rw [show ((r * 10 / 4294967296 : Nat) : Int) = (r : Int) * 10 / 4294967296 from by omega] at D
          have R := hide (And.intro q3.step (show dn ++ [chr (r * 10 / 4294967296)] ++ fracL f (r * 10 % 4294967296) = fracL 32 r0 by rw [← q4, fracL_step f r hr0, List.append_assoc]; rfl))
          generalize chr (r * 10 / 4294967296) = ch at *
          obtain ⟨S2, hS2⟩ : ∃ S2 : ByteArray, S2 = ⟨((sg ++ wl ++ [46]) ++ (dn ++ [ch])).toArray⟩ := ⟨_, rfl⟩
          have hs3 : ∀ w, (Op.stringOp .add S ⟨#[ch]⟩).run Tryz.prog w = .ok (.string S2) w := fun w => by
            rw [q1, hS2, ← List.append_assoc]
            exact str_add ((sg ++ wl ++ [46]) ++ dn) [ch] (by simp; omega) w
          have Q := hide (And.intro hS2 (And.intro q2 q5))
          clear q1 q2 q3 q4 q5 hS2 HH
          go_wp2_with fail
          refine (unhide D _).mono ?_
          rintro e w2 ⟨rfl, g2⟩
          have G2 := hide (gtrans (unhide Q).2.2 g2)
          clear g2 D
          go_wp2
          go_roundg f
          case measure => omega
          case rel => exact ⟨r * 10 % 4294967296, S2, by go_num, rfl, dn ++ [ch], (unhide Q).1, by have := (unhide Q).2.1; simp; omega, (unhide R).1, (unhide R).2, unhide G2⟩

theorem refPutT (a : Int) (h : I64 a) (w : World) : Calls Tryz.prog 12 #[.int .i64 a] w fun e w' => e = .returned (.string ⟨(putL a).toArray⟩) ∧ Grown w w' := by
  unfold I64 at h
  refine refPutT_core a (if a < 0 then [45] else []) (absF a) (by unfold absF; split; split <;> omega; omega) ?_ w
  unfold absF
  by_cases c : a < 0
  · by_cases d : a < -9223372036854775807
    · exact Or.inr (Or.inr ⟨by omega, by rw [if_pos c, if_pos d], by rw [if_pos c]⟩)
    · exact Or.inr (Or.inl ⟨by rw [if_pos c, if_neg d]; omega, by rw [if_pos c, if_neg d]; omega, by rw [if_pos c]⟩)
  · exact Or.inl ⟨by rw [if_neg c]; omega, by rw [if_neg c]⟩

end Go.Proofs.YtnelkhmahmoclaaGreatDoor
