/- The program's iterator over a line's pieces. -/
import Derived.Test.YtnelkhmahmoclaaGreatDoorTextZ
import Derived.Test.YtnelkhmahmoclaaGreatDoorTextL
import Derived.Test.YtnelkhmahmoclaaGreatDoorTextPc
import Derived.RangeFuncNested
import Derived.RangeFuncBound
import Derived.RangeFuncCalls
import Derived.RangeFuncLeaves
import Derived.RangeFuncBox
import Derived.Shelf.Abstract
import Derived.Shelf.RegionOpen
import Derived.WalkKit
import Derived.OwnWalkIn
import Derived.TacticsInMore
import Derived.LoopNIn
import Derived.LoopIn
namespace Go.Proofs.YtnelkhmahmoclaaGreatDoor
open Go.RowKit Go.Shelf Go.Proofs.Wd
set_option linter.unusedVariables false
set_option linter.unusedSimpArgs false
set_option maxRecDepth 10000

set_option maxHeartbeats 400000 in
theorem liteCutX (S : ByteArray) (c : UInt8) (hs : S.size ≤ 1000000) (w : World) : Calls Tryz.prog 63 #[.string S, .string ⟨#[c]⟩] w fun e w' => e = .returned (.tuple #[.string ⟨(S.data.toList.take (fi c S.data.toList)).toArray⟩, .string ⟨(S.data.toList.drop (fi c S.data.toList + 1)).toArray⟩, .bool (decide (fi c S.data.toList < S.data.toList.length))]) ∧ (w' = w ∨ w' = w.drew) := by
  have hle := fi_le c S.data.toList
  have hx := index_fi c S.data.toList
  have hsz : S.data.toList.length = S.size := by rw [Array.length_toList]; rfl
  have I := hide (fun w => libIndex S c w)
  generalize hj : fi c S.data.toList = j at *
  by_cases h : j < S.data.toList.length
  · rw [if_pos h] at hx
    rw [hx] at I
    have e1 := hide (ext_to S j (by omega))
    have e2 := hide (ext_from S (j + 1))
    have c1 : (0 : Int) ≤ ↑j := by omega
    have c2 : (↑j : Int) ≤ ↑S.size := by omega
    have c3 : (0 : Int) ≤ ↑j + 1 := by omega
    have c4 : (↑j + 1 : Int) ≤ ↑S.size := by omega
    have HD := hide h
    clear hx hsz hle hj h
    go_enter Tryz.func63, Tryz.ntmps63
    go_wp2_with fail
    refine (unhide I _).mono ?_
    rintro e w1 ⟨rfl, rfl⟩
    go_wp2
    go_region
    go_wp2
    go_ret3
    rw [← unhide e1, ← unhide e2, decide_eq_true (unhide HD)]
    exact ⟨rfl, Or.inr rfl⟩
  · rw [if_neg h] at hx
    rw [hx] at I
    have hjj : j = S.data.toList.length := by omega
    have e1 : S.data.toList.take j = S.data.toList := by rw [hjj, List.take_length]
    have e2 : S.data.toList.drop (j + 1) = [] := List.drop_eq_nil_of_le (by omega)
    rw [e1, e2, decide_eq_false h]
    clear hx hsz hle hj h e1 e2 hjj
    go_enter Tryz.func63, Tryz.ntmps63
    go_wp2_with fail
    refine (unhide I _).mono ?_
    rintro e w1 ⟨rfl, rfl⟩
    go_wp2
    go_ret3
    exact ⟨rfl, Or.inl rfl⟩

set_option maxHeartbeats 400000 in
theorem libCutX (S : ByteArray) (c : UInt8) (hs : S.size ≤ 1000000) (w : World) : Calls Tryz.prog 37 #[.string S, .string ⟨#[c]⟩] w fun e w' => e = .returned (.tuple #[.string ⟨(S.data.toList.take (fi c S.data.toList)).toArray⟩, .string ⟨(S.data.toList.drop (fi c S.data.toList + 1)).toArray⟩, .bool (decide (fi c S.data.toList < S.data.toList.length))]) ∧ (w' = w ∨ w' = w.drew) := by
  have I := hide (fun w => liteCutX S c hs w)
  obtain ⟨A, hA⟩ : ∃ A : ByteArray, ⟨(S.data.toList.take (fi c S.data.toList)).toArray⟩ = A := ⟨_, rfl⟩
  obtain ⟨B, hB⟩ : ∃ B : ByteArray, ⟨(S.data.toList.drop (fi c S.data.toList + 1)).toArray⟩ = B := ⟨_, rfl⟩
  generalize decide (fi c S.data.toList < S.data.toList.length) = d at *
  rw [hA, hB] at I
  rw [hA, hB]
  clear hA hB
  go_enter Tryz.func37, Tryz.ntmps37
  go_wp2_with fail
  refine (unhide I _).mono ?_
  rintro e w1 ⟨rfl, g⟩
  have G := hide g
  clear g
  go_wp2
  go_ret3
  exact ⟨rfl, unhide G⟩

/-- A piece of the line L. -/
abbrev Pc (L : List UInt8) : Type := { x : Nat × ByteArray // x ∈ allP L }
def encP {L : List UInt8} (x : Pc L) : Array Value := #[.int .i64 (x.1.1 : Int), .string x.1.2]
/-- A round keeps what the box Bs holds. -/
def KpB (Bs : Nat) (W W' : World) : Prop := W'.cell? ⟨Bs, 0, none⟩ = W.cell? ⟨Bs, 0, none⟩
theorem grown_drew (w : World) : w.grownBy w.drew none := ⟨rfl, rfl, rfl, Nat.le_refl _, fun _ _ _ => rfl⟩
/-- Ahead of a round of the iterator. -/
def PcI (L : List UInt8) (s : ByteArray) (Bs : Nat) (J : List (Pc L) → World → Prop) (at' more : Value) (wr : World) : Prop :=
  ∃ (pre rest : List (Pc L)) (a f : Nat), at' = .int .i64 a ∧ more = .bool (!rest.isEmpty) ∧ (allP L).attach = pre ++ rest ∧ a ≤ s.size + 1 ∧ (rest ≠ [] → a ≤ s.size ∧ L.length < f + a ∧ rest.map (·.1) = pcs L f a) ∧ J pre wr ∧ wr.cell? ⟨Bs, 0, none⟩ = some (.string s)

section
attribute [local go_sem] Oper.semAt_some

set_option maxRecDepth 100000 in
set_option maxHeartbeats 2000000 in
theorem pieces1_in (n l Bs B : Nat) (hn : 1 ≤ n) (s : ByteArray) (hs : s.size ≤ 1000000) (L : List UInt8) (hL : s.data.toList = L) (J Jx : List (Pc L) → World → Prop) (hJ : AbidesFrom B J)
    (hY : ∀ pre x W, J pre W → pre.length < (allP L).length → YieldAt Fence.wide (n - 1) Tryz.prog l (encP x) W fun e W' => (e = .returned (.bool true) ∧ J (pre ++ [x]) W' ∧ KpB Bs W W') ∨ (e = .returned (.bool false) ∧ Jx (pre ++ [x]) W'))
    (W : World) (hBs : W.cell? ⟨Bs, 0, none⟩ = some (.string s)) (h0 : J [] W) :
    CallsIn Fence.wide n Tryz.prog 68 #[.func (.yield l) #[] #[], .pointer (some ⟨Bs, 0, none⟩)] W fun e W' => (∃ v, e = .returned v) ∧
      ((∃ ys : List (Pc L), ys = (allP L).attach ∧ J ys W') ∨ (∃ pre : List (Pc L), pre <+: (allP L).attach ∧ Jx pre W')) := by
  refine callsIn_of_wp Tryz.func68 rfl trivial ?_ rfl
  simp only [Tryz.ntmps68, List.size_toArray, List.length_cons, List.length_nil, Nat.reduceAdd, Nat.reduceSub, Array.replicate_succ, Array.replicate_zero, List.push_toArray, List.append_toArray, List.nil_append, List.cons_append]
  by_cases hE : L = []
  · obtain rfl := emp_of (hL.trans hE)
    gi_wp2
    gi_region
    all_goals gi_wp2
    all_goals gi_loopw [3, 4] (fun a m wr => a = .int .i64 0 ∧ m = .bool false ∧ J [] wr) (fun _ _ _ => 0)
    case atStart => exact ⟨rfl, rfl, hJ _ _ _ none h0 (grown_drew W) (fun r e => by cases e)⟩
    case round =>
      obtain ⟨rfl, rfl, hJs⟩ := hrel
      gi_wp2
      go_end0
      refine ⟨⟨_, rfl⟩, .inl ⟨[], ?_, hJs⟩⟩
      subst hE
      rfl
  · have em := emp_false (S := s) (by rw [hL]; exact hE)
    have hlen : L.length = s.size := by rw [← hL, Array.length_toList]; rfl
    have HJ := hide hJ
    have HY := hide hY
    have H0 : Hid (J [] W.drew) := hJ _ _ _ none h0 (grown_drew W) (fun r e => by cases e)
    have HB : Hid (W.drew.cell? ⟨Bs, 0, none⟩ = some (.string s)) := hBs
    have HL := hide hL
    have HE := hide hE
    have HN := hide hlen
    clear hJ hY h0 hL hE hlen
    gi_wp2
    gi_region
    all_goals gi_wp2
    all_goals gi_loopw [3, 4] (fun a m wr => PcI L s Bs J a m wr) (fun a _ _ => s.size + 2 - (intOf a).toNat)
    case atStart =>
      have hall : allP L = pcs L (L.length + 1) 0 := by unfold allP; rw [if_neg (unhide HE)]
      have hne : ((allP L).attach : List (Pc L)) ≠ [] := by
        rw [ne_eq, List.attach_eq_nil_iff, hall]
        simp [pcs]
      refine ⟨[], (allP L).attach, 0, L.length + 1, rfl, ?_, rfl, by omega, fun _ => ⟨by omega, by omega, ?_⟩, unhide H0, unhide HB⟩
      · cases h : ((allP L).attach : List (Pc L)) with
        | nil => exact absurd h hne
        | cons _ _ => rfl
      · rw [← hall]
        exact List.attach_map_subtype_val _
    case round =>
      obtain ⟨pre, rest, a, f, rfl, rfl, hx, ha, hr, hJs, hc⟩ := hrel
      cases rest with
      | nil =>
        have HF : Hid ((allP L).attach = pre ∧ J pre wr) := ⟨hx.trans (List.append_nil _), hJs⟩
        clear hx hr hJs
        gi_wp2
        go_end0
        exact ⟨⟨_, rfl⟩, .inl ⟨pre, (unhide HF).1.symm, (unhide HF).2⟩⟩
      | cons x rest =>
        obtain ⟨ha1, hf, hp⟩ := hr (by simp)
        obtain ⟨f', rfl⟩ : ∃ f', f = f' + 1 := by
          cases f with
          | zero => rw [unhide HN] at hf; omega
          | succ f' => exact ⟨f', rfl⟩
        have hp' : x.1 :: rest.map (·.1) = (a, ⟨((L.drop a).take (fi 32 (L.drop a))).toArray⟩) :: (if fi 32 (L.drop a) < (L.drop a).length then pcs L f' (a + fi 32 (L.drop a) + 1) else []) := hp
        obtain ⟨e1, e2⟩ := List.cons.inj hp'
        obtain ⟨⟨xa, xp⟩, hxm⟩ := x
        simp only at e1
        injection e1 with e3 e4
        subst e3
        have hfi := fi_le 32 (L.drop xa)
        have hdl : (L.drop xa).length = s.size - xa := by rw [List.length_drop, unhide HN]
        have hps : xp.size = fi 32 (L.drop xa) := by
          rw [e4]
          show ((L.drop xa).take (fi 32 (L.drop xa))).length = _
          rw [List.length_take]
          omega
        have hxl : (s.extract xa s.size).data.toList = L.drop xa := by rw [ext_from s xa, unhide HL]
        have hxs : (s.extract xa s.size).size ≤ 1000000 := by
          have : (s.extract xa s.size).data.toList.length = (s.extract xa s.size).size := by rw [Array.length_toList]; rfl
          rw [hxl] at this
          omega
        have C := hide (fun w => libCutX (s.extract xa s.size) 32 hxs w)
        rw [hxl, ← e4] at C
        obtain ⟨QQ, hQQ⟩ : ∃ QQ : ByteArray, (⟨((L.drop xa).drop (fi 32 (L.drop xa) + 1)).toArray⟩ : ByteArray) = QQ := ⟨_, rfl⟩
        rw [hQQ] at C
        have hmm : decide (fi 32 (L.drop xa) < (L.drop xa).length) = !rest.isEmpty := by
          cases rest with
          | nil =>
            by_cases h : fi 32 (L.drop xa) < (L.drop xa).length
            · rw [if_pos h] at e2
              cases f' with
              | zero => rw [unhide HN] at hf; omega
              | succ f'' => simp [pcs] at e2
            · rw [decide_eq_false h]; rfl
          | cons y r =>
            by_cases h : fi 32 (L.drop xa) < (L.drop xa).length
            · rw [decide_eq_true h]; rfl
            · rw [if_neg h] at e2; simp at e2
        rw [hmm] at C
        have HX : Hid ((allP L).attach = (pre ++ [⟨(xa, xp), hxm⟩]) ++ rest ∧ (rest ≠ [] → xa + (xp.size + 1) ≤ s.size ∧ L.length < f' + (xa + (xp.size + 1)) ∧ rest.map (·.1) = pcs L f' (xa + (xp.size + 1)))) := by
          refine ⟨hx.trans (by simp), fun hne => ?_⟩
          have h : fi 32 (L.drop xa) < (L.drop xa).length := by
            cases rest with
            | nil => exact absurd rfl hne
            | cons y r => simpa using hmm
          rw [if_pos h] at e2
          rw [hps]
          exact ⟨by omega, by omega, e2⟩
        have hpl : pre.length < (allP L).length := by
          have := congrArg List.length hx
          rw [List.length_attach, List.length_append, List.length_cons] at this
          omega
        have hsz : xp.size ≤ s.size := by omega
        have h1 : (0 : Int) ≤ (xa : Int) := by omega
        have h2 : (xa : Int) ≤ (s.size : Int) := by omega
        have HS : Hid (xa + (xp.size + 1) ≤ s.size + 1) := by show _ ≤ _; omega
        clear hp hp' e2 e4 hfi hdl hps hxl hxs hQQ hmm hx hr hf
        gi_wp2_with (refine ⟨trivial, ?_⟩; gi_at_call 37; refine (callsIn_wide.2 (unhide C _)).mono ?_; rintro e w2 ⟨rfl, hw2⟩; have hJ2 : J pre w2 := (by rcases hw2 with rfl | rfl; exact hJs; exact unhide HJ _ _ _ none hJs (grown_drew _) (fun r e => by cases e)); have hc2 : w2.cell? ⟨Bs, 0, none⟩ = some (.string s) := (by rcases hw2 with rfl | rfl <;> exact hc); clear hw2; obtain ⟨fn, tmps, assign, body, hy, hR⟩ := unhide HY pre ⟨(xa, xp), hxm⟩ w2 hJ2 hpl; dsimp only [encP] at hy)
        refine hR.mono ?_
        rintro e W3 (⟨rfl, hJ3, hk3⟩ | ⟨rfl, hJx3⟩)
        · have hc3 : Hid (W3.cell? ⟨Bs, 0, none⟩ = some (.string s)) := hk3.trans hc2
          have HJ3 := hide hJ3
          clear hJ3 hk3 hR hy hJ2 hc2 hc hJs
          gi_wp2
          go_roundw
          case rel => exact ⟨pre ++ [⟨(xa, xp), hxm⟩], rest, xa + (xp.size + 1), f', by go_num, rfl, (unhide HX).1, unhide HS, (unhide HX).2, unhide HJ3, unhide hc3⟩
          case measure => have := unhide HS; simp [intOf]; omega
        · have HJ3 := hide hJx3
          clear hJx3 hR hy hJ2 hc2 hc hJs
          gi_wp2
          refine bodyPost_ret (results_none rfl _ _ _) rfl ?_
          exact ⟨⟨_, rfl⟩, .inr ⟨pre ++ [⟨(xa, xp), hxm⟩], ⟨rest, (unhide HX).1.symm⟩, unhide HJ3⟩⟩
end
end Go.Proofs.YtnelkhmahmoclaaGreatDoor
