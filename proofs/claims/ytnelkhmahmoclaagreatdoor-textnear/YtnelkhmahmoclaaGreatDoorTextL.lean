/- The program's Line. -/
import Derived.Test.YtnelkhmahmoclaaGreatDoorTextX
import Derived.Test.YtnelkhmahmoclaaGreatDoorTextLineM
import Derived.Test.YtnelkhmahmoclaaGreatDoorTextF
namespace Go.Proofs.YtnelkhmahmoclaaGreatDoor
open Go.RowKit Go.Shelf Go.Proofs.Wd
set_option linter.unusedVariables false
set_option linter.unusedSimpArgs false
set_option maxRecDepth 10000

theorem join_snoc (xs : List (List UInt8)) (x sep : List UInt8) : Lib.join (xs ++ [x]) sep = Lib.join xs sep ++ (if xs = [] then [] else sep) ++ x := by
  cases xs with
  | nil => simp [Lib.join_nil, Lib.join_one]
  | cons y r =>
    rw [List.cons_append, Lib.join_cons, Lib.join_cons]
    simp [Lib.joinTail]
theorem line_join (Z : Nat → Int) : ∀ k, Lib.join ((List.range k).map fun i => putL (Z i)) [32] = lineL Z k
  | 0 => rfl
  | k + 1 => by
    rw [List.range_succ, List.map_append, List.map_cons, List.map_nil, join_snoc, line_join Z k]
    show _ = lineL Z k ++ (if k = 0 then [] else [32]) ++ putL (Z k)
    have e : ((List.range k).map fun i => putL (Z i)) = [] ↔ k = 0 := by simp
    by_cases h : k = 0
    · rw [if_pos h, if_pos (e.2 h)]
    · rw [if_neg h, if_neg (fun c => h (e.1 c))]

def putS (a : Int) : ByteArray := ⟨(putL a).toArray⟩
theorem Tryz.infoString : (Tryz.prog.info? 9).map (fun i => (i.zero, i.size, i.bytes)) = some (some (.string ⟨#[]⟩), 1, 16) := by kernel_rfl
def rowS (Z : Nat → Int) (k : Nat) : List Value := (List.range k).map fun i => Value.string (putS (Z i))
theorem rowS_succ (Z : Nat → Int) (k : Nat) : rowS Z (k + 1) = rowS Z k ++ [.string (putS (Z k))] := by simp [rowS, List.range_succ]
/-- What stands ahead of a round. -/
def LineI (w : World) (Z : Nat → Int) (k : Nat) (v : Value) (wr : World) : Prop := wr.ownsRow w.heap.size 9 1 v k (rowS Z k) ∧ Kp w wr
theorem one_str (x : ByteArray) : ∀ u ∈ [Value.string x], u.oneCell' = true := by
  intro u hu
  simp at hu
  subst hu
  rfl
theorem owns_strs {w : World} {base n : Nat} {v : Value} {Z : Nat → Int} (h : w.ownsRow base 9 1 v n (rowS Z n)) (hn : 0 < n) :
    ∃ g cap, v = .slice (some ⟨g, 0, none⟩) n cap ∧ g < w.heap.size ∧ n ≤ cap ∧ ∀ (j : Nat) x, ((List.range n).map fun i => putS (Z i))[j]? = some x → w.cell? ⟨g, 0 + j, none⟩ = some (.string x) := by
  rcases h.2 with ⟨_, h0⟩ | ⟨g, cap, cur, rfl, hb, hg, hc, _, hsz, hxs⟩
  · omega
  · refine ⟨g, cap, rfl, (Array.getElem?_eq_some_iff.1 hg).1, hc, fun j x hj => ?_⟩
    have hjn : j < n := by
      have := (List.getElem?_eq_some_iff.1 hj).1
      simpa using this
    rw [Nat.zero_add, cell_of_row w g j cur 9 (0, 0) hg]
    have e : (cur.toList.take (n * 1))[j]? = some (.string x) := by
      rw [hxs]
      have hx : putS (Z j) = x := by simpa [hjn] using hj
      simp [rowS, hjn, hx]
    rw [List.getElem?_take, if_pos (by omega)] at e
    simpa using e

set_option maxHeartbeats 1600000 in
theorem textLineT (ao : Option Addr) (len cap : Nat) (Z : Nat → Int) (hl : len ≤ 1000000) (hZ : Hid (∀ i, i < len → I64 (Z i))) (w : World) (hr : Row w ao len Z) :
    Calls Tryz.prog 13 #[.slice ao len cap] w fun e w' => e = .returned (.string ⟨(lineL Z len).toArray⟩) ∧ Kp w w' := by
  obtain ⟨i0, hi', hz0, hz1, hz2⟩ := info_parts Tryz.infoString
  have HR := hide hr
  obtain ⟨T, hT⟩ : ∃ T : ByteArray, (⟨(lineL Z len).toArray⟩ : ByteArray) = T := ⟨_, rfl⟩
  rw [hT]
  have HT := hide hT
  clear hr hT
  go_enter Tryz.func13, Tryz.ntmps13
  go_wp2
  go_loopw [3, 8] (fun v i wr => ∃ k : Nat, k ≤ len ∧ i = .int .i64 k ∧ LineI w Z k v wr) (fun _ i _ => len - (intOf i).toNat)
  case atStart => exact ⟨0, Nat.zero_le _, rfl, World.ownsRow_nil _ _ _ _, Kp.refl _⟩
  case round =>
    obtain ⟨k, hk, rfl, HI⟩ := hrel
    by_cases hlt : k < len
    · obtain ⟨b, o, e1, hc⟩ := ((unhide HR).kp HI.2).at hlt
      subst e1
      have P := hide (textPutT (Z k) (unhide hZ k hlt) wr)
      obtain ⟨S, hS⟩ : ∃ S : ByteArray, (⟨(putL (Z k)).toArray⟩ : ByteArray) = S := ⟨_, rfl⟩
      rw [hS] at P
      have HS : Hid (putS (Z k) = S) := hS
      clear hS
      have HII := hide HI
      clear HI
      go_wp2_with fail
      refine (unhide P).mono ?_
      rintro e w1 ⟨rfl, k1⟩
      have HO := hide (owns_kp (unhide HII).1 k1)
      have K1 := hide ((unhide HII).2.trans k1)
      clear HII P k1
      go_wp2_with (at_builtin; refine wpList_append_own _ rfl _ _ 59 rfl w.heap.size 9 i0 (.string ⟨#[]⟩) 1 16 Tryz.underlying59 hi' hz0 hz1 hz2 rfl (by decide) _ _ _ rfl ((unhide HO).alloc _) ⟨w1.heap.size, 0, none⟩ 1 1 [.string S] rfl rfl (news_one _ _ _) (one_str _) (by unfold maxLen; omega) (by omega) (by have := (unhide K1).2.2.2; simp; omega) ?_; intro v' w6 hown' hgrow _; have lt := ((unhide HO).alloc (Obj.cells #[Value.string S] 9)).lt; have own6 := hide hown'; have kp6 : Hid (Kp w w6) := Kp.by ((unhide K1).alloc _ _) hgrow (fun i e => (by have := (lt i e).1; omega)); clear hown' hgrow lt)
      go_roundw
      case rel =>
        refine ⟨k + 1, by omega, by go_num, ?_, unhide kp6⟩
        rw [rowS_succ, unhide HS]
        exact unhide own6
      case measure => simp [intOf]; omega
    · obtain rfl : len = k := by omega
      by_cases h0 : len = 0
      · subst h0
        have J := hide (fun a c w => libJoin0 a c w)
        obtain ⟨ao3, c3, rfl⟩ := owns_slice HI.1
        have K1 := hide HI.2
        have e0 : Hid (T = ⟨#[]⟩) := (unhide HT).symm
        clear HI
        go_wp2_with fail
        refine (unhide J _ _ _).mono ?_
        rintro e w2 ⟨rfl, rfl⟩
        go_wp2
        go_ret
        exact ⟨congrArg (fun x => Ending.returned (Value.string x)) (unhide e0).symm, unhide K1⟩
      · obtain ⟨g, c, rfl, hg, hc, hcells⟩ := owns_strs HI.1 (by omega)
        have K1 := hide HI.2
        clear HI
        have hm : (((List.range len).map fun i => putS (Z i)).map (·.data.toList)) = (List.range len).map fun i => putL (Z i) := by simp [putS]
        have hlen : ((List.range len).map fun i => putS (Z i)).length = len := by simp
        have J := hide (libJoin g 0 c ((List.range len).map fun i => putS (Z i)) wr hcells hg (by rw [hlen]; omega) (by rw [hlen]; exact hc) (by rw [hm, line_join]; have := lineL_len Z len (unhide hZ); omega))
        rw [hm, line_join, hlen] at J
        rw [unhide HT] at J
        clear hcells hg hc hm hlen
        go_wp2_with fail
        refine (unhide J).mono ?_
        rintro e w2 ⟨rfl, k2⟩
        have K2 := hide ((unhide K1).trans k2)
        clear K1 k2
        go_wp2
        go_ret
        exact ⟨rfl, unhide K2⟩
end Go.Proofs.YtnelkhmahmoclaaGreatDoor
