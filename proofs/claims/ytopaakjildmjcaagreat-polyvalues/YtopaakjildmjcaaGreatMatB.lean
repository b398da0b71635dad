/- Package mat: the iterator over rows. -/
import Derived.Test.YtopaakjildmjcaaGreatMatC
import Derived.RangeFuncNested
import Derived.RangeFuncBound
import Derived.RangeFuncCalls
import Derived.RangeFuncLeaves
import Derived.RangeFuncBox
import Derived.Shelf.Abstract
import Derived.Shelf.RegionOpen
import Derived.WalkKit
import Derived.OwnWalkIn
import Derived.TacticsInMore
import Derived.LoopNIn
import Derived.LoopIn
namespace Go.Proofs.YtopaakjildmjcaaGreat
open Go.RowKit Go.Shelf Go.Proofs.Wd
set_option linter.unusedVariables false
set_option linter.unusedSimpArgs false
set_option maxRecDepth 10000

/-- A row's number, and the row. -/
def encR {r : Nat} (b o c : Nat) (x : Fin r) : Array Value := #[.int .i64 (x.1 : Int), .slice (some ⟨b, o + x.1 * c, none⟩) c c]
/-- A round keeps block Bs. -/
def KpR (Bs : Nat) (W W' : World) : Prop := W'.heap[Bs]? = W.heap[Bs]?
/-- All rows. -/
def allR (r : Nat) : List (Fin r) := List.finRange r
theorem allR_len (r : Nat) : (allR r).length = r := by simp [allR]
theorem allR_at (r k : Nat) (h : k < r) : (allR r)[k]? = some ⟨k, h⟩ := by
  unfold allR
  rw [List.getElem?_eq_getElem (by simpa using h)]
  simp
theorem allR_take (r k : Nat) (h : k < r) : (allR r).take k ++ [⟨k, h⟩] = (allR r).take (k + 1) := by
  rw [List.take_add_one, allR_at r k h]
  rfl
theorem grown_alloc (w : World) (o : Obj) : w.grownBy (w.alloc o) none := World.grownBy_alloc w o none

section
attribute [local go_sem] Oper.semAt_some

set_option maxRecDepth 100000 in
set_option maxHeartbeats 2000000 in
theorem rows1_in (n l Bs B : Nat) (hn : 1 ≤ n) (r c b o cap : Nat) (hr : 1 ≤ r ∧ r ≤ 12) (hc : 1 ≤ c ∧ c ≤ 12) (hcap : r * c ≤ cap) (J Jx : List (Fin r) → World → Prop) (hJ : AbidesFrom B J)
    (hY : ∀ pre x W, J pre W → pre.length < r → YieldAt Fence.wide (n - 1) Tryz.prog l (encR b o c x) W fun e W' => (e = .returned (.bool true) ∧ J (pre ++ [x]) W' ∧ KpR Bs W W') ∨ (e = .returned (.bool false) ∧ Jx (pre ++ [x]) W'))
    (W : World) (hBs : Blk Bs #[.int .i64 r, .int .i64 c, .slice (some ⟨b, o, none⟩) (r * c) cap] 24 W) (h0 : J [] W) :
    CallsIn Fence.wide n Tryz.prog 115 #[.func (.yield l) #[] #[], .pointer (some ⟨Bs, 0, none⟩)] W fun e W' => (∃ v, e = .returned v) ∧
      ((∃ ys : List (Fin r), ys = allR r ∧ J ys W') ∨ (∃ pre : List (Fin r), pre <+: allR r ∧ Jx pre W')) := by
  refine callsIn_of_wp Tryz.func115 rfl trivial ?_ rfl
  simp only [Tryz.ntmps115, List.size_toArray, List.length_cons, List.length_nil, Nat.reduceAdd, Nat.reduceSub, Array.replicate_succ, Array.replicate_zero, List.push_toArray, List.append_toArray, List.nil_append, List.cons_append]
  have d0 : W.cell? ⟨Bs, 0, none⟩ = some (.int .i64 r) := Blk.cell hBs 0
  have HJ := hide hJ
  have HY := hide hY
  have H0 := hide (And.intro h0 hBs)
  have PT := hide (fun i hi w => matPart r c i b o cap hr hc hi hcap w)
  clear hJ hY h0 hBs hcap
  gi_wp2
  gi_loopw [6] (fun i wr => ∃ k : Nat, k ≤ r ∧ i = .int .i64 k ∧ Hid (J ((allR r).take k) wr ∧ Blk Bs #[.int .i64 r, .int .i64 c, .slice (some ⟨b, o, none⟩) (r * c) cap] 24 wr)) (fun i _ => r - (intOf i).toNat)
  case atStart => exact ⟨0, Nat.zero_le _, rfl, unhide H0⟩
  case round =>
    obtain ⟨k, hk, rfl, HI⟩ := hrel
    by_cases hlt : k < r
    · have bs := (unhide HI).2
      have e0 : wr.cell? ⟨Bs, 0, none⟩ = some (.int .i64 r) := Blk.cell bs 0
      have e1 : wr.cell? ⟨Bs, 1, none⟩ = some (.int .i64 c) := Blk.cell bs 1
      have e2 : wr.cell? ⟨Bs, 2, none⟩ = some (.slice (some ⟨b, o, none⟩) (r * c) cap) := Blk.cell bs 2
      have P1 := hide (unhide PT k hlt)
      obtain ⟨len, hlen⟩ : ∃ len, r * c = len := ⟨_, rfl⟩
      rw [hlen] at e2
      rw [hlen] at P1
      have HL := hide hlen
      have LT := hide hlt
      clear bs hlen
      gi_wp2_with (refine ⟨trivial, ?_⟩; gi_at_call 80; refine (callsIn_wide.2 (unhide P1 _)).mono ?_; rintro e w2 ⟨rfl, rfl⟩; have hJ2 : J ((allR r).take k) (wr.alloc (.cells #[.int .i64 r, .int .i64 c, .slice (some ⟨b, o, none⟩) len cap] 24)) := (unhide HJ _ _ _ none (unhide HI).1 (grown_alloc _ _) (fun r e => by cases e)); obtain ⟨fn, tmps, assign, body, hy, hR⟩ := unhide HY ((allR r).take k) ⟨k, unhide LT⟩ _ hJ2 (by rw [List.length_take, allR_len]; omega); dsimp only [encR] at hy)
      refine hR.mono ?_
      rintro e W3 (⟨rfl, hJ3, hk3⟩ | ⟨rfl, hJx3⟩)
      · have R3 : Hid (J ((allR r).take (k + 1)) W3 ∧ Blk Bs #[.int .i64 r, .int .i64 c, .slice (some ⟨b, o, none⟩) (r * c) cap] 24 W3) := by
          rw [allR_take r k hlt] at hJ3
          exact ⟨hJ3, hk3.trans (Blk.grown (unhide HI).2 ((Grown.refl _).alloc _ _))⟩
        clear hJ3 hk3 hR hy hJ2 e0 e1 e2
        gi_wp2
        go_roundw
        case rel => exact ⟨k + 1, by omega, by go_num, R3⟩
        case measure => simp [intOf]; omega
      · have R3 : Hid (Jx ((allR r).take (k + 1)) W3) := by
          rw [allR_take r k hlt] at hJx3
          exact hJx3
        clear hJx3 hR hy hJ2 e0 e1 e2
        gi_wp2
        refine bodyPost_ret (results_none rfl _ _ _) rfl ?_
        exact ⟨⟨_, rfl⟩, .inr ⟨(allR r).take (k + 1), List.take_prefix _ _, unhide R3⟩⟩
    · obtain rfl : k = r := by omega
      have HF : Hid (J (allR k) wr) := by
        have := (unhide HI).1
        rwa [List.take_of_length_le (by rw [allR_len]; omega)] at this
      clear HI
      gi_wp2
      go_end0
      exact ⟨⟨_, rfl⟩, .inl ⟨allR k, rfl, unhide HF⟩⟩
end

theorem rows_stops (n : Nat) (hn : 1 ≤ n) (Bs r c b o cap : Nat) (hr : 1 ≤ r ∧ r ≤ 12) (hc : 1 ≤ c ∧ c ≤ 12) (hcap : r * c ≤ cap) (w : World) (hB : Blk Bs #[.int .i64 r, .int .i64 c, .slice (some ⟨b, o, none⟩) (r * c) cap] 24 w) :
    SeqStopsK Fence.wide n Tryz.prog 115 #[.pointer (some ⟨Bs, 0, none⟩)] (encR (r := r) b o c) (KpR Bs) (fun ys => ys = allR r) (fun pre => pre <+: allR r) r w := fun l J Jx W hW hJ _ hY h0 =>
  rows1_in n l Bs W.heap.size hn r c b o cap hr hc hcap J Jx hJ hY W ((hW.block Bs (Blk.lt hB)).trans hB) h0
theorem kpR_t {Bs : Nat} {A B C : World} (h : KpR Bs A B) (k : KpR Bs B C) : KpR Bs A C := k.trans h
theorem kpR_b {Bs n : Nat} (hB : Bs < n) (W : World) (l : Nat) (o o' : Obj) (hl : n ≤ l) (_ : W.heap[l]? = some o) (_ : o.isCells = false) (_ : o.isWalk = false) : KpR Bs W (W.putObj l o') :=
  World.putObj_heap_other (by omega)

end Go.Proofs.YtopaakjildmjcaaGreat
