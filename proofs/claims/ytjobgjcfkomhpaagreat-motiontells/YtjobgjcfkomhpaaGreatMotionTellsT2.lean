/- KitA MatL MatM OwnB MdlRa MdlRb MatO PolyMath PolySt AppA AppB MdlG MdlF PolyM1 MoMath RefA RefRound RefDiv RefQuo RefMul FixR RefU MatN PolyL PolyA RegJ RegG PolyP RgU, one after another, as far as MotionTells wants them. -/
import Derived.Test.YtjobgjcfkomhpaaGreatProg
import Derived.Test.YtjobgjcfkomhpaaGreatRows
import Derived.Test.YtjobgjcfkomhpaaGreatMotionTellsT1
set_option linter.unusedVariables false
set_option linter.unusedSimpArgs false
namespace Go.Proofs.YtjobgjcfkomhpaaGreat
open Go.RowKit Go.Proofs.Wd
set_option maxRecDepth 10000
attribute [local go_sem ↓] Go.wp_at_zero Go.wp_at_succ
set_option maxHeartbeats 1000000 in
theorem kitSameQ (ao bo : Option Addr) (len c1 c2 : Nat) (X : Nat → Int) (hl : len ≤ 1000000) (w : World) (hr : Row w ao len X) (ht : Row w bo len X) :
  Calls Tryz.prog 48 #[.slice ao len c1, .slice bo len c2] w fun e w' => e = .returned (.bool true) ∧ ∃ n, w' = w.drewN n := by
 have HR := hide hr
 have HT := hide ht
 clear hr ht
 go_enter Tryz.func48, Tryz.ntmps48
 go_wp2
 go_loopw [5] (fun i wr => ∃ k : Nat, k ≤ len ∧ i = .int .i64 k ∧ Hid (∃ n, wr = w.drewN n)) (fun i _ => len - (intOf i).toNat)
 case atStart => exact ⟨0, Nat.zero_le _, rfl, 0, rfl⟩
 case round =>
  obtain ⟨k, hk, rfl, nn, rfl⟩ := hrel
  by_cases hlt : k < len
  ·obtain ⟨b1, o1, rfl, hc1⟩ := (unhide HR).at hlt
   obtain ⟨b2, o2, rfl, hc2⟩ := (unhide HT).at hlt
   generalize X k = x at *
   have i0 : (0 : Int) ≤ (k : Int) := by omega
   have i1 : (k : Int) < (len : Int) := by omega
   go_wp2
   go_quiet (fail)
   go_wp2
   go_roundw
   case rel => exact ⟨k + 1, by omega, by go_num, _, rfl⟩
   case measure => simp [intOf]; omega
  ·obtain rfl : k = len := by omega
   go_wp2
   go_ret
   exact ⟨rfl, _, rfl⟩
end Go.Proofs.YtjobgjcfkomhpaaGreat
namespace Go.Proofs.YtjobgjcfkomhpaaGreat
open Go.RowKit Go.Shelf Go.Proofs.Wd
set_option maxRecDepth 10000
def Own (B len : Nat) (Z : Nat → Int) (w : World) : Prop := ∃ cur, Blk B cur 3 w ∧ ∀ i, i < len → cur[i]? = some (.int .i64 (Z i))
theorem Own.of {B len : Nat} {Z : Nat → Int} {w : World} (h : Blk B (ints len Z) 3 w) : Own B len Z w := ⟨_, h, fun i hi => ints_at len Z i hi⟩
theorem Own.row {B len : Nat} {Z : Nat → Int} {w : World} (h : Own B len Z w) : Row w (some ⟨B, 0, none⟩) len Z := by
 obtain ⟨cur, h1, h2⟩ := h
 refine Or.inr ⟨B, 0, rfl, fun i hi => ?_⟩
 rw [Nat.zero_add, Blk.cell h1, h2 i hi]
theorem Own.kp {B len : Nat} {Z : Nat → Int} {w w' : World} (h : Own B len Z w) (k : Kp w w') : Own B len Z w' := let ⟨cur, h1, h2⟩ := h; ⟨cur, Blk.kp h1 k, h2⟩
theorem Own.mk {B len U : Nat} {Z : Nat → Int} {w w' : World} (h : Own B len Z w) (k : Mk U w w') (hne : B ≠ U) : Own B len Z w' := let ⟨cur, h1, h2⟩ := h; ⟨cur, Blk.mk h1 k hne, h2⟩
theorem Own.by {B len : Nat} {Z : Nat → Int} {w w' : World} {row : Option Nat} (h : Own B len Z w) (k : w.grownBy w' row) (hne : some B ≠ row) : Own B len Z w' := let ⟨cur, h1, h2⟩ := h; ⟨cur, Blk.by h1 k hne, h2⟩
theorem owns_own {w : World} {base n : Nat} {v : Value} {Z : Nat → Int} (hn : 1 ≤ n) (h : w.ownsRow base 3 1 v n ((List.range n).map fun i => Value.int .i64 (Z i))) : ∃ B cap, v = .slice (some ⟨B, 0, none⟩) n cap ∧ base ≤ B ∧ Own B n Z w := by
 rcases h.2 with ⟨rfl, rfl⟩ | ⟨g, cap, cur, rfl, hb, hg, hn', _, hsz, hxs⟩
 ·omega
 ·refine ⟨g, cap, rfl, hb, cur, hg, fun i hi => ?_⟩
  have e : (cur.toList.take (n * 1))[i]? = some (.int .i64 (Z i)) := by rw [hxs]; simp [hi]
  rw [List.getElem?_take, if_pos (by omega)] at e
  simpa using e
section
attribute [local go_sem] Oper.semAt_some
end
end Go.Proofs.YtjobgjcfkomhpaaGreat
namespace Go.Proofs.YtjobgjcfkomhpaaGreat
open Go.RowKit Go.Shelf Go.Proofs.Wd
set_option maxRecDepth 10000
theorem owns_rowC {w : World} {base n : Nat} {v : Value} {Z : Nat → Int} (h : w.ownsRow base 3 1 v n ((List.range n).map fun i => Value.int .i64 (Z i))) : ∃ ao cap, v = .slice ao n cap ∧ n ≤ cap ∧ Row w ao n Z ∧ ∀ U, U < base → Off U n ao := by
 obtain ⟨ao, cap, rfl, h1, h2⟩ := owns_row h
 rcases h.2 with ⟨e, rfl⟩ | ⟨g, cap', cur, e, hb, hg, hn, _⟩
 ·exact ⟨ao, cap, rfl, Nat.zero_le _, h1, h2⟩
 ·injection e with e1 e2 e3
  exact ⟨ao, cap, rfl, by omega, h1, h2⟩
def CopyQ (n : Nat) (Z : Nat → Int) (w : World) (e : Ending) (w' : World) : Prop := ∃ ao cap, e = .returned (.slice ao n cap) ∧ n ≤ cap ∧ Row w' ao n Z ∧ (∀ U, U < w.heap.size → Off U n ao) ∧ Kp w w'
set_option maxHeartbeats 1000000 in
theorem kitSameM (r c : Int) (ao bo : Option Addr) (len c1 c2 : Nat) (X : Nat → Int) (hl : len ≤ 1000000) (w : World) (hr : Row w ao len X) (ht : Row w bo len X) :
  Calls Tryz.prog 19 #[.agg #[.int .i64 r, .int .i64 c, .slice ao len c1], .agg #[.int .i64 r, .int .i64 c, .slice bo len c2]] w fun e w' => e = .returned (.bool true) ∧ Kp w w' := by
 have G : Grown w ((w.alloc (.cells #[.int .i64 r, .int .i64 c, .slice ao len c1] 38)).alloc (.cells #[.int .i64 r, .int .i64 c, .slice bo len c2] 38)) := ((Grown.refl _).alloc _ _).alloc _ _
 have S := hide (kitSameQ ao bo len c1 c2 X hl _ (hr.grown G) (ht.grown G))
 have HG := hide G
 clear G hr ht
 go_enter Tryz.func19, Tryz.ntmps19
 go_wp2_with fail
 refine (unhide S).mono ?_
 rintro e w2 ⟨rfl, n, rfl⟩
 have K : Hid (Kp w (((w.alloc (.cells #[.int .i64 r, .int .i64 c, .slice ao len c1] 38)).alloc (.cells #[.int .i64 r, .int .i64 c, .slice bo len c2] 38)).drewN n)) := Kp.of (unhide HG)
 go_wp2
 go_ret
 exact ⟨rfl, unhide K⟩
theorem noPanic_normalE {Q : Exit → Act → World → Prop} {a : Act} {w : World} (h : Q .normal a w) : NoPanic Q .normal a w := h
theorem wrapPi (a b p : Nat) (h : a * b = p) (hp : p ≤ 1000000) : IntKind.i64.wrap ((a : Int) * (b : Int)) = (p : Int) := by
 rw [IntKind.wrap_i64, ← Int.natCast_mul, h]
 omega
theorem wrapAi (a b p : Nat) (h : a + b = p) (hp : p ≤ 1000000) : IntKind.i64.wrap ((a : Int) + (b : Int)) = (p : Int) := by
 rw [IntKind.wrap_i64, ← Int.natCast_add, h]
 omega
theorem Own.congr {B len : Nat} {Z Y : Nat → Int} {w : World} (h : Own B len Z w) (e : ∀ i, i < len → Z i = Y i) : Own B len Y w := let ⟨cur, h1, h2⟩ := h; ⟨cur, h1, fun i hi => by rw [h2 i hi, e i hi]⟩
theorem Own.cellAt {B len : Nat} {Z : Nat → Int} {w : World} (h : Own B len Z w) (k : Nat) (hk : k < len) : w.cell? ⟨B, k, none⟩ = some (.int .i64 (Z k)) := let ⟨cur, h1, h2⟩ := h; by rw [Blk.cell h1, h2 k hk]
theorem owns_ownC {w : World} {base n : Nat} {v : Value} {Z : Nat → Int} (hn : 1 ≤ n) (h : w.ownsRow base 3 1 v n ((List.range n).map fun i => Value.int .i64 (Z i))) : ∃ B cap, v = .slice (some ⟨B, 0, none⟩) n cap ∧ n ≤ cap ∧ base ≤ B ∧ Own B n Z w := by
 obtain ⟨B, cap, rfl, h1, h2⟩ := owns_own hn h
 obtain ⟨ao, cap', e, h3, _⟩ := owns_rowC h
 cases e
 exact ⟨B, cap, rfl, h3, h1, h2⟩
def farB (x : Int) : Bool := decide (x < -68719476736) || decide (68719476736 < x)
theorem farB_no {x : Int} (h : farP x) : farB x = false := by unfold farB farP at *; simp; omega
theorem farB_yes {x : Int} (h : ¬ farP x) : farB x = true := by unfold farB farP at *; simp; omega
set_option maxHeartbeats 1000000 in
theorem refFar (x : Int) (w : World) : Calls Tryz.prog 144 #[.int .i64 x] w fun e w' => e = .returned (.bool (farB x)) ∧ w' = w := by
 unfold farB
 by_cases h : x < -68719476736
 ·rw [decide_eq_true h]
  have d : decide (x < -68719476736) = true := decide_eq_true h
  clear h
  go_enter Tryz.func144, Tryz.ntmps144
  go_wp2
  go_ret
  exact ⟨rfl, rfl⟩
 ·rw [decide_eq_false h]
  have d : decide (x < -68719476736) = false := decide_eq_false h
  clear h
  go_enter Tryz.func144, Tryz.ntmps144
  go_wp2
  go_ret
  exact ⟨by simp, rfl⟩
open Classical in
noncomputable def movB (n al ql : Nat) (A Q : Nat → Int) : Bool := decide (okMoves n al ql A Q)
theorem movB_yes {n al ql : Nat} {A Q : Nat → Int} (h : okMoves n al ql A Q) : movB n al ql A Q = true := by classical exact decide_eq_true h
theorem movB_no {n al ql : Nat} {A Q : Nat → Int} (h : ¬ okMoves n al ql A Q) : movB n al ql A Q = false := by classical exact decide_eq_false h
def okUpTo (n : Nat) (A Q : Nat → Int) (i : Nat) : Prop := ∀ j, j < i → (0 ≤ Q j ∧ Q j ≤ 68719476736) ∧ ∀ k, k < n → farP (A (j * n + k)) ∧ (k ≤ j → A (j * n + k) = 0)
def okRowTo (n : Nat) (A : Nat → Int) (i k : Nat) : Prop := ∀ j, j < k → farP (A (i * n + j)) ∧ (j ≤ i → A (i * n + j) = 0)
set_option maxRecDepth 20000 in
set_option maxHeartbeats 8000000 in
theorem refMoves (n : Nat) (hn : 1 ≤ n ∧ n ≤ 6) (aa qa ro : Option Addr) (al ac ql qc rl rc : Nat) (tick gate rmin : Int) (A Q : Nat → Int) (w : World) (ha : Row w aa al A) (hq : Row w qa ql Q) :
  Calls Tryz.prog 114 #[.agg #[.int .i64 n, .slice aa al ac, .slice qa ql qc, .int .i64 tick, .int .i64 gate, .int .i64 rmin, .slice ro rl rc]] w fun e w' => e = .returned (.bool (movB n al ql A Q)) ∧ Grown w w' := by
 have G1 : Hid (Grown w (w.alloc (.cells #[.int .i64 n, .slice aa al ac, .slice qa ql qc, .int .i64 tick, .int .i64 gate, .int .i64 rmin, .slice ro rl rc] 25))) := (Grown.refl _).alloc _ _
 have bl := Blk.new w #[.int .i64 n, .slice aa al ac, .slice qa ql qc, .int .i64 tick, .int .i64 gate, .int .i64 rmin, .slice ro rl rc] 25
 have y0 : (w.alloc (.cells #[.int .i64 n, .slice aa al ac, .slice qa ql qc, .int .i64 tick, .int .i64 gate, .int .i64 rmin, .slice ro rl rc] 25)).cell? ⟨w.heap.size, 0, none⟩ = some (.int .i64 n) := Blk.cell bl 0
 have y1 : (w.alloc (.cells #[.int .i64 n, .slice aa al ac, .slice qa ql qc, .int .i64 tick, .int .i64 gate, .int .i64 rmin, .slice ro rl rc] 25)).cell? ⟨w.heap.size, 1, none⟩ = some (.slice aa al ac) := Blk.cell bl 1
 have y2 : (w.alloc (.cells #[.int .i64 n, .slice aa al ac, .slice qa ql qc, .int .i64 tick, .int .i64 gate, .int .i64 rmin, .slice ro rl rc] 25)).cell? ⟨w.heap.size, 2, none⟩ = some (.slice qa ql qc) := Blk.cell bl 2
 have RA := hide (ha.grown (unhide G1))
 have RQ := hide (hq.grown (unhide G1))
 obtain ⟨nn, hnn⟩ : ∃ nn, n * n = nn := ⟨_, rfl⟩
 have n36 : nn ≤ 36 := by rw [← hnn]; exact Nat.mul_le_mul hn.2 hn.2
 have wn : wrap64 ((n : Int) * (n : Int)) = (nn : Int) := wrapP n n nn hnn (by omega)
 have HN := hide (And.intro hn (And.intro hnn n36))
 clear bl ha hq hn hnn n36
 by_cases h1 : al = nn
 ·subst h1
  have d1 : ((al : Int) != (al : Int)) = false := by simp
  by_cases h2 : ql = n
  ·subst h2
   have d2 : ((ql : Int) != (ql : Int)) = false := by simp
   go_enter Tryz.func114, Tryz.ntmps114
   go_wp2_with fail
   generalize w.alloc (.cells #[.int .i64 ql, .slice aa al ac, .slice qa ql qc, .int .i64 tick, .int .i64 gate, .int .i64 rmin, .slice ro rl rc] 25) = w1 at *
   go_loop [3] (fun i => ∃ k : Nat, k ≤ ql ∧ i = .int .i64 k ∧ Hid (okUpTo ql A Q k)) (fun i => ql - (intOf i).toNat)
   case atStart => exact ⟨0, Nat.zero_le _, rfl, fun j hj => absurd hj (Nat.not_lt_zero _)⟩
   case round =>
    obtain ⟨i, hi, rfl, HI⟩ := hrel
    have n6 := (unhide HN).1.2
    by_cases hlt : i < ql
    ·obtain ⟨bq, oq, rfl, cq⟩ := (unhide RQ).at hlt
     have i0 : (0 : Int) ≤ (i : Int) := Int.natCast_nonneg _
     have i1 : (i : Int) < (ql : Int) := Int.ofNat_lt.2 hlt
     have QE : Hid (∃ q, Q i = q) := ⟨_, rfl⟩
     obtain ⟨q, hqe⟩ := unhide QE
     rw [hqe] at cq
     by_cases hq0 : q < 0
     ·have dq : decide (q < 0) = true := decide_eq_true hq0
      have GE : Hid (movB ql al ql A Q = false) := movB_no (fun h => by have := (h.2.2 i hlt).1.1; omega)
      clear HI hq0
      go_wp2
      go_ret
      exact ⟨by rw [unhide GE]; rfl, unhide G1⟩
     ·have dq : decide (q < 0) = false := decide_eq_false hq0
      by_cases hq1 : 68719476736 < q
      ·have dq1 : decide (68719476736 < q) = true := decide_eq_true hq1
       have GE : Hid (movB ql al ql A Q = false) := movB_no (fun h => by have := (h.2.2 i hlt).1.2; omega)
       clear HI hq0 hq1
       go_wp2
       go_ret
       exact ⟨by rw [unhide GE]; rfl, unhide G1⟩
      ·have dq1 : decide (68719476736 < q) = false := decide_eq_false hq1
       have HQ : Hid (0 ≤ Q i ∧ Q i ≤ 68719476736) := ⟨by omega, by omega⟩
       clear hq0 hq1
       go_wp2_with fail
       clear dq dq1 cq
       go_loop [4, 5] (fun k _ => ∃ j : Nat, j ≤ ql ∧ k = .int .i64 j ∧ Hid (okRowTo ql A i j)) (fun k _ => ql - (intOf k).toNat)
       case atStart => exact ⟨0, Nat.zero_le _, rfl, fun j hj => absurd hj (Nat.not_lt_zero _)⟩
       case round =>
        obtain ⟨k, hk, rfl, HK⟩ := hrel
        by_cases hkt : k < ql
        ·obtain ⟨p, hpe⟩ : ∃ p, i * ql + k = p := ⟨_, rfl⟩
         have hp : p < al := by
          have h3 := place_in i k ql ql hlt hkt
          have h4 := (unhide HN).2.1
          omega
         obtain ⟨ba, oa, rfl, ca⟩ := (unhide RA).at hp
         obtain ⟨qq, hqq⟩ : ∃ z, i * ql = z := ⟨_, rfl⟩
         rw [hqq] at hpe
         have hn2 := unhide HN
         have wa : wrap64 ((i : Int) * (ql : Int)) = (qq : Int) := wrapP i ql qq hqq (by omega)
         have wb : wrap64 ((qq : Int) + (k : Int)) = (p : Int) := wrapA qq k p hpe (by omega)
         have p0 : (0 : Int) ≤ (p : Int) := Int.natCast_nonneg _
         have p1 : (p : Int) < (al : Int) := Int.ofNat_lt.2 hp
         have EP : Hid (i * ql + k = p) := by show i * ql + k = p; omega
         obtain ⟨a, hae⟩ : ∃ a, A p = a := ⟨_, rfl⟩
         rw [hae] at ca
         have EA : Hid (A (i * ql + k) = a) := by show A (i * ql + k) = a; rw [unhide EP, hae]
         have FA := hide (fun w => refFar a w)
         clear hpe hqq hn2 hp hae
         by_cases hf : farP a
         ·rw [farB_no hf] at FA
          by_cases hki : k ≤ i
          ·have dk : decide ((k : Int) ≤ (i : Int)) = true := decide_eq_true (by omega)
           by_cases h0 : a = 0
           ·have da : (a != 0) = false := by simpa using h0
            have HK2 : Hid (okRowTo ql A i (k + 1)) := fun j hj => by
             by_cases e : j = k
             ·subst e
              rw [unhide EA]
              exact ⟨hf, fun _ => h0⟩
             ·exact unhide HK j (by omega)
            clear hf h0 EA HK
            go_wp2_with fail
            refine (unhide FA _).mono ?_
            rintro e w2 ⟨rfl, e2⟩
            subst e2
            clear FA
            go_wp2
            go_round
            case rel => exact ⟨k + 1, hkt, by go_num, HK2⟩
            case measure => simp [intOf]; omega
           ·have da : (a != 0) = true := by simpa using h0
            have GE : Hid (movB ql al ql A Q = false) := movB_no (fun h => h0 (by rw [← unhide EA]; exact ((h.2.2 i hlt).2 k hkt).2 hki))
            clear hf h0 EA HK
            go_wp2_with fail
            refine (unhide FA _).mono ?_
            rintro e w2 ⟨rfl, e2⟩
            subst e2
            clear FA
            go_wp2
            go_ret
            exact ⟨by rw [unhide GE]; rfl, unhide G1⟩
          ·have dk : decide ((k : Int) ≤ (i : Int)) = false := decide_eq_false (by omega)
           have HK2 : Hid (okRowTo ql A i (k + 1)) := fun j hj => by
            by_cases e : j = k
            ·subst e
             rw [unhide EA]
             exact ⟨hf, fun h => absurd h hki⟩
            ·exact unhide HK j (by omega)
           clear hf EA HK
           go_wp2_with fail
           refine (unhide FA _).mono ?_
           rintro e w2 ⟨rfl, e2⟩
           subst e2
           clear FA
           go_wp2
           go_round
           case rel => exact ⟨k + 1, hkt, by go_num, HK2⟩
           case measure => simp [intOf]; omega
         ·rw [farB_yes hf] at FA
          have GE : Hid (movB ql al ql A Q = false) := movB_no (fun h => hf (by rw [← unhide EA]; exact ((h.2.2 i hlt).2 k hkt).1))
          clear hf EA HK
          go_wp2_with fail
          refine (unhide FA _).mono ?_
          rintro e w2 ⟨rfl, e2⟩
          subst e2
          clear FA
          go_wp2
          go_ret
          exact ⟨by rw [unhide GE]; rfl, unhide G1⟩
        ·obtain rfl : k = ql := by omega
         have HI2 : Hid (okUpTo k A Q (i + 1)) := fun j hj => by
          by_cases e : j = i
          ·subst e
           exact ⟨unhide HQ, unhide HK⟩
          ·exact unhide HI j (by omega)
         go_wp2
         go_round
         case rel => exact ⟨i + 1, hlt, by go_num, HI2⟩
         case measure => simp [intOf]; omega
    ·obtain rfl : i = ql := by omega
     have GE := hide (movB_yes (n := i) (al := al) (ql := i) (A := A) (Q := Q) ⟨by have := (unhide HN).2.1; omega, rfl, unhide HI⟩)
     go_wp2
     go_ret
     exact ⟨by rw [unhide GE]; rfl, unhide G1⟩
  ·have d2 : ((ql : Int) != (n : Int)) = true := by simp; omega
   have GE : Hid (movB n al ql A Q = false) := movB_no (fun h => h2 h.2.1)
   clear h2
   go_enter Tryz.func114, Tryz.ntmps114
   go_wp2
   go_ret
   exact ⟨by rw [unhide GE]; rfl, unhide G1⟩
 ·have d1 : ((al : Int) != (nn : Int)) = true := by simp; omega
  have GE : Hid (movB n al ql A Q = false) := movB_no (fun h => h1 (h.1.trans (unhide HN).2.1))
  clear h1
  go_enter Tryz.func114, Tryz.ntmps114
  go_wp2
  go_ret
  exact ⟨by rw [unhide GE]; rfl, unhide G1⟩
def okSee (n : Nat) (rmin last s : Int) (hl : Nat) (H : Nat → Int) (r : Int) : Prop := (1 ≤ s ∧ s ≤ 16 ∧ last ≤ s) ∧ (hl : Int) = n ∧ rmin ≤ r ∧ ∀ j, j < hl → farP (H j)
open Classical in
noncomputable def seeB (n : Nat) (rmin last s : Int) (hl : Nat) (H : Nat → Int) (r : Int) : Bool := decide (okSee n rmin last s hl H r)
theorem seeB_yes {n : Nat} {rmin last s : Int} {hl : Nat} {H : Nat → Int} {r : Int} (h : okSee n rmin last s hl H r) : seeB n rmin last s hl H r = true := by classical exact decide_eq_true h
theorem seeB_no {n : Nat} {rmin last s : Int} {hl : Nat} {H : Nat → Int} {r : Int} (h : ¬ okSee n rmin last s hl H r) : seeB n rmin last s hl H r = false := by classical exact decide_eq_false h
set_option maxRecDepth 20000 in
set_option maxHeartbeats 8000000 in
theorem refSees (n : Nat) (hn : 1 ≤ n ∧ n ≤ 6) (aa qa ro : Option Addr) (al ac ql qc rl rc : Nat) (tick gate rmin : Int) (s r last : Int) (ha : Option Addr) (hl hc : Nat) (H : Nat → Int) (w : World) (rh : Row w ha hl H) :
  Calls Tryz.prog 115 #[.agg #[.int .i64 n, .slice aa al ac, .slice qa ql qc, .int .i64 tick, .int .i64 gate, .int .i64 rmin, .slice ro rl rc], .agg #[.int .i64 s, .slice ha hl hc, .int .i64 r], .int .i64 last] w fun e w' => e = .returned (.bool (seeB n rmin last s hl H r)) ∧ Grown w w' := by
 have G1 : Hid (Grown w ((w.alloc (.cells #[.int .i64 n, .slice aa al ac, .slice qa ql qc, .int .i64 tick, .int .i64 gate, .int .i64 rmin, .slice ro rl rc] 25)).alloc (.cells #[.int .i64 s, .slice ha hl hc, .int .i64 r] 62))) := ((Grown.refl _).alloc _ _).alloc _ _
 have b1 := Blk.grown (Blk.new w #[.int .i64 n, .slice aa al ac, .slice qa ql qc, .int .i64 tick, .int .i64 gate, .int .i64 rmin, .slice ro rl rc] 25) ((Grown.refl _).alloc #[.int .i64 s, .slice ha hl hc, .int .i64 r] 62)
 have b2 := blk_new2 w (.cells #[.int .i64 n, .slice aa al ac, .slice qa ql qc, .int .i64 tick, .int .i64 gate, .int .i64 rmin, .slice ro rl rc] 25) #[.int .i64 s, .slice ha hl hc, .int .i64 r] 62
 have y0 : ((w.alloc (.cells #[.int .i64 n, .slice aa al ac, .slice qa ql qc, .int .i64 tick, .int .i64 gate, .int .i64 rmin, .slice ro rl rc] 25)).alloc (.cells #[.int .i64 s, .slice ha hl hc, .int .i64 r] 62)).cell? ⟨w.heap.size, 0, none⟩ = some (.int .i64 n) := Blk.cell b1 0
 have y5 : ((w.alloc (.cells #[.int .i64 n, .slice aa al ac, .slice qa ql qc, .int .i64 tick, .int .i64 gate, .int .i64 rmin, .slice ro rl rc] 25)).alloc (.cells #[.int .i64 s, .slice ha hl hc, .int .i64 r] 62)).cell? ⟨w.heap.size, 5, none⟩ = some (.int .i64 rmin) := Blk.cell b1 5
 have z0 : ((w.alloc (.cells #[.int .i64 n, .slice aa al ac, .slice qa ql qc, .int .i64 tick, .int .i64 gate, .int .i64 rmin, .slice ro rl rc] 25)).alloc (.cells #[.int .i64 s, .slice ha hl hc, .int .i64 r] 62)).cell? ⟨w.heap.size + 1, 0, none⟩ = some (.int .i64 s) := Blk.cell b2 0
 have z1 : ((w.alloc (.cells #[.int .i64 n, .slice aa al ac, .slice qa ql qc, .int .i64 tick, .int .i64 gate, .int .i64 rmin, .slice ro rl rc] 25)).alloc (.cells #[.int .i64 s, .slice ha hl hc, .int .i64 r] 62)).cell? ⟨w.heap.size + 1, 1, none⟩ = some (.slice ha hl hc) := Blk.cell b2 1
 have z2 : ((w.alloc (.cells #[.int .i64 n, .slice aa al ac, .slice qa ql qc, .int .i64 tick, .int .i64 gate, .int .i64 rmin, .slice ro rl rc] 25)).alloc (.cells #[.int .i64 s, .slice ha hl hc, .int .i64 r] 62)).cell? ⟨w.heap.size + 1, 2, none⟩ = some (.int .i64 r) := Blk.cell b2 2
 have RH := hide (rh.grown (unhide G1))
 clear b1 b2 rh
 by_cases h1 : s < 1
 ·have dh1 : decide (s < 1) = true := decide_eq_true h1
  have GE := hide (seeB_no (n := n) (rmin := rmin) (last := last) (s := s) (hl := hl) (H := H) (r := r) (fun h => by have := h.1.1; omega))
  go_enter Tryz.func115, Tryz.ntmps115
  go_wp2
  go_ret
  exact ⟨by rw [unhide GE]; rfl, unhide G1⟩
 ·have dh1 : decide (s < 1) = false := decide_eq_false h1
  by_cases h2 : 16 < s
  ·have dh2 : decide (16 < s) = true := decide_eq_true h2
   have GE := hide (seeB_no (n := n) (rmin := rmin) (last := last) (s := s) (hl := hl) (H := H) (r := r) (fun h => by have := h.1.2.1; omega))
   go_enter Tryz.func115, Tryz.ntmps115
   go_wp2
   go_ret
   exact ⟨by rw [unhide GE]; rfl, unhide G1⟩
  ·have dh2 : decide (16 < s) = false := decide_eq_false h2
   by_cases h3 : s < last
   ·have dh3 : decide (s < last) = true := decide_eq_true h3
    have GE := hide (seeB_no (n := n) (rmin := rmin) (last := last) (s := s) (hl := hl) (H := H) (r := r) (fun h => by have := h.1.2.2; omega))
    go_enter Tryz.func115, Tryz.ntmps115
    go_wp2
    go_ret
    exact ⟨by rw [unhide GE]; rfl, unhide G1⟩
   ·have dh3 : decide (s < last) = false := decide_eq_false h3
    by_cases h4 : (hl : Int) ≠ (n : Int)
    ·have dh4 : ((hl : Int) != (n : Int)) = true := by simpa using h4
     have GE := hide (seeB_no (n := n) (rmin := rmin) (last := last) (s := s) (hl := hl) (H := H) (r := r) (fun h => h4 h.2.1))
     go_enter Tryz.func115, Tryz.ntmps115
     go_wp2
     go_ret
     exact ⟨by rw [unhide GE]; rfl, unhide G1⟩
    ·have dh4 : ((hl : Int) != (n : Int)) = false := by simpa using h4
     by_cases h5 : r < rmin
     ·have dh5 : decide (r < rmin) = true := decide_eq_true h5
      have GE := hide (seeB_no (n := n) (rmin := rmin) (last := last) (s := s) (hl := hl) (H := H) (r := r) (fun h => by have := h.2.2.1; omega))
      go_enter Tryz.func115, Tryz.ntmps115
      go_wp2
      go_ret
      exact ⟨by rw [unhide GE]; rfl, unhide G1⟩
     ·have dh5 : decide (r < rmin) = false := decide_eq_false h5
      have OKK : Hid ((1 ≤ s ∧ s ≤ 16 ∧ last ≤ s) ∧ (hl : Int) = n ∧ rmin ≤ r) := ⟨⟨by omega, by omega, by omega⟩, by omega, by omega⟩
      have h6 : hl ≤ 6 := by omega
      clear h1 h2 h3 h4 h5
      go_enter Tryz.func115, Tryz.ntmps115
      go_wp2_with fail
      generalize ((w.alloc (.cells #[.int .i64 n, .slice aa al ac, .slice qa ql qc, .int .i64 tick, .int .i64 gate, .int .i64 rmin, .slice ro rl rc] 25)).alloc (.cells #[.int .i64 s, .slice ha hl hc, .int .i64 r] 62)) = w1 at *
      clear dh1 dh2 dh3 dh4 dh5
      go_loop [7] (fun i => ∃ k : Nat, k ≤ hl ∧ i = .int .i64 k ∧ Hid (∀ j, j < k → farP (H j))) (fun i => hl - (intOf i).toNat)
      case atStart => exact ⟨0, Nat.zero_le _, rfl, fun j hj => absurd hj (Nat.not_lt_zero _)⟩
      case round =>
       obtain ⟨k, hk, rfl, HK⟩ := hrel
       by_cases hlt : k < hl
       ·obtain ⟨bh, oh, rfl, ch⟩ := (unhide RH).at hlt
        have i0 : (0 : Int) ≤ (k : Int) := Int.natCast_nonneg _
        have i1 : (k : Int) < (hl : Int) := Int.ofNat_lt.2 hlt
        obtain ⟨a, hae⟩ : ∃ a, H k = a := ⟨_, rfl⟩
        rw [hae] at ch
        have FA := hide (fun w => refFar a w)
        by_cases hf : farP a
        ·rw [farB_no hf] at FA
         have HK2 : Hid (∀ j, j < k + 1 → farP (H j)) := fun j hj => by
          by_cases e : j = k
          ·subst e
           rw [hae]
           exact hf
          ·exact unhide HK j (by omega)
         clear hf hae HK
         go_wp2_with fail
         refine (unhide FA _).mono ?_
         rintro e w2 ⟨rfl, e2⟩
         subst e2
         clear FA
         go_wp2
         go_round
         case rel => exact ⟨k + 1, hlt, by go_num, HK2⟩
         case measure => simp [intOf]; omega
        ·rw [farB_yes hf] at FA
         have GE := hide (seeB_no (n := n) (rmin := rmin) (last := last) (s := s) (hl := hl) (H := H) (r := r) (fun h => hf (by rw [← hae]; exact h.2.2.2 k hlt)))
         clear hf hae HK
         go_wp2_with fail
         refine (unhide FA _).mono ?_
         rintro e w2 ⟨rfl, e2⟩
         subst e2
         clear FA
         go_wp2
         go_ret
         exact ⟨by rw [unhide GE]; rfl, unhide G1⟩
       ·obtain rfl : k = hl := by omega
        have GE := hide (seeB_yes (n := n) (rmin := rmin) (last := last) (s := s) (hl := k) (H := H) (r := r) ⟨(unhide OKK).1, (unhide OKK).2.1, (unhide OKK).2.2, unhide HK⟩)
        go_wp2
        go_ret
        exact ⟨by rw [unhide GE]; rfl, unhide G1⟩
end Go.Proofs.YtjobgjcfkomhpaaGreat
namespace Go.Proofs.YtjobgjcfkomhpaaGreat
open Go.RowKit Go.Shelf Go.Proofs.Wd
set_option maxRecDepth 10000
attribute [local go_sem ↓] Go.wp_at_zero Go.wp_at_succ
def okC (N : Int) (al ql rl : Nat) (A Q : Nat → Int) (tick gate rmin : Int) (X : Nat → RV) : Prop := (1 ≤ N ∧ N ≤ 6) ∧ okMoves N.toNat al ql A Q ∧ (1 ≤ tick ∧ tick ≤ 4294967296) ∧ 1 ≤ gate ∧ 1 ≤ rmin ∧ rl ≤ 24 ∧ ∀ i, i < rl → okRow N rmin (lastS X i) (X i)
open Classical in
noncomputable def chkC (N : Int) (al ql rl : Nat) (A Q : Nat → Int) (tick gate rmin : Int) (X : Nat → RV) : Int := if okC N al ql rl A Q tick gate rmin X then 0 else 2
theorem chkC_yes {N : Int} {al ql rl : Nat} {A Q : Nat → Int} {tick gate rmin : Int} {X : Nat → RV} (h : okC N al ql rl A Q tick gate rmin X) : chkC N al ql rl A Q tick gate rmin X = 0 := if_pos h
theorem chkC_no {N : Int} {al ql rl : Nat} {A Q : Nat → Int} {tick gate rmin : Int} {X : Nat → RV} (h : ¬ okC N al ql rl A Q tick gate rmin X) : chkC N al ql rl A Q tick gate rmin X = 2 := if_neg h
theorem chkD_C (m : DV) : chkD m = chkC m.N m.A.len m.Q.len m.rl m.A.Z m.Q.Z m.tick m.gate m.rmin m.X := rfl
set_option maxRecDepth 20000 in
set_option maxHeartbeats 4000000 in
theorem refCheck_N (N : Int) (aa qa ro : Option Addr) (al ac ql qc rl rc : Nat) (tick gate rmin : Int) (A Q : Nat → Int) (X : Nat → RV) (w : World) (hb : N < 1 ∨ 6 < N) :
  Calls Tryz.prog 75 #[.agg #[.int .i64 N, .slice aa al ac, .slice qa ql qc, .int .i64 tick, .int .i64 gate, .int .i64 rmin, .slice ro rl rc]] w fun e w' => e = .returned (.int .i64 (chkC N al ql rl A Q tick gate rmin X)) ∧ Grown w w' := by
 rw [chkC_no (fun h => by have := h.1; omega)]
 have G1 : Hid (Grown w (w.alloc (.cells #[.int .i64 N, .slice aa al ac, .slice qa ql qc, .int .i64 tick, .int .i64 gate, .int .i64 rmin, .slice ro rl rc] 25)) ∧ Blk w.heap.size #[.int .i64 N, .slice aa al ac, .slice qa ql qc, .int .i64 tick, .int .i64 gate, .int .i64 rmin, .slice ro rl rc] 25 (w.alloc (.cells #[.int .i64 N, .slice aa al ac, .slice qa ql qc, .int .i64 tick, .int .i64 gate, .int .i64 rmin, .slice ro rl rc] 25))) := ⟨(Grown.refl _).alloc _ _, Blk.new _ _ _⟩
 have y0 : (w.alloc (.cells #[.int .i64 N, .slice aa al ac, .slice qa ql qc, .int .i64 tick, .int .i64 gate, .int .i64 rmin, .slice ro rl rc] 25)).cell? ⟨w.heap.size, 0, none⟩ = some (.int .i64 N) := Blk.cell (unhide G1).2 0
 have y1 : (w.alloc (.cells #[.int .i64 N, .slice aa al ac, .slice qa ql qc, .int .i64 tick, .int .i64 gate, .int .i64 rmin, .slice ro rl rc] 25)).cell? ⟨w.heap.size, 1, none⟩ = some (.slice aa al ac) := Blk.cell (unhide G1).2 1
 have y2 : (w.alloc (.cells #[.int .i64 N, .slice aa al ac, .slice qa ql qc, .int .i64 tick, .int .i64 gate, .int .i64 rmin, .slice ro rl rc] 25)).cell? ⟨w.heap.size, 2, none⟩ = some (.slice qa ql qc) := Blk.cell (unhide G1).2 2
 have y3 : (w.alloc (.cells #[.int .i64 N, .slice aa al ac, .slice qa ql qc, .int .i64 tick, .int .i64 gate, .int .i64 rmin, .slice ro rl rc] 25)).cell? ⟨w.heap.size, 3, none⟩ = some (.int .i64 tick) := Blk.cell (unhide G1).2 3
 have y4 : (w.alloc (.cells #[.int .i64 N, .slice aa al ac, .slice qa ql qc, .int .i64 tick, .int .i64 gate, .int .i64 rmin, .slice ro rl rc] 25)).cell? ⟨w.heap.size, 4, none⟩ = some (.int .i64 gate) := Blk.cell (unhide G1).2 4
 have y5 : (w.alloc (.cells #[.int .i64 N, .slice aa al ac, .slice qa ql qc, .int .i64 tick, .int .i64 gate, .int .i64 rmin, .slice ro rl rc] 25)).cell? ⟨w.heap.size, 5, none⟩ = some (.int .i64 rmin) := Blk.cell (unhide G1).2 5
 have y6 : (w.alloc (.cells #[.int .i64 N, .slice aa al ac, .slice qa ql qc, .int .i64 tick, .int .i64 gate, .int .i64 rmin, .slice ro rl rc] 25)).cell? ⟨w.heap.size, 6, none⟩ = some (.slice ro rl rc) := Blk.cell (unhide G1).2 6
 by_cases h1 : N < 1
 ·have d1 : decide (N < 1) = true := decide_eq_true h1
  clear h1 hb
  go_enter Tryz.func75, Tryz.ntmps75
  go_wp2
  go_ret
  exact ⟨rfl, (unhide G1).1⟩
 ·have d1 : decide (N < 1) = false := decide_eq_false h1
  have d6 : decide (6 < N) = true := decide_eq_true (by omega)
  clear h1 hb
  go_enter Tryz.func75, Tryz.ntmps75
  go_wp2
  go_ret
  exact ⟨rfl, (unhide G1).1⟩
set_option maxRecDepth 20000 in
set_option maxHeartbeats 8000000 in
theorem refCheck_n (n : Nat) (hn : 1 ≤ n ∧ n ≤ 6) (aa qa ro : Option Addr) (al ac ql qc rl rc : Nat) (tick gate rmin : Int) (A Q : Nat → Int) (X : Nat → RV) (w : World) (ha0 : Row w aa al A) (hq0 : Row w qa ql Q) (hr : RVs w ro rl X) (hh : ∀ i, i < rl → Row w (X i).h.ao (X i).h.len (X i).h.Z) :
  Calls Tryz.prog 75 #[.agg #[.int .i64 n, .slice aa al ac, .slice qa ql qc, .int .i64 tick, .int .i64 gate, .int .i64 rmin, .slice ro rl rc]] w fun e w' => e = .returned (.int .i64 (chkC (n : Int) al ql rl A Q tick gate rmin X)) ∧ Grown w w' := by
 have HN := hide hn
 have MV : Hid (∀ W, Grown w W → Calls Tryz.prog 114 #[.agg #[.int .i64 n, .slice aa al ac, .slice qa ql qc, .int .i64 tick, .int .i64 gate, .int .i64 rmin, .slice ro rl rc]] W fun e w' => e = .returned (.bool (movB n al ql A Q)) ∧ Grown W w') := fun W g => refMoves n hn aa qa ro al ac ql qc rl rc tick gate rmin A Q W (ha0.grown g) (hq0.grown g)
 have RR := hide (And.intro hr hh)
 have dn1 : decide ((n : Int) < 1) = false := decide_eq_false (by omega)
 have dn6 : decide ((6 : Int) < (n : Int)) = false := decide_eq_false (by omega)
 have EN : Hid ((n : Int).toNat = n) := Int.toNat_natCast n
 have G1 : Hid (Grown w (w.alloc (.cells #[.int .i64 n, .slice aa al ac, .slice qa ql qc, .int .i64 tick, .int .i64 gate, .int .i64 rmin, .slice ro rl rc] 25)) ∧ Blk w.heap.size #[.int .i64 n, .slice aa al ac, .slice qa ql qc, .int .i64 tick, .int .i64 gate, .int .i64 rmin, .slice ro rl rc] 25 (w.alloc (.cells #[.int .i64 n, .slice aa al ac, .slice qa ql qc, .int .i64 tick, .int .i64 gate, .int .i64 rmin, .slice ro rl rc] 25))) := ⟨(Grown.refl _).alloc _ _, Blk.new _ _ _⟩
 have y0 : (w.alloc (.cells #[.int .i64 n, .slice aa al ac, .slice qa ql qc, .int .i64 tick, .int .i64 gate, .int .i64 rmin, .slice ro rl rc] 25)).cell? ⟨w.heap.size, 0, none⟩ = some (.int .i64 n) := Blk.cell (unhide G1).2 0
 have y1 : (w.alloc (.cells #[.int .i64 n, .slice aa al ac, .slice qa ql qc, .int .i64 tick, .int .i64 gate, .int .i64 rmin, .slice ro rl rc] 25)).cell? ⟨w.heap.size, 1, none⟩ = some (.slice aa al ac) := Blk.cell (unhide G1).2 1
 have y2 : (w.alloc (.cells #[.int .i64 n, .slice aa al ac, .slice qa ql qc, .int .i64 tick, .int .i64 gate, .int .i64 rmin, .slice ro rl rc] 25)).cell? ⟨w.heap.size, 2, none⟩ = some (.slice qa ql qc) := Blk.cell (unhide G1).2 2
 have y3 : (w.alloc (.cells #[.int .i64 n, .slice aa al ac, .slice qa ql qc, .int .i64 tick, .int .i64 gate, .int .i64 rmin, .slice ro rl rc] 25)).cell? ⟨w.heap.size, 3, none⟩ = some (.int .i64 tick) := Blk.cell (unhide G1).2 3
 have y4 : (w.alloc (.cells #[.int .i64 n, .slice aa al ac, .slice qa ql qc, .int .i64 tick, .int .i64 gate, .int .i64 rmin, .slice ro rl rc] 25)).cell? ⟨w.heap.size, 4, none⟩ = some (.int .i64 gate) := Blk.cell (unhide G1).2 4
 have y5 : (w.alloc (.cells #[.int .i64 n, .slice aa al ac, .slice qa ql qc, .int .i64 tick, .int .i64 gate, .int .i64 rmin, .slice ro rl rc] 25)).cell? ⟨w.heap.size, 5, none⟩ = some (.int .i64 rmin) := Blk.cell (unhide G1).2 5
 have y6 : (w.alloc (.cells #[.int .i64 n, .slice aa al ac, .slice qa ql qc, .int .i64 tick, .int .i64 gate, .int .i64 rmin, .slice ro rl rc] 25)).cell? ⟨w.heap.size, 6, none⟩ = some (.slice ro rl rc) := Blk.cell (unhide G1).2 6
 clear hn ha0 hq0 hr hh
 by_cases hm : okMoves n al ql A Q
 ·rw [movB_yes hm] at MV
  have MO : Hid (okMoves (n : Int).toNat al ql A Q) := by show okMoves (n : Int).toNat al ql A Q; rw [unhide EN]; exact hm
  clear hm EN
  by_cases h3 : tick < 1
  ·have dh3 : decide (tick < 1) = true := decide_eq_true (by omega)
   have GE : Hid (chkC (n : Int) al ql rl A Q tick gate rmin X = 2) := chkC_no (fun h => by have := h.2.2.1; omega)
   clear RR
   go_enter Tryz.func75, Tryz.ntmps75
   go_wp2_with fail
   generalize (w.alloc (.cells #[.int .i64 n, .slice aa al ac, .slice qa ql qc, .int .i64 tick, .int .i64 gate, .int .i64 rmin, .slice ro rl rc] 25)) = w1 at *
   refine (unhide MV _ (unhide G1).1).mono ?_
   rintro e w2 ⟨rfl, g2⟩
   have G2 := hide (And.intro (gtrans (unhide G1).1 g2) (Blk.grown (unhide G1).2 g2))
   clear g2 G1 MV y0 y1 y2 y3 y4 y5 y6
   have z0 : w2.cell? ⟨w.heap.size, 0, none⟩ = some (.int .i64 n) := Blk.cell (unhide G2).2 0
   have z1 : w2.cell? ⟨w.heap.size, 1, none⟩ = some (.slice aa al ac) := Blk.cell (unhide G2).2 1
   have z2 : w2.cell? ⟨w.heap.size, 2, none⟩ = some (.slice qa ql qc) := Blk.cell (unhide G2).2 2
   have z3 : w2.cell? ⟨w.heap.size, 3, none⟩ = some (.int .i64 tick) := Blk.cell (unhide G2).2 3
   have z4 : w2.cell? ⟨w.heap.size, 4, none⟩ = some (.int .i64 gate) := Blk.cell (unhide G2).2 4
   have z5 : w2.cell? ⟨w.heap.size, 5, none⟩ = some (.int .i64 rmin) := Blk.cell (unhide G2).2 5
   have z6 : w2.cell? ⟨w.heap.size, 6, none⟩ = some (.slice ro rl rc) := Blk.cell (unhide G2).2 6
   go_wp2
   go_ret
   exact ⟨by rw [unhide GE]; rfl, (unhide G2).1⟩
  ·have dh3 : decide (tick < 1) = false := decide_eq_false (by omega)
   by_cases h4 : 4294967296 < tick
   ·have dh4 : decide (4294967296 < tick) = true := decide_eq_true (by omega)
    have GE : Hid (chkC (n : Int) al ql rl A Q tick gate rmin X = 2) := chkC_no (fun h => by have := h.2.2.1; omega)
    clear RR
    go_enter Tryz.func75, Tryz.ntmps75
    go_wp2_with fail
    generalize (w.alloc (.cells #[.int .i64 n, .slice aa al ac, .slice qa ql qc, .int .i64 tick, .int .i64 gate, .int .i64 rmin, .slice ro rl rc] 25)) = w1 at *
    refine (unhide MV _ (unhide G1).1).mono ?_
    rintro e w2 ⟨rfl, g2⟩
    have G2 := hide (And.intro (gtrans (unhide G1).1 g2) (Blk.grown (unhide G1).2 g2))
    clear g2 G1 MV y0 y1 y2 y3 y4 y5 y6
    have z0 : w2.cell? ⟨w.heap.size, 0, none⟩ = some (.int .i64 n) := Blk.cell (unhide G2).2 0
    have z1 : w2.cell? ⟨w.heap.size, 1, none⟩ = some (.slice aa al ac) := Blk.cell (unhide G2).2 1
    have z2 : w2.cell? ⟨w.heap.size, 2, none⟩ = some (.slice qa ql qc) := Blk.cell (unhide G2).2 2
    have z3 : w2.cell? ⟨w.heap.size, 3, none⟩ = some (.int .i64 tick) := Blk.cell (unhide G2).2 3
    have z4 : w2.cell? ⟨w.heap.size, 4, none⟩ = some (.int .i64 gate) := Blk.cell (unhide G2).2 4
    have z5 : w2.cell? ⟨w.heap.size, 5, none⟩ = some (.int .i64 rmin) := Blk.cell (unhide G2).2 5
    have z6 : w2.cell? ⟨w.heap.size, 6, none⟩ = some (.slice ro rl rc) := Blk.cell (unhide G2).2 6
    go_wp2
    go_ret
    exact ⟨by rw [unhide GE]; rfl, (unhide G2).1⟩
   ·have dh4 : decide (4294967296 < tick) = false := decide_eq_false (by omega)
    by_cases h5 : gate < 1
    ·have dh5 : decide (gate < 1) = true := decide_eq_true (by omega)
     have GE : Hid (chkC (n : Int) al ql rl A Q tick gate rmin X = 2) := chkC_no (fun h => by have := h.2.2.2.1; omega)
     clear RR
     go_enter Tryz.func75, Tryz.ntmps75
     go_wp2_with fail
     generalize (w.alloc (.cells #[.int .i64 n, .slice aa al ac, .slice qa ql qc, .int .i64 tick, .int .i64 gate, .int .i64 rmin, .slice ro rl rc] 25)) = w1 at *
     refine (unhide MV _ (unhide G1).1).mono ?_
     rintro e w2 ⟨rfl, g2⟩
     have G2 := hide (And.intro (gtrans (unhide G1).1 g2) (Blk.grown (unhide G1).2 g2))
     clear g2 G1 MV y0 y1 y2 y3 y4 y5 y6
     have z0 : w2.cell? ⟨w.heap.size, 0, none⟩ = some (.int .i64 n) := Blk.cell (unhide G2).2 0
     have z1 : w2.cell? ⟨w.heap.size, 1, none⟩ = some (.slice aa al ac) := Blk.cell (unhide G2).2 1
     have z2 : w2.cell? ⟨w.heap.size, 2, none⟩ = some (.slice qa ql qc) := Blk.cell (unhide G2).2 2
     have z3 : w2.cell? ⟨w.heap.size, 3, none⟩ = some (.int .i64 tick) := Blk.cell (unhide G2).2 3
     have z4 : w2.cell? ⟨w.heap.size, 4, none⟩ = some (.int .i64 gate) := Blk.cell (unhide G2).2 4
     have z5 : w2.cell? ⟨w.heap.size, 5, none⟩ = some (.int .i64 rmin) := Blk.cell (unhide G2).2 5
     have z6 : w2.cell? ⟨w.heap.size, 6, none⟩ = some (.slice ro rl rc) := Blk.cell (unhide G2).2 6
     go_wp2
     go_ret
     exact ⟨by rw [unhide GE]; rfl, (unhide G2).1⟩
    ·have dh5 : decide (gate < 1) = false := decide_eq_false (by omega)
     by_cases h6 : rmin < 1
     ·have dh6 : decide (rmin < 1) = true := decide_eq_true (by omega)
      have GE : Hid (chkC (n : Int) al ql rl A Q tick gate rmin X = 2) := chkC_no (fun h => by have := h.2.2.2.2.1; omega)
      clear RR
      go_enter Tryz.func75, Tryz.ntmps75
      go_wp2_with fail
      generalize (w.alloc (.cells #[.int .i64 n, .slice aa al ac, .slice qa ql qc, .int .i64 tick, .int .i64 gate, .int .i64 rmin, .slice ro rl rc] 25)) = w1 at *
      refine (unhide MV _ (unhide G1).1).mono ?_
      rintro e w2 ⟨rfl, g2⟩
      have G2 := hide (And.intro (gtrans (unhide G1).1 g2) (Blk.grown (unhide G1).2 g2))
      clear g2 G1 MV y0 y1 y2 y3 y4 y5 y6
      have z0 : w2.cell? ⟨w.heap.size, 0, none⟩ = some (.int .i64 n) := Blk.cell (unhide G2).2 0
      have z1 : w2.cell? ⟨w.heap.size, 1, none⟩ = some (.slice aa al ac) := Blk.cell (unhide G2).2 1
      have z2 : w2.cell? ⟨w.heap.size, 2, none⟩ = some (.slice qa ql qc) := Blk.cell (unhide G2).2 2
      have z3 : w2.cell? ⟨w.heap.size, 3, none⟩ = some (.int .i64 tick) := Blk.cell (unhide G2).2 3
      have z4 : w2.cell? ⟨w.heap.size, 4, none⟩ = some (.int .i64 gate) := Blk.cell (unhide G2).2 4
      have z5 : w2.cell? ⟨w.heap.size, 5, none⟩ = some (.int .i64 rmin) := Blk.cell (unhide G2).2 5
      have z6 : w2.cell? ⟨w.heap.size, 6, none⟩ = some (.slice ro rl rc) := Blk.cell (unhide G2).2 6
      go_wp2
      go_ret
      exact ⟨by rw [unhide GE]; rfl, (unhide G2).1⟩
     ·have dh6 : decide (rmin < 1) = false := decide_eq_false (by omega)
      by_cases h7 : 24 < rl
      ·have dh7 : decide ((24 : Int) < (rl : Int)) = true := decide_eq_true (by omega)
       have GE : Hid (chkC (n : Int) al ql rl A Q tick gate rmin X = 2) := chkC_no (fun h => by have := h.2.2.2.2.2.1; omega)
       clear RR
       go_enter Tryz.func75, Tryz.ntmps75
       go_wp2_with fail
       generalize (w.alloc (.cells #[.int .i64 n, .slice aa al ac, .slice qa ql qc, .int .i64 tick, .int .i64 gate, .int .i64 rmin, .slice ro rl rc] 25)) = w1 at *
       refine (unhide MV _ (unhide G1).1).mono ?_
       rintro e w2 ⟨rfl, g2⟩
       have G2 := hide (And.intro (gtrans (unhide G1).1 g2) (Blk.grown (unhide G1).2 g2))
       clear g2 G1 MV y0 y1 y2 y3 y4 y5 y6
       have z0 : w2.cell? ⟨w.heap.size, 0, none⟩ = some (.int .i64 n) := Blk.cell (unhide G2).2 0
       have z1 : w2.cell? ⟨w.heap.size, 1, none⟩ = some (.slice aa al ac) := Blk.cell (unhide G2).2 1
       have z2 : w2.cell? ⟨w.heap.size, 2, none⟩ = some (.slice qa ql qc) := Blk.cell (unhide G2).2 2
       have z3 : w2.cell? ⟨w.heap.size, 3, none⟩ = some (.int .i64 tick) := Blk.cell (unhide G2).2 3
       have z4 : w2.cell? ⟨w.heap.size, 4, none⟩ = some (.int .i64 gate) := Blk.cell (unhide G2).2 4
       have z5 : w2.cell? ⟨w.heap.size, 5, none⟩ = some (.int .i64 rmin) := Blk.cell (unhide G2).2 5
       have z6 : w2.cell? ⟨w.heap.size, 6, none⟩ = some (.slice ro rl rc) := Blk.cell (unhide G2).2 6
       go_wp2
       go_ret
       exact ⟨by rw [unhide GE]; rfl, (unhide G2).1⟩
      ·have dh7 : decide ((24 : Int) < (rl : Int)) = false := decide_eq_false (by omega)
       have OKK : Hid ((1 ≤ tick ∧ tick ≤ 4294967296) ∧ 1 ≤ gate ∧ 1 ≤ rmin ∧ rl ≤ 24) := ⟨⟨by omega, by omega⟩, by omega, by omega, by omega⟩
       have r24 : rl ≤ 24 := by omega
       clear h3 h4 h5 h6 h7
       go_enter Tryz.func75, Tryz.ntmps75
       go_wp2_with fail
       generalize (w.alloc (.cells #[.int .i64 n, .slice aa al ac, .slice qa ql qc, .int .i64 tick, .int .i64 gate, .int .i64 rmin, .slice ro rl rc] 25)) = w1 at *
       refine (unhide MV _ (unhide G1).1).mono ?_
       rintro e w2 ⟨rfl, g2⟩
       have G2 : Hid (Grown w w2 ∧ Blk w.heap.size #[.int .i64 n, .slice aa al ac, .slice qa ql qc, .int .i64 tick, .int .i64 gate, .int .i64 rmin, .slice ro rl rc] 25 w2 ∧ ∀ j, j < 0 → okRow n rmin (lastS X j) (X j)) := ⟨gtrans (unhide G1).1 g2, Blk.grown (unhide G1).2 g2, fun j hj => absurd hj (Nat.not_lt_zero _)⟩
       clear g2 G1 MV y0 y1 y2 y3 y4 y5 y6
       have z0 : w2.cell? ⟨w.heap.size, 0, none⟩ = some (.int .i64 n) := Blk.cell (unhide G2).2.1 0
       have z1 : w2.cell? ⟨w.heap.size, 1, none⟩ = some (.slice aa al ac) := Blk.cell (unhide G2).2.1 1
       have z2 : w2.cell? ⟨w.heap.size, 2, none⟩ = some (.slice qa ql qc) := Blk.cell (unhide G2).2.1 2
       have z3 : w2.cell? ⟨w.heap.size, 3, none⟩ = some (.int .i64 tick) := Blk.cell (unhide G2).2.1 3
       have z4 : w2.cell? ⟨w.heap.size, 4, none⟩ = some (.int .i64 gate) := Blk.cell (unhide G2).2.1 4
       have z5 : w2.cell? ⟨w.heap.size, 5, none⟩ = some (.int .i64 rmin) := Blk.cell (unhide G2).2.1 5
       have z6 : w2.cell? ⟨w.heap.size, 6, none⟩ = some (.slice ro rl rc) := Blk.cell (unhide G2).2.1 6
       go_wp2_with fail
       clear dh3 dh4 dh5 dh6 dh7 z0 z1 z2 z3 z4 z5 z6
       go_loopw [3, 4] (fun l i wr => ∃ k : Nat, k ≤ rl ∧ i = .int .i64 k ∧ l = .int .i64 (lastS X k) ∧ Hid (Grown w wr ∧ Blk w.heap.size #[.int .i64 n, .slice aa al ac, .slice qa ql qc, .int .i64 tick, .int .i64 gate, .int .i64 rmin, .slice ro rl rc] 25 wr ∧ ∀ j, j < k → okRow n rmin (lastS X j) (X j))) (fun _ i _ => rl - (intOf i).toNat)
       case atStart => exact ⟨0, Nat.zero_le _, rfl, rfl, unhide G2⟩
       case round =>
        obtain ⟨k, hk, rfl, rfl, HI⟩ := hrel
        clear G2
        have y0 : wr.cell? ⟨w.heap.size, 0, none⟩ = some (.int .i64 n) := Blk.cell (unhide HI).2.1 0
        have y1 : wr.cell? ⟨w.heap.size, 1, none⟩ = some (.slice aa al ac) := Blk.cell (unhide HI).2.1 1
        have y2 : wr.cell? ⟨w.heap.size, 2, none⟩ = some (.slice qa ql qc) := Blk.cell (unhide HI).2.1 2
        have y3 : wr.cell? ⟨w.heap.size, 3, none⟩ = some (.int .i64 tick) := Blk.cell (unhide HI).2.1 3
        have y4 : wr.cell? ⟨w.heap.size, 4, none⟩ = some (.int .i64 gate) := Blk.cell (unhide HI).2.1 4
        have y5 : wr.cell? ⟨w.heap.size, 5, none⟩ = some (.int .i64 rmin) := Blk.cell (unhide HI).2.1 5
        have y6 : wr.cell? ⟨w.heap.size, 6, none⟩ = some (.slice ro rl rc) := Blk.cell (unhide HI).2.1 6
        by_cases hlt : k < rl
        ·obtain ⟨b, o, rfl, c0, c1, c2⟩ := ((unhide RR).1.grown (unhide HI).1).at hlt
         have i0 : (0 : Int) ≤ (k : Int) := Int.natCast_nonneg _
         have i1 : (k : Int) < (rl : Int) := Int.ofNat_lt.2 hlt
         have SS : Hid (∀ W, Grown w W → Calls Tryz.prog 115 #[.agg #[.int .i64 n, .slice aa al ac, .slice qa ql qc, .int .i64 tick, .int .i64 gate, .int .i64 rmin, .slice (some ⟨b, o, none⟩) rl rc], .agg #[.int .i64 (X k).s, .slice (X k).h.ao (X k).h.len (X k).h.cap, .int .i64 (X k).r], .int .i64 (lastS X k)] W fun e w' => e = .returned (.bool (seeB n rmin (lastS X k) (X k).s (X k).h.len (X k).h.Z (X k).r)) ∧ Grown W w') := fun W g => refSees n (unhide HN) aa qa (some ⟨b, o, none⟩) al ac ql qc rl rc tick gate rmin (X k).s (X k).r (lastS X k) (X k).h.ao (X k).h.len (X k).h.cap (X k).h.Z W (((unhide RR).2 k hlt).grown g)
         have EL : Hid (lastS X (k + 1) = (X k).s) := rfl
         have EO : Hid (okSee n rmin (lastS X k) (X k).s (X k).h.len (X k).h.Z (X k).r ↔ okRow n rmin (lastS X k) (X k)) := Iff.rfl
         by_cases hs : okRow n rmin (lastS X k) (X k)
         ·rw [seeB_yes ((unhide EO).2 hs)] at SS
          have HS : Hid (∀ j, j < k + 1 → okRow n rmin (lastS X j) (X j)) := fun j hj => by
           by_cases e : j = k
           ·subst e
            exact hs
           ·exact (unhide HI).2.2 j (by omega)
          have B1 : Hid (k + 1 ≤ rl) := hlt
          clear hs EO
          generalize (X k).s = s at *
          generalize (X k).h.ao = ha at *
          generalize (X k).h.len = hl at *
          generalize (X k).h.cap = hc at *
          generalize (X k).r = r at *
          generalize lastS X k = last at *
          go_wp2_with fail
          go_region_held3 (fun w' => w'.cell? ⟨w.heap.size, 0, none⟩ = some (.int .i64 n) ∧ w'.cell? ⟨w.heap.size, 1, none⟩ = some (.slice aa al ac) ∧ w'.cell? ⟨w.heap.size, 2, none⟩ = some (.slice qa ql qc) ∧ w'.cell? ⟨w.heap.size, 3, none⟩ = some (.int .i64 tick) ∧ w'.cell? ⟨w.heap.size, 4, none⟩ = some (.int .i64 gate) ∧ w'.cell? ⟨w.heap.size, 5, none⟩ = some (.int .i64 rmin) ∧ w'.cell? ⟨w.heap.size, 6, none⟩ = some (.slice (some ⟨b, o, none⟩) rl rc) ∧ w'.cell? ⟨b, o + k * 3, none⟩ = some (.int .i64 s) ∧ w'.cell? ⟨b, o + k * 3 + 1, none⟩ = some (.slice ha hl hc) ∧ w'.cell? ⟨b, o + k * 3 + 2, none⟩ = some (.int .i64 r))
            (simp [go_sem, *])
            (first
             | (go_at_call 115; refine (unhide SS _ (show Grown w wr.drew from (unhide HI).1)).mono ?_; clear SS; rintro e w5 ⟨rfl, g5⟩; have G5 : Hid (Grown w w5 ∧ Blk w.heap.size #[.int .i64 n, .slice aa al ac, .slice qa ql qc, .int .i64 tick, .int .i64 gate, .int .i64 rmin, .slice (some ⟨b, o, none⟩) rl rc] 25 w5) := ⟨gtrans (show Grown w wr.drew from (unhide HI).1) g5, Blk.grown (show Blk w.heap.size #[.int .i64 n, .slice aa al ac, .slice qa ql qc, .int .i64 tick, .int .i64 gate, .int .i64 rmin, .slice (some ⟨b, o, none⟩) rl rc] 25 wr.drew from (unhide HI).2.1) g5⟩; have kk : Grown wr w5 := g5; have v0 : w5.cell? ⟨w.heap.size, 0, none⟩ = some (.int .i64 n) := Blk.cell (unhide G5).2 0; have v1 : w5.cell? ⟨w.heap.size, 1, none⟩ = some (.slice aa al ac) := Blk.cell (unhide G5).2 1; have v2 : w5.cell? ⟨w.heap.size, 2, none⟩ = some (.slice qa ql qc) := Blk.cell (unhide G5).2 2; have v3 : w5.cell? ⟨w.heap.size, 3, none⟩ = some (.int .i64 tick) := Blk.cell (unhide G5).2 3; have v4 : w5.cell? ⟨w.heap.size, 4, none⟩ = some (.int .i64 gate) := Blk.cell (unhide G5).2 4; have v5 : w5.cell? ⟨w.heap.size, 5, none⟩ = some (.int .i64 rmin) := Blk.cell (unhide G5).2 5; have v6 : w5.cell? ⟨w.heap.size, 6, none⟩ = some (.slice (some ⟨b, o, none⟩) rl rc) := Blk.cell (unhide G5).2 6; have t0 := gat kk c0; have t1 := gat kk c1; have t2 := gat kk c2; clear g5 kk))
          have R5 : Hid (Grown w w5 ∧ Blk w.heap.size #[.int .i64 n, .slice aa al ac, .slice qa ql qc, .int .i64 tick, .int .i64 gate, .int .i64 rmin, .slice (some ⟨b, o, none⟩) rl rc] 25 w5 ∧ ∀ j, j < k + 1 → okRow n rmin (lastS X j) (X j)) := ⟨(unhide G5).1, (unhide G5).2, unhide HS⟩
          clear HI G5 HS
          go_wp2
          go_roundw
          case rel => exact ⟨k + 1, unhide B1, by go_num, by rw [unhide EL], R5⟩
          case measure => have := unhide B1; simp [intOf]; omega
         ·rw [seeB_no (fun h => hs ((unhide EO).1 h))] at SS
          have GE : Hid (chkC (n : Int) al ql rl A Q tick gate rmin X = 2) := chkC_no (fun h => hs (h.2.2.2.2.2.2 k hlt))
          clear hs EO EL
          generalize (X k).s = s at *
          generalize (X k).h.ao = ha at *
          generalize (X k).h.len = hl at *
          generalize (X k).h.cap = hc at *
          generalize (X k).r = r at *
          generalize lastS X k = last at *
          go_wp2_with fail
          go_region_held3 (fun w' => w'.cell? ⟨w.heap.size, 0, none⟩ = some (.int .i64 n) ∧ w'.cell? ⟨w.heap.size, 1, none⟩ = some (.slice aa al ac) ∧ w'.cell? ⟨w.heap.size, 2, none⟩ = some (.slice qa ql qc) ∧ w'.cell? ⟨w.heap.size, 3, none⟩ = some (.int .i64 tick) ∧ w'.cell? ⟨w.heap.size, 4, none⟩ = some (.int .i64 gate) ∧ w'.cell? ⟨w.heap.size, 5, none⟩ = some (.int .i64 rmin) ∧ w'.cell? ⟨w.heap.size, 6, none⟩ = some (.slice (some ⟨b, o, none⟩) rl rc) ∧ w'.cell? ⟨b, o + k * 3, none⟩ = some (.int .i64 s) ∧ w'.cell? ⟨b, o + k * 3 + 1, none⟩ = some (.slice ha hl hc) ∧ w'.cell? ⟨b, o + k * 3 + 2, none⟩ = some (.int .i64 r))
            (simp [go_sem, *])
            (first
             | (go_at_call 115; refine (unhide SS _ (show Grown w wr.drew from (unhide HI).1)).mono ?_; clear SS; rintro e w5 ⟨rfl, g5⟩; have G5 : Hid (Grown w w5 ∧ Blk w.heap.size #[.int .i64 n, .slice aa al ac, .slice qa ql qc, .int .i64 tick, .int .i64 gate, .int .i64 rmin, .slice (some ⟨b, o, none⟩) rl rc] 25 w5) := ⟨gtrans (show Grown w wr.drew from (unhide HI).1) g5, Blk.grown (show Blk w.heap.size #[.int .i64 n, .slice aa al ac, .slice qa ql qc, .int .i64 tick, .int .i64 gate, .int .i64 rmin, .slice (some ⟨b, o, none⟩) rl rc] 25 wr.drew from (unhide HI).2.1) g5⟩; have kk : Grown wr w5 := g5; have v0 : w5.cell? ⟨w.heap.size, 0, none⟩ = some (.int .i64 n) := Blk.cell (unhide G5).2 0; have v1 : w5.cell? ⟨w.heap.size, 1, none⟩ = some (.slice aa al ac) := Blk.cell (unhide G5).2 1; have v2 : w5.cell? ⟨w.heap.size, 2, none⟩ = some (.slice qa ql qc) := Blk.cell (unhide G5).2 2; have v3 : w5.cell? ⟨w.heap.size, 3, none⟩ = some (.int .i64 tick) := Blk.cell (unhide G5).2 3; have v4 : w5.cell? ⟨w.heap.size, 4, none⟩ = some (.int .i64 gate) := Blk.cell (unhide G5).2 4; have v5 : w5.cell? ⟨w.heap.size, 5, none⟩ = some (.int .i64 rmin) := Blk.cell (unhide G5).2 5; have v6 : w5.cell? ⟨w.heap.size, 6, none⟩ = some (.slice (some ⟨b, o, none⟩) rl rc) := Blk.cell (unhide G5).2 6; have t0 := gat kk c0; have t1 := gat kk c1; have t2 := gat kk c2; clear g5 kk))
          clear HI
          go_wp2
          go_ret
          exact ⟨by rw [unhide GE]; rfl, (unhide G5).1⟩
        ·obtain rfl : k = rl := by omega
         have GE : Hid (chkC (n : Int) al ql k A Q tick gate rmin X = 0) := chkC_yes ⟨⟨by have := (unhide HN).1; omega, by have := (unhide HN).2; omega⟩, unhide MO, (unhide OKK).1, (unhide OKK).2.1, (unhide OKK).2.2.1, (unhide OKK).2.2.2, (unhide HI).2.2⟩
         go_wp2
         go_ret
         exact ⟨by rw [unhide GE]; rfl, (unhide HI).1⟩
 ·rw [movB_no hm] at MV
  have HM : Hid (¬ okMoves (n : Int).toNat al ql A Q) := by show ¬ okMoves (n : Int).toNat al ql A Q; rw [unhide EN]; exact hm
  clear hm EN
  have GE : Hid (chkC (n : Int) al ql rl A Q tick gate rmin X = 2) := chkC_no (fun h => unhide HM h.2.1)
  clear RR
  go_enter Tryz.func75, Tryz.ntmps75
  go_wp2_with fail
  generalize (w.alloc (.cells #[.int .i64 n, .slice aa al ac, .slice qa ql qc, .int .i64 tick, .int .i64 gate, .int .i64 rmin, .slice ro rl rc] 25)) = w1 at *
  refine (unhide MV _ (unhide G1).1).mono ?_
  rintro e w2 ⟨rfl, g2⟩
  have G2 := hide (And.intro (gtrans (unhide G1).1 g2) (Blk.grown (unhide G1).2 g2))
  clear g2 G1 MV y0 y1 y2 y3 y4 y5 y6
  have z0 : w2.cell? ⟨w.heap.size, 0, none⟩ = some (.int .i64 n) := Blk.cell (unhide G2).2 0
  have z1 : w2.cell? ⟨w.heap.size, 1, none⟩ = some (.slice aa al ac) := Blk.cell (unhide G2).2 1
  have z2 : w2.cell? ⟨w.heap.size, 2, none⟩ = some (.slice qa ql qc) := Blk.cell (unhide G2).2 2
  have z3 : w2.cell? ⟨w.heap.size, 3, none⟩ = some (.int .i64 tick) := Blk.cell (unhide G2).2 3
  have z4 : w2.cell? ⟨w.heap.size, 4, none⟩ = some (.int .i64 gate) := Blk.cell (unhide G2).2 4
  have z5 : w2.cell? ⟨w.heap.size, 5, none⟩ = some (.int .i64 rmin) := Blk.cell (unhide G2).2 5
  have z6 : w2.cell? ⟨w.heap.size, 6, none⟩ = some (.slice ro rl rc) := Blk.cell (unhide G2).2 6
  go_wp2
  go_ret
  exact ⟨by rw [unhide GE]; rfl, (unhide G2).1⟩
theorem refCheck (m : DV) (w : World) (h : m.rows w) : Calls Tryz.prog 75 #[.agg m.cells] w fun e w' => e = .returned (.int .i64 (chkD m)) ∧ Grown w w' := by
 rw [chkD_C]
 by_cases hN : 1 ≤ m.N ∧ m.N ≤ 6
 ·obtain ⟨n, hn⟩ : ∃ n : Nat, m.N = n := ⟨m.N.toNat, by omega⟩
  have := refCheck_n n (by omega) m.A.ao m.Q.ao m.ro m.A.len m.A.cap m.Q.len m.Q.cap m.rl m.rc m.tick m.gate m.rmin m.A.Z m.Q.Z m.X w h.1 h.2.1 h.2.2.1 h.2.2.2
  rw [← hn] at this
  exact this
 ·exact refCheck_N m.N m.A.ao m.Q.ao m.ro m.A.len m.A.cap m.Q.len m.Q.cap m.rl m.rc m.tick m.gate m.rmin m.A.Z m.Q.Z m.X w (by omega)
end Go.Proofs.YtjobgjcfkomhpaaGreat
namespace Go.Proofs.YtjobgjcfkomhpaaGreat
open Go.RowKit Go.Shelf Go.Proofs.Wd
set_option maxRecDepth 10000
theorem off_at {U len : Nat} {b o : Nat} (h : Off U len (some ⟨b, o, none⟩)) (hl : 1 ≤ len) : b ≠ U := h (by omega) _ rfl
theorem okM.nat {R C : Int} {len : Nat} (h : okM R C len) : ∃ r c : Nat, R = r ∧ C = c ∧ (1 ≤ r ∧ r ≤ 12) ∧ (1 ≤ c ∧ c ≤ 12) ∧ len = r * c ∧ 1 ≤ len ∧ len ≤ 144 := by
 obtain ⟨h1, h2, h3⟩ := h
 refine ⟨R.toNat, C.toNat, by omega, by omega, by omega, by omega, ?_⟩
 have e : len = R.toNat * C.toNat := by
  have : ((R.toNat * C.toNat : Nat) : Int) = R * C := by rw [Int.natCast_mul, Int.toNat_of_nonneg (by omega), Int.toNat_of_nonneg (by omega)]
  omega
 exact ⟨e, by have := mul12n R.toNat C.toNat (by omega) (by omega); omega, by have := mul12n R.toNat C.toNat (by omega) (by omega); omega⟩
section
variable {w : World} {E : List Nat} {bx : List (Nat × Array Value)} {rows : List (Option Addr × Nat × (Nat → Int))} {wx w' : World}
end
end Go.Proofs.YtjobgjcfkomhpaaGreat
namespace Go.Proofs.Wd
def dvZ (Y : Nat → Int) (m : Nat) : Nat → Int := fun j => divN (Y j) (whoN (m : Int))
def dvG (Y : Nat → Int) (m : Nat) : Nat → Bool := fun j => whoC (m : Int) || divC (Y j) (whoN (m : Int))
def oneF : Nat → Int := fun _ => 4294967296
def termZ (A : Nat → Int) (n : Nat) : Nat → Nat → Int
 | 0 => diagZ oneF n
 | m + 1 => dvZ (mulZ (termZ A n m) A n n) (m + 1)
def termC (A : Nat → Int) (n : Nat) : Nat → Bool
 | 0 => false
 | m + 1 => termC A n m || orC (mulG (termZ A n m) A n n) (n * n) || orC (dvG (mulZ (termZ A n m) A n n) (m + 1)) (n * n)
theorem divN_I64 (a b : Int) : I64 (divN a b) := fitI_I64 _
theorem whoN_I64 (a : Int) : I64 (whoN a) := fitI_I64 _
theorem termZ_I64 (A : Nat → Int) (n : Nat) : ∀ m p, p < n * n → I64 (termZ A n m p)
 | 0, p, hp => diagZ_I64 _ n (fun _ _ => by show I64 4294967296; unfold I64; omega) p hp
 | m + 1, p, _ => divN_I64 _ _
def hoZ (V M : Nat → Int) (t : Int) : Nat → Int := fun p => s2N (m2N (V p) t) (M p)
def hoC (V M : Nat → Int) (t : Int) (nn : Nat) : Bool := orC (fun p => m2C (V p) t) nn || orC (fun p => s2C (m2N (V p) t) (M p)) nn
def horZ (X : Nat → Nat → Int) (n : Nat) (t : Int) : Nat → Nat → Int
 | 0 => X n
 | k + 1 => hoZ (horZ X n t k) (X (n - (k + 1))) t
def horC (X : Nat → Nat → Int) (n : Nat) (t : Int) (nn : Nat) : Nat → Bool
 | 0 => false
 | k + 1 => horC X n t nn k || hoC (horZ X n t k) (X (n - (k + 1))) t nn
theorem horZ_I64 (X : Nat → Nat → Int) (n : Nat) (t : Int) (nn : Nat) (h : ∀ p, p < nn → I64 (X n p)) : ∀ k p, p < nn → I64 (horZ X n t k p)
 | 0, p, hp => h p hp
 | k + 1, p, _ => s2N_I64 _ _
theorem hor_congr (X Y : Nat → Nat → Int) (n : Nat) (t : Int) (nn : Nat) (h : ∀ i, i ≤ n → ∀ p, p < nn → X i p = Y i p) : ∀ k, (∀ p, p < nn → horZ X n t k p = horZ Y n t k p) ∧ horC X n t nn k = horC Y n t nn k
 | 0 => ⟨h n (Nat.le_refl _), rfl⟩
 | k + 1 => by
  obtain ⟨h1, h2⟩ := hor_congr X Y n t nn h k
  refine ⟨fun p hp => ?_, ?_⟩
  ·show s2N (m2N (horZ X n t k p) t) (X (n - (k + 1)) p) = s2N (m2N (horZ Y n t k p) t) (Y (n - (k + 1)) p)
   rw [h1 p hp, h (n - (k + 1)) (by omega) p hp]
  ·show (horC X n t nn k || (orC _ nn || orC _ nn)) = (horC Y n t nn k || (orC _ nn || orC _ nn))
   rw [h2, orC_congr (fun p => m2C (horZ X n t k p) t) (fun p => m2C (horZ Y n t k p) t) nn (fun p hp => by rw [h1 p hp]), orC_congr (fun p => s2C (m2N (horZ X n t k p) t) (X (n - (k + 1)) p)) (fun p => s2C (m2N (horZ Y n t k p) t) (Y (n - (k + 1)) p)) nn (fun p hp => by rw [h1 p hp, h (n - (k + 1)) (by omega) p hp])]
def upRow (A : Nat → Int) (c i : Nat) : Nat → Bool
 | 0 => true
 | k + 1 => upRow A c i k && A (i * c + k) == 0
def upTo (A : Nat → Int) (c : Nat) : Nat → Bool
 | 0 => true
 | i + 1 => upTo A c i && upRow A c i (i + 1)
theorem upRow_true (A : Nat → Int) (c i : Nat) : ∀ k, upRow A c i k = true ↔ ∀ j, j < k → A (i * c + j) = 0
 | 0 => by simp [upRow]
 | k + 1 => by
  show (upRow A c i k && A (i * c + k) == 0) = true ↔ _
  rw [Bool.and_eq_true, upRow_true A c i k, beq_iff_eq]
  refine ⟨fun h j hj => ?_, fun h => ⟨fun j hj => h j (by omega), h k (by omega)⟩⟩
  by_cases e : j = k
  ·subst e; exact h.2
  ·exact h.1 j (by omega)
theorem upTo_true (A : Nat → Int) (c : Nat) : ∀ n, upTo A c n = true ↔ ∀ i, i < n → ∀ j, j ≤ i → A (i * c + j) = 0
 | 0 => by simp [upTo]
 | n + 1 => by
  show (upTo A c n && upRow A c n (n + 1)) = true ↔ _
  rw [Bool.and_eq_true, upTo_true A c n, upRow_true A c n]
  refine ⟨fun h i hi j hj => ?_, fun h => ⟨fun i hi => h i (by omega), fun j hj => h n (by omega) j (by omega)⟩⟩
  by_cases e : i = n
  ·subst e; exact h.2 j (by omega)
  ·exact h.1 i (by omega) j hj
end Go.Proofs.Wd
namespace Go.Proofs.YtjobgjcfkomhpaaGreat
open Go.RowKit Go.Shelf Go.Proofs.Wd
set_option maxRecDepth 10000
def DepL (D : List Nat) (p : World → Prop) : Prop := ∀ w w' : World, (∀ k ∈ D, w'.heap[k]? = w.heap[k]?) → p w → p w'
def MkL (D : List Nat) (w w' : World) : Prop := w'.os = w.os ∧ w'.output = w.output ∧ (∀ k, k < w.heap.size → k ∉ D → w'.heap[k]? = w.heap[k]?) ∧ w.heap.size ≤ w'.heap.size
theorem MkL.one {U : Nat} {w w' : World} (m : Mk U w w') : MkL [U] w w' := ⟨m.1, m.2.1, fun k hk h => m.2.2.1 k hk (fun e => h (by rw [e]; simp)), m.2.2.2⟩
theorem MkL.kp {w w' : World} (m : Kp w w') (D : List Nat) : MkL D w w' := ⟨m.1, m.2.1, fun k hk _ => m.2.2.1 k hk, m.2.2.2⟩
abbrev Ob := List Nat × (World → Prop)
def blksOf (es : List Ob) : List Nat := es.flatMap fun c => c.1
def ST (w : World) (es fs : List Ob) (wx : World) : Prop :=
 Kp w wx ∧ (∀ c ∈ es, c.2 wx ∧ DepL c.1 c.2) ∧ (blksOf es).Nodup ∧ (∀ k ∈ blksOf es, w.heap.size ≤ k ∧ k < wx.heap.size) ∧ (∀ f ∈ fs, f.2 wx ∧ DepL f.1 f.2 ∧ ∀ k ∈ f.1, k < wx.heap.size ∧ k ∉ blksOf es)
section
variable {w wx w' : World} {es pre post fs : List Ob} {D D' : List Nat} {p p' : World → Prop}
theorem blks_mid (pre post : List Ob) (D : List Nat) (p : World → Prop) : blksOf (pre ++ (D, p) :: post) = blksOf pre ++ (D ++ blksOf post) := by
 unfold blksOf
 rw [List.flatMap_append, List.flatMap_cons]
theorem mem_blks {es : List Ob} {c : Ob} (hc : c ∈ es) {k : Nat} (hk : k ∈ c.1) : k ∈ blksOf es := List.mem_flatMap.2 ⟨c, hc, hk⟩
theorem ST.nil (w : World) : ST w [] [] w := ⟨Kp.refl _, fun _ h => absurd h List.not_mem_nil, List.nodup_nil, fun _ h => absurd h List.not_mem_nil, fun _ h => absurd h List.not_mem_nil⟩
theorem ST.keep (h : ST w es fs wx) : Kp w wx := h.1
theorem ST.kp (h : ST w es fs wx) (k : Kp wx w') : ST w es fs w' :=
 ⟨h.1.trans k, fun c hc => ⟨(h.2.1 c hc).2 wx w' (fun i hi => k.2.2.1 i (h.2.2.2.1 i (mem_blks hc hi)).2) (h.2.1 c hc).1, (h.2.1 c hc).2⟩, h.2.2.1, fun i hi => ⟨(h.2.2.2.1 i hi).1, Nat.lt_of_lt_of_le (h.2.2.2.1 i hi).2 k.2.2.2⟩,
  fun f hf => ⟨(h.2.2.2.2 f hf).2.1 wx w' (fun i hi => k.2.2.1 i ((h.2.2.2.2 f hf).2.2 i hi).1) (h.2.2.2.2 f hf).1, (h.2.2.2.2 f hf).2.1, fun i hi => ⟨Nat.lt_of_lt_of_le ((h.2.2.2.2 f hf).2.2 i hi).1 k.2.2.2, ((h.2.2.2.2 f hf).2.2 i hi).2⟩⟩⟩
theorem ST.mk (pre : List Ob) (h : ST w (pre ++ (D, p) :: post) fs wx) (m : MkL D wx w') (hp : p' w') (hd : DepL D' p') (hn : D'.Nodup) (hD : ∀ k ∈ D', k ∈ D ∨ (wx.heap.size ≤ k ∧ k < w'.heap.size)) : ST w (pre ++ (D', p') :: post) fs w' := by
 obtain ⟨h1, h2, h3, h4, h5⟩ := h
 rw [blks_mid] at h3 h4 h5
 obtain ⟨n1, n2, n3⟩ := List.nodup_append.1 h3
 obtain ⟨n4, n5, n6⟩ := List.nodup_append.1 n2
 have out : ∀ c : Ob, c ∈ pre ∨ c ∈ post → ∀ i ∈ c.1, i ∉ D := fun c hc i hi hd => by
  rcases hc with hc | hc
  ·exact n3 i (mem_blks hc hi) i (List.mem_append_left _ hd) rfl
  ·exact n6 i hd i (mem_blks hc hi) rfl
 have lt : ∀ c : Ob, c ∈ pre ∨ c ∈ post → ∀ i ∈ c.1, i < wx.heap.size := fun c hc i hi => by
  rcases hc with hc | hc
  ·exact (h4 i (List.mem_append_left _ (mem_blks hc hi))).2
  ·exact (h4 i (List.mem_append_right _ (List.mem_append_right _ (mem_blks hc hi)))).2
 have old : ∀ c : Ob, c ∈ pre ∨ c ∈ post → c.2 w' ∧ DepL c.1 c.2 := fun c hc => by
  have hm : c ∈ pre ++ (D, p) :: post := by
   rcases hc with hc | hc
   ·exact List.mem_append_left _ hc
   ·exact List.mem_append_right _ (List.mem_cons_of_mem _ hc)
  exact ⟨(h2 c hm).2 wx w' (fun i hi => m.2.2.1 i (lt c hc i hi) (out c hc i hi)) (h2 c hm).1, (h2 c hm).2⟩
 refine ⟨⟨m.1.trans h1.1, m.2.1.trans h1.2.1, fun i hi => (m.2.2.1 i (Nat.lt_of_lt_of_le hi h1.2.2.2) (fun hd => ?_)).trans (h1.2.2.1 i hi), Nat.le_trans h1.2.2.2 m.2.2.2⟩, fun c hc => ?_, ?_, fun k hk => ?_, fun f hf => ⟨(h5 f hf).2.1 wx w' (fun i hi => m.2.2.1 i ((h5 f hf).2.2 i hi).1 (fun hd => ((h5 f hf).2.2 i hi).2 (List.mem_append_right _ (List.mem_append_left _ hd)))) (h5 f hf).1, (h5 f hf).2.1, fun i hi => ⟨Nat.lt_of_lt_of_le ((h5 f hf).2.2 i hi).1 m.2.2.2, fun hk => ?_⟩⟩⟩
 ·have := (h4 i (List.mem_append_right _ (List.mem_append_left _ hd))).1
  omega
 ·rcases List.mem_append.1 hc with hc | hc
  ·exact old c (Or.inl hc)
  ·rcases List.mem_cons.1 hc with rfl | hc
   ·exact ⟨hp, hd⟩
   ·exact old c (Or.inr hc)
 ·rw [blks_mid]
  refine List.nodup_append.2 ⟨n1, List.nodup_append.2 ⟨hn, n5, fun a ha b hb e => ?_⟩, fun a ha b hb e => ?_⟩
  ·subst e
   rcases hD a ha with hx | hx
   ·exact n6 a hx a hb rfl
   ·have := (h4 a (List.mem_append_right _ (List.mem_append_right _ hb))).2; omega
  ·subst e
   rcases List.mem_append.1 hb with hb | hb
   ·rcases hD a hb with hx | hx
    ·exact n3 a ha a (List.mem_append_left _ hx) rfl
    ·have := (h4 a (List.mem_append_left _ ha)).2; omega
   ·exact n3 a ha a (List.mem_append_right _ hb) rfl
 ·rw [blks_mid] at hk
  rcases List.mem_append.1 hk with hk | hk
  ·have := h4 k (List.mem_append_left _ hk); exact ⟨this.1, Nat.lt_of_lt_of_le this.2 m.2.2.2⟩
  ·rcases List.mem_append.1 hk with hk | hk
   ·rcases hD k hk with hx | hx
    ·have := h4 k (List.mem_append_right _ (List.mem_append_left _ hx)); exact ⟨this.1, Nat.lt_of_lt_of_le this.2 m.2.2.2⟩
    ·exact ⟨Nat.le_trans h1.2.2.2 hx.1, hx.2⟩
   ·have := h4 k (List.mem_append_right _ (List.mem_append_right _ hk)); exact ⟨this.1, Nat.lt_of_lt_of_le this.2 m.2.2.2⟩
 ·rw [blks_mid] at hk
  have hlt := ((h5 f hf).2.2 i hi).1
  have hno := ((h5 f hf).2.2 i hi).2
  rcases List.mem_append.1 hk with hk | hk
  ·exact hno (List.mem_append_left _ hk)
  ·rcases List.mem_append.1 hk with hk | hk
   ·rcases hD i hk with hx | hx
    ·exact hno (List.mem_append_right _ (List.mem_append_left _ hx))
    ·omega
   ·exact hno (List.mem_append_right _ (List.mem_append_right _ hk))
theorem ST.push (h : ST w es fs wx) (k : Kp wx w') (hp : p w') (hd : DepL D p) (hn : D.Nodup) (hD : ∀ k ∈ D, wx.heap.size ≤ k ∧ k < w'.heap.size) : ST w ((D, p) :: es) fs w' := by
 have h' : ST w ([] ++ (([] : List Nat), fun _ => True) :: es) fs wx := ⟨h.1, fun c hc => by
  rcases List.mem_cons.1 hc with rfl | hc
  ·exact ⟨trivial, fun _ _ _ _ => trivial⟩
  ·exact h.2.1 c hc, h.2.2.1, h.2.2.2.1, h.2.2.2.2⟩
 exact ST.mk [] h' (MkL.kp k []) hp hd hn (fun k hk => Or.inr (hD k hk))
theorem ST.fact (h : ST w es fs wx) (hp : p wx) (hd : DepL D p) (hD : ∀ k ∈ D, k < wx.heap.size ∧ k ∉ blksOf es) : ST w es ((D, p) :: fs) wx :=
 ⟨h.1, h.2.1, h.2.2.1, h.2.2.2.1, fun f hf => by
  rcases List.mem_cons.1 hf with rfl | hf
  ·exact ⟨hp, hd, hD⟩
  ·exact h.2.2.2.2 f hf⟩
theorem ST.tell (h : ST w es fs wx) (k : Kp wx w') (hp : p w') (hd : DepL D p) (hD : ∀ k ∈ D, wx.heap.size ≤ k ∧ k < w'.heap.size) : ST w es ((D, p) :: fs) w' :=
 (h.kp k).fact hp hd (fun i hi => ⟨(hD i hi).2, fun hk => by have := (h.2.2.2.1 i hk).2; have := (hD i hi).1; omega⟩)
theorem ST.get (h : ST w es fs wx) {f : Ob} (hf : f ∈ fs) : f.2 wx := (h.2.2.2.2 f hf).1
theorem ST.ob (h : ST w es fs wx) {c : Ob} (hc : c ∈ es) : c.2 wx := (h.2.1 c hc).1
theorem ST.apart (h : ST w es fs wx) {f c : Ob} (hf : f ∈ fs) (hc : c ∈ es) {k : Nat} (hk : k ∈ f.1) : k ∉ c.1 := fun hx => ((h.2.2.2.2 f hf).2.2 k hk).2 (mem_blks hc hx)
theorem ST.flt (h : ST w es fs wx) {f : Ob} (hf : f ∈ fs) {k : Nat} (hk : k ∈ f.1) : k < wx.heap.size := ((h.2.2.2.2 f hf).2.2 k hk).1
end
def fBlk (b : Nat) (cs : Array Value) (T : TypeId) : Ob := ([b], Blk b cs T)
theorem blk_depL (b : Nat) (cs : Array Value) (T : TypeId) : DepL [b] (Blk b cs T) := fun w w' h k => (h b (by simp)).trans k
def rowD (ao : Option Addr) (len : Nat) : List Nat := if len = 0 then [] else match ao with | some a => [a.block] | none => []
def fRow (ao : Option Addr) (len : Nat) (Z : Nat → Int) : Ob := (rowD ao len, fun w => Row w ao len Z)
theorem row_depL (ao : Option Addr) (len : Nat) (Z : Nat → Int) : DepL (rowD ao len) (fun w => Row w ao len Z) := fun w w' h r => by
 rcases r with r | ⟨b, o, rfl, hc⟩
 ·exact Or.inl r
 ·by_cases h0 : len = 0
  ·exact Or.inl h0
  ·refine Or.inr ⟨b, o, rfl, fun i hi => (World.cell?_of_block (h b ?_)).trans (hc i hi)⟩
   unfold rowD
   rw [if_neg h0]
   simp
theorem off_of {U len : Nat} {ao : Option Addr} (h : U ∉ rowD ao len) : Off U len ao := fun hl a ha e => h (by unfold rowD; rw [if_neg (by omega), ha]; simp [e])
theorem rowD_off {U len : Nat} {ao : Option Addr} (h : Off U len ao) : U ∉ rowD ao len := fun hm => by
 unfold rowD at hm
 split at hm
 ·exact absurd hm List.not_mem_nil
 ·rename_i h0
  cases ao with
  | none => exact absurd hm List.not_mem_nil
  | some a => simp at hm; exact h (by omega) a rfl hm.symm
theorem rowD_lt {w : World} {ao : Option Addr} {len : Nat} {Z : Nat → Int} (h : Row w ao len Z) : ∀ k ∈ rowD ao len, k < w.heap.size := fun k hk => by
 rcases h with h | ⟨b, o, rfl, hc⟩
 ·unfold rowD at hk; rw [if_pos h] at hk; exact absurd hk List.not_mem_nil
 ·unfold rowD at hk
  split at hk
  ·exact absurd hk List.not_mem_nil
  ·simp at hk; subst hk; exact heap_gt (hc 0 (by omega))
section
variable {w wx w' : World} {es fs : List Ob}
theorem ST.row (h : ST w es fs wx) {ao : Option Addr} {len : Nat} {Z : Nat → Int} (hf : fRow ao len Z ∈ fs) : Row wx ao len Z := h.get hf
theorem ST.cells (h : ST w es fs wx) {b : Nat} {x y z : Value} {T : TypeId} (hf : fBlk b #[x, y, z] T ∈ fs) : wx.cell? ⟨b, 0, none⟩ = some x ∧ wx.cell? ⟨b, 1, none⟩ = some y ∧ wx.cell? ⟨b, 2, none⟩ = some z := ⟨Blk.cell (h.get hf) 0, Blk.cell (h.get hf) 1, Blk.cell (h.get hf) 2⟩
theorem ST.box (h : ST w es fs wx) (cs : Array Value) (T : TypeId) : ST w es (fBlk wx.heap.size cs T :: fs) (wx.alloc (.cells cs T)) :=
 h.tell (Kp.of ((Grown.refl wx).alloc cs T)) (Blk.new wx cs T) (blk_depL _ _ _) (fun k hk => by simp at hk; subst hk; simp)
end
structure MV where
 R : Int
 C : Int
 ao : Option Addr
 len : Nat
 cap : Nat
 Z : Nat → Int
def MV.cells (x : MV) : Array Value := #[.int .i64 x.R, .int .i64 x.C, .slice x.ao x.len x.cap]
end Go.Proofs.YtjobgjcfkomhpaaGreat
namespace Go.Proofs.YtjobgjcfkomhpaaGreat
open Go.RowKit Go.Proofs.Wd
set_option maxRecDepth 10000
def intL (n : Nat) (Z : Nat → Int) : List Value := (List.range n).map fun i => Value.int .i64 (Z i)
theorem intL_succ (n : Nat) (Z : Nat → Int) : intL n Z ++ [.int .i64 (Z n)] = intL (n + 1) Z := by
 unfold intL; rw [List.range_succ, List.map_append]; rfl
theorem step_append_one {ops : Array Oper} {o : Oper} {a : Act} {w : World} {K : Act → World → Prop} {Q : Exit → Act → World → Prop} {E : Prop} (hgd : o.guard = none) (s x : Operand) (ho : o.op = .call { callee := .builtin .append, args := #[s, x], argTypes := #[22, 22] })
  (base n : Nat) (v : Value) (Z : Nat → Int) (z : Int) (hz : Z n = z) (b : Nat) (hs : a.eval s = v) (hx : a.eval x = .slice (some ⟨b, 0, none⟩) 1 1) (hown : w.ownsRow base 3 1 v n (intL n Z)) (hc : w.cell? ⟨b, 0, none⟩ = some (.int .i64 z)) (hn : n ≤ 1000000) (hb : base ≤ w.heap.size)
  (h : ∀ v' w', Hid (w'.ownsRow base 3 1 v' (n + 1) (intL (n + 1) Z) ∧ w.grownBy w' v.ownBlock) → K (a.put o.dst v') w') : if Region.wanted o (yielded ops a.tmps) = true then Oper.wp Tryz.prog o a w K Q else E := by
 subst hz
 have hw : Region.wanted o (yielded ops a.tmps) = true := by simp [Region.wanted, hgd]
 rw [if_pos hw]
 obtain ⟨i0, hi, hz0, hz1, hz2⟩ := info_parts Tryz.infoInt
 obtain ⟨v', w', hrun, r1, r2, _⟩ := run_append_own (P := Tryz.prog) w base 22 o.type 3 i0 (.int .i64 0) 1 8 Tryz.underlying22 hi hz0 hz1 hz2 rfl (by decide) v n (intL n Z) hown ⟨b, 0, none⟩ 1 1 [.int .i64 (Z n)] rfl
  (fun j u hj => by
   match j, hj with
   | 0, hj => simp at hj; subst hj; rw [Go.WideShapes.add_plain]; exact hc) (one_cell _) (by unfold maxLen; omega) (by omega) hb
 rw [intL_succ] at r1
 unfold Oper.wp
 simp [execOp, ho, resolve, invoke, builtin, hs, hx, hrun, Result.andThen]
 exact h v' w' ⟨r1, r2⟩
theorem run_append_at (w : World) (ty : TypeId) (base n : Nat) (v : Value) (xs : List Value) (hown : w.ownsRow base 3 1 v n xs) (a : Addr) (m c : Nat) (news : List Value) (hl : news.length = m * 1) (hnews : ∀ j u, news[j]? = some u → w.cell? (a.add j) = some u) (h1 : ∀ u ∈ news, u.oneCell' = true)
  (hm : 1 ≤ m ∧ m ≤ 1000000) (hn : n ≤ 1000000) (hb : base ≤ w.heap.size) :
  ∃ v' w', (Builtin.append_ #[22, 22] ty #[v, .slice (some a) m c]).run Tryz.prog w = .ok v' w' ∧ w'.ownsRow base 3 1 v' (n + m) (xs ++ news) ∧ w.grownBy w' v.ownBlock ∧ (v'.ownBlock = v.ownBlock ∨ ∃ g, v'.ownBlock = some g ∧ w.heap.size ≤ g) := by
 obtain ⟨i0, hi, hz0, hz1, hz2⟩ := info_parts Tryz.infoInt
 have h63 : n + m ≤ maxLen := by unfold maxLen; omega
 have hby : (n + m) * 8 ≤ 140737488355328 := by omega
 obtain ⟨v', w', hr, r1, r2, _⟩ := run_append_own (P := Tryz.prog) w base 22 ty 3 i0 (.int .i64 0) 1 8 Tryz.underlying22 hi hz0 hz1 hz2 rfl (by decide) v n xs hown a m c news hl hnews h1 h63 hby hb
 refine ⟨v', w', hr, r1, r2, ?_⟩
 rcases hown.2 with ⟨rfl, rfl⟩ | ⟨g, cap, cur, rfl, hbg, hg, hnc, hcm, hcs, htake⟩
 ·have hx : xs = [] := List.eq_nil_of_length_eq_zero (by simpa using hown.1)
  subst hx
  obtain ⟨v2, w2, hr2, q1, _, _⟩ := run_append_own (P := Tryz.prog) w w.heap.size 22 ty 3 i0 (.int .i64 0) 1 8 Tryz.underlying22 hi hz0 hz1 hz2 rfl (by decide) (.slice none 0 0) 0 [] (World.ownsRow_nil _ _ _ _) a m c news hl hnews h1 h63 hby (Nat.le_refl _)
  rw [hr] at hr2
  cases hr2
  rcases q1.2 with ⟨_, e⟩ | ⟨g, cap, cur, rfl, hbg, _⟩
  ·omega
  ·exact Or.inr ⟨g, rfl, hbg⟩
 ·by_cases hroom : n + m ≤ cap
  ·have hfit : n * i0.size + news.length ≤ cur.size := by rw [hl, hcs, hz1, ← Nat.add_mul]; exact Nat.mul_le_mul_right _ hroom
   have hr2 := run_append_room (P := Tryz.prog) w 22 ty 3 i0 Tryz.underlying22 hi g n cap cur hg a m c news (by rw [hz1]; exact hl) hnews h1 hroom hfit
   rw [hr] at hr2
   cases hr2
   exact Or.inl rfl
  ·have holds : ∀ j u, xs[j]? = some u → w.cell? ((⟨g, 0, none⟩ : Addr).add j) = some u := hown.cells (g := g) rfl
   have hr2 := run_append_grow (P := Tryz.prog) w 22 ty 3 i0 (.int .i64 0) Tryz.underlying22 hi hz0 ⟨g, 0, none⟩ n cap xs (by rw [hz1]; exact hown.1) holds a m c news (by rw [hz1]; exact hl) hnews (by omega) (by omega) (growslice_fits (by omega) (by rw [hz2]; exact hby))
   rw [hr] at hr2
   cases hr2
   exact Or.inr ⟨_, rfl, Nat.le_refl _⟩
theorem wpList_append_at {ops : Array Oper} {rest : List Oper} {o : Oper} {a : Act} {w : World} {Q : Exit → Act → World → Prop} (hgd : o.guard = none) (s x : Operand) (ho : o.op = .call { callee := .builtin .append, args := #[s, x], argTypes := #[22, 22] })
  (base : Nat) (v : Value) (n : Nat) (xs : List Value) (hs : a.eval s = v) (hown : w.ownsRow base 3 1 v n xs)
  (ad : Addr) (m c : Nat) (news : List Value) (hx : a.eval x = .slice (some ad) m c) (hl : news.length = m * 1) (hnews : ∀ j u, news[j]? = some u → w.cell? (ad.add j) = some u) (h1 : ∀ u ∈ news, u.oneCell' = true)
  (hm : 1 ≤ m ∧ m ≤ 1000000) (hn : n ≤ 1000000) (hb : base ≤ w.heap.size)
  (h : ∀ v' w', w'.ownsRow base 3 1 v' (n + m) (xs ++ news) → w.grownBy w' v.ownBlock → (v'.ownBlock = v.ownBlock ∨ ∃ g, v'.ownBlock = some g ∧ w.heap.size ≤ g) → wpList Tryz.prog ops Q rest (a.put o.dst v') w') : wpList Tryz.prog ops Q (o :: rest) a w := by
 refine wpList_plain hgd fun _ hK => ?_
 obtain ⟨v', w', hr, h2, h3, h4⟩ := run_append_at w o.type base n v xs hown ad m c news hl hnews h1 hm hn hb
 unfold Oper.wp execOp
 simp only [ho, resolve, invoke, builtin, Sem.run_bind, Sem.run_pure, Result.andThen_ok, List.map_toArray, List.map_cons, List.map_nil, hs, hx, hr]
 exact hK _ _ (h v' w' h2 h3 h4)
theorem wp_append_at {o : Oper} {a : Act} {w : World} {K : Act → World → Prop} {Q : Exit → Act → World → Prop} (s x : Operand) (ho : o.op = .call { callee := .builtin .append, args := #[s, x], argTypes := #[22, 22] })
  (base : Nat) (v : Value) (n : Nat) (xs : List Value) (hs : a.eval s = v) (hown : w.ownsRow base 3 1 v n xs)
  (ad : Addr) (m c : Nat) (news : List Value) (hx : a.eval x = .slice (some ad) m c) (hl : news.length = m * 1) (hnews : ∀ j u, news[j]? = some u → w.cell? (ad.add j) = some u) (h1 : ∀ u ∈ news, u.oneCell' = true)
  (hm : 1 ≤ m ∧ m ≤ 1000000) (hn : n ≤ 1000000) (hb : base ≤ w.heap.size)
  (h : ∀ v' w', w'.ownsRow base 3 1 v' (n + m) (xs ++ news) → w.grownBy w' v.ownBlock → (v'.ownBlock = v.ownBlock ∨ ∃ g, v'.ownBlock = some g ∧ w.heap.size ≤ g) → K (a.put o.dst v') w') : Oper.wp Tryz.prog o a w K Q := by
 obtain ⟨v', w', hr, h2, h3, h4⟩ := run_append_at w o.type base n v xs hown ad m c news hl hnews h1 hm hn hb
 unfold Oper.wp execOp
 simp only [ho, resolve, invoke, builtin, Sem.run_bind, Sem.run_pure, Result.andThen_ok, List.map_toArray, List.map_cons, List.map_nil, hs, hx, hr]
 exact h v' w' h2 h3 h4
end Go.Proofs.YtjobgjcfkomhpaaGreat
namespace Go.Proofs.YtjobgjcfkomhpaaGreat
open Go.RowKit Go.Shelf Go.Proofs.Wd
set_option maxRecDepth 10000
def flatR (l : List RV) : List Value := l.flatMap fun x => x.cells.toList
theorem flatR_len : ∀ l : List RV, (flatR l).length = l.length * 3
 | [] => rfl
 | x :: l => by
  have := flatR_len l
  unfold flatR at *
  rw [List.flatMap_cons, List.length_append, this, List.length_cons]
  show 3 + _ = _
  omega
theorem flatR_at : ∀ (l : List RV) (i j : Nat) (x : RV), l[i]? = some x → j < 3 → (flatR l)[i * 3 + j]? = x.cells[j]?
 | [], i, j, x, h, _ => by simp at h
 | y :: l, 0, j, x, h, hj => by
  simp at h
  subst h
  unfold flatR
  rw [List.flatMap_cons, List.getElem?_append_left (by show 0 * 3 + j < 3; omega)]
  simp
 | y :: l, i + 1, j, x, h, hj => by
  have := flatR_at l i j x (by simpa using h) hj
  unfold flatR at *
  rw [List.flatMap_cons, List.getElem?_append_right (by show 3 ≤ _; omega), ← this]
  congr 1
  show (i + 1) * 3 + j - 3 = _
  omega
theorem cells_oneRV (x : RV) : ∀ u ∈ x.cells.toList, u.oneCell' = true := by
 intro u hu
 simp [RV.cells] at hu
 rcases hu with rfl | rfl | rfl <;> rfl
theorem Tryz.infoRow : (Tryz.prog.info? 62).map (fun i => (i.zero, i.size, i.bytes)) = some (some (.agg #[.int .i64 0, .slice none 0 0, .int .i64 0]), 3, 40) := by kernel_rfl
def RLs (w : World) (base : Nat) (v : Value) (l : List RV) : Prop := w.ownsRow base 62 3 v l.length (flatR l)
def z0R : RV := ⟨0, ⟨none, 0, 0, fun _ => 0⟩, 0⟩
def ixR (l : List RV) (i : Nat) : RV := (l[i]?).getD z0R
theorem ixR_at {l : List RV} {i : Nat} {x : RV} (h : l[i]? = some x) : ixR l i = x := by unfold ixR; rw [h]; rfl
theorem RLs.rvs {w : World} {base : Nat} {v : Value} {l : List RV} (h : RLs w base v l) : ∃ ao cap, v = .slice ao l.length cap ∧ RVs w ao l.length (ixR l) ∧ l.length ≤ cap ∧ (∀ U, U < base → Off U l.length ao) := by
 have hc := fun g (e : v.ownBlock = some g) => World.ownsRow.cells h e
 rcases h.2 with ⟨rfl, e⟩ | ⟨g, cap, cur, rfl, hb, hg, hn, r⟩
 ·rw [e]
  exact ⟨none, 0, rfl, Or.inl rfl, Nat.le_refl _, fun U _ h0 => absurd h0 (Nat.lt_irrefl _)⟩
 ·refine ⟨_, cap, rfl, Or.inr ⟨g, 0, rfl, fun i hi j hj => ?_⟩, hn, fun U hU _ a ha => by cases ha; show g ≠ U; omega⟩
  have hx : l[i]? = some l[i] := List.getElem?_eq_getElem hi
  have hf := flatR_at l i j _ hx hj
  have hs : ∃ u, (l[i]).cells[j]? = some u := ⟨_, Array.getElem?_eq_getElem (by show j < 3; exact hj)⟩
  obtain ⟨u, hu⟩ := hs
  have := hc g rfl (i * 3 + j) u (by rw [hf, hu])
  rw [Go.WideShapes.add_plain] at this
  rw [ixR_at hx, hu, ← this, Nat.zero_add]
  show _ = w.cell? ⟨g, 0 + (i * 3 + j), none⟩
  rw [Nat.zero_add]
def FitL (ao : Option Addr) (len cap : Nat) : Prop := len ≤ cap ∧ (ao = none → len = 0 ∧ cap = 0)
theorem owns_fit {w : World} {base n size : Nat} {t : TypeId} {ao : Option Addr} {m cap : Nat} {xs : List Value} (h : w.ownsRow base t size (.slice ao m cap) n xs) (hc : m ≤ cap) : FitL ao m cap := ⟨hc, fun e => by
 rcases h.2 with ⟨e2, _⟩ | ⟨g, cap', cur, e2, _⟩
 ·injection e2 with e3 e4 e5
  exact ⟨e4, e5⟩
 ·injection e2 with e3 e4 e5
  rw [e] at e3
  cases e3⟩
def CopyN (n : Nat) (Z : Nat → Int) (w : World) (e : Ending) (w' : World) : Prop := ∃ ao cap, e = .returned (.slice ao n cap) ∧ FitL ao n cap ∧ Row w' ao n Z ∧ (∀ U, U < w.heap.size → Off U n ao) ∧ Kp w w'
set_option maxHeartbeats 1000000 in
theorem kitCopyN (ao : Option Addr) (n cap : Nat) (Z : Nat → Int) (hn : n ≤ 1000000) (h0 : ao = none → n = 0 ∧ cap = 0) (w : World) (hr : Row w ao n Z) :
  Calls Tryz.prog 32 #[.slice ao n cap] w fun e w' => CopyN n Z w e w' := by
 have HR := hide hr
 clear hr
 obtain ⟨i0, hi, hz0, hz1, hz2⟩ := info_parts Tryz.infoInt
 have OM := hide (World.ownsRow_made (base := w.heap.size) (e := 3) (size := 1) w #[] 0 (Nat.le_refl _) (by unfold maxLen; omega) (by simp))
 cases ao with
 | none =>
  obtain ⟨rfl, rfl⟩ := h0 rfl
  clear h0
  go_enter Tryz.func32, Tryz.ntmps32
  go_wp2_with (at_builtin; refine wpList_append_own_none rfl _ _ 22 rfl w.heap.size 3 i0 1 Tryz.underlying22 hi _ _ _ rfl (unhide OM) rfl ?_)
  go_ret
  exact (show CopyN _ _ _ _ _ from ⟨_, _, rfl, ⟨Nat.zero_le _, fun e => by cases e⟩, Or.inl rfl, fun U hU h => absurd h (Nat.lt_irrefl _), (Kp.refl _).alloc _ _⟩)
 | some a =>
  clear h0
  have NEW : ∀ j u, ((List.range n).map fun i => Value.int .i64 (Z i))[j]? = some u → (w.alloc (.cells #[] 3)).cell? (a.add j) = some u := by
   intro j u hu
   rw [List.getElem?_map] at hu
   by_cases hj : j < n
   ·rw [List.getElem?_range hj] at hu
    simp at hu
    subst hu
    obtain ⟨b, o, e, hc⟩ := (unhide HR).at hj
    cases e
    rw [Go.WideShapes.add_plain]
    exact gat ((Grown.refl _).alloc _ _) hc
   ·rw [List.getElem?_eq_none (by simpa using hj)] at hu
    simp at hu
  have NEWH := hide NEW
  clear NEW
  go_enter Tryz.func32, Tryz.ntmps32
  go_wp2_with (at_builtin; refine wpList_append_own _ rfl _ _ 22 rfl w.heap.size 3 i0 (.int .i64 0) 1 8 Tryz.underlying22 hi hz0 hz1 hz2 rfl (by decide) _ _ _ rfl (unhide OM) a n cap ((List.range n).map fun i => Value.int .i64 (Z i)) rfl (by simp) (unhide NEWH) (cells_one _ _) (by unfold maxLen; omega) (by omega) (by simp) ?_; intro v' w1 hown' hgrow _)
  rw [Nat.zero_add, List.nil_append] at hown'
  have ho2 := hown'
  obtain ⟨ao2, cap2, rfl, hc2, row2, off2⟩ := owns_rowC hown'
  have K1 : Hid (Kp w w1) := Kp.by ((Kp.refl _).alloc _ _) hgrow (fun k e => by have := ((unhide OM).lt k e).1; omega)
  have R1 := hide (And.intro (owns_fit ho2 hc2) (And.intro row2 off2))
  clear hown' hgrow row2 off2 hc2 ho2
  go_wp2
  go_ret
  exact (show CopyN _ _ _ _ _ from ⟨_, _, rfl, (unhide R1).1, (unhide R1).2.1, (unhide R1).2.2, unhide K1⟩)
def LV.good (x : LV) (W : World) : Prop := x.ok W ∧ FitL x.ao x.len x.cap ∧ ∀ i, i < x.len → I64 (x.Z i)
def DV.good (m : DV) (W : World) : Prop := m.A.good W ∧ m.Q.good W ∧ RVs W m.ro m.rl m.X ∧ (∀ i, i < m.rl → (m.X i).h.good W ∧ I64 (m.X i).s ∧ I64 (m.X i).r) ∧ FitL m.ro m.rl m.rc ∧ (I64 m.N ∧ I64 m.tick ∧ I64 m.gate ∧ I64 m.rmin) ∧ m.A.len ≤ 40 ∧ m.Q.len ≤ 12 ∧ m.rl ≤ 30 ∧ ∀ i, i < m.rl → (m.X i).h.len ≤ 12
theorem LV.good.kp {x : LV} {W W' : World} (h : x.good W) (k : Kp W W') : x.good W' := ⟨Row.kp h.1 k, h.2⟩
theorem DV.good.kp {m : DV} {W W' : World} (h : m.good W) (k : Kp W W') : m.good W' := ⟨h.1.kp k, h.2.1.kp k, h.2.2.1.kp k, fun i hi => ⟨(h.2.2.2.1 i hi).1.kp k, (h.2.2.2.1 i hi).2⟩, h.2.2.2.2⟩
theorem DV.good.rows {m : DV} {W : World} (h : m.good W) : m.rows W := ⟨h.1.1, h.2.1.1, h.2.2.1, fun i hi => (h.2.2.2.1 i hi).1.1⟩
end Go.Proofs.YtjobgjcfkomhpaaGreat
namespace Go.Proofs.Wd
def WZ (a : Nat → Int) : Nat → Int := fun p => a p * 4294967296
def spanZ (ticks tick : Int) : Int := m2N (whoN ticks) tick
def spanC (ticks tick : Int) : Bool := whoC ticks || m2C (whoN ticks) tick
def evZ (X : Nat → Int) (n : Nat) : Nat → Int := fun p => s2N (X p) (turnZ X n n p)
def evG (X : Nat → Int) (n : Nat) : Nat → Bool := fun p => s2C (X p) (turnZ X n n p)
def gainZ (A Q : Nat → Int) (n : Nat) : Nat → Nat → Int
 | 0 => diagZ Q n
 | k + 1 => dvZ (evZ (mulZ A (gainZ A Q n k) n n) n) (k + 2)
def gainC (A Q : Nat → Int) (n : Nat) : Nat → Bool
 | 0 => false
 | k + 1 => gainC A Q n k || orC (mulG A (gainZ A Q n k) n n) (n * n) || orC (evG (mulZ A (gainZ A Q n k) n n) n) (n * n) || orC (dvG (evZ (mulZ A (gainZ A Q n k) n n) n) (k + 2)) (n * n)
def noiseZ (A Q : Nat → Int) (n : Nat) (t : Int) : Nat → Int := fun p => m2N (horZ (gainZ A Q n) (2 * n - 2) t (2 * n - 2) p) t
def noiseC (A Q : Nat → Int) (n : Nat) (t : Int) : Bool := gainC A Q n (2 * n - 2) || horC (gainZ A Q n) (2 * n - 2) t (n * n) (2 * n - 2) || orC (fun p => m2C (horZ (gainZ A Q n) (2 * n - 2) t (2 * n - 2) p) t) (n * n)
theorem spanZ_I64 (a b : Int) : I64 (spanZ a b) := m2N_I64 _ _
theorem gainZ_I64 (A Q : Nat → Int) (n : Nat) (hQ : ∀ i, i < n → I64 (Q i)) : ∀ k p, p < n * n → I64 (gainZ A Q n k p)
 | 0, p, hp => diagZ_I64 _ n hQ p hp
 | k + 1, p, _ => divN_I64 _ _
theorem evZ_I64 (X : Nat → Int) (n p : Nat) : I64 (evZ X n p) := s2N_I64 _ _
end Go.Proofs.Wd
namespace Go.Proofs.YtjobgjcfkomhpaaGreat
open Go.RowKit Go.Proofs.Wd
set_option maxRecDepth 10000
def one (b : Bool) : Int := if b = true then 1 else 0
def umag (A : Int) : Int := A % 340282366920938463463374607431768211456
theorem refAddV (A B : Int) (w : World) :
  Calls Tryz.prog 153 #[.agg #[.int .i64 (hiOf A), .int .u64 (loOf A)], .agg #[.int .i64 (hiOf B), .int .u64 (loOf B)]] w fun e w' => e = .returned (.agg #[.int .i64 (hiOf (A + B)), .int .u64 (loOf (A + B))]) ∧ Grown w w' := by
 have q := refAdd (hiOf A) (loOf A) (hiOf B) (loOf B) (hiOf_I64 _) (loOf_U64 _) (hiOf_I64 _) (loOf_U64 _) w
 rw [val_of, val_of, hiOf_add, loOf_add] at q
 exact q
theorem refNegV (A : Int) (w : World) :
  Calls Tryz.prog 152 #[.agg #[.int .i64 (hiOf A), .int .u64 (loOf A)]] w fun e w' => e = .returned (.agg #[.int .i64 (hiOf (-A)), .int .u64 (loOf (-A))]) ∧ Grown w w' := by
 have q := refNeg (hiOf A) (loOf A) (hiOf_I64 _) (loOf_U64 _) w
 rw [val_of, hiOf_neg, loOf_neg] at q
 exact q
theorem bit_lo (A n : Int) (h0 : 0 ≤ n) (h1 : n < 64) : loOf A / 2 ^ n.toNat % 2 = A / 2 ^ n.toNat % 2 := by
 have hm := pow2_mul n.toNat (64 - n).toNat (by omega)
 have hK := pow2_pos n.toNat
 have e2 : (2 : Int) ^ (64 - n).toNat = 2 * 2 ^ (63 - n).toNat := by
  rw [show (64 - n).toNat = 1 + (63 - n).toNat from by omega, Int.pow_add]; rfl
 unfold loOf
 have h := Int.emod_add_mul_ediv A 18446744073709551616
 have e3 : A = A % 18446744073709551616 + 2 ^ n.toNat * (2 * (2 ^ (63 - n).toNat * (A / 18446744073709551616))) := by
  rw [e2] at hm
  have : (18446744073709551616 : Int) * (A / 18446744073709551616) = 2 ^ n.toNat * (2 * (2 ^ (63 - n).toNat * (A / 18446744073709551616))) := by
   rw [← hm]; grind
  omega
 have e4 : A / 2 ^ n.toNat = A % 18446744073709551616 / 2 ^ n.toNat + 2 * (2 ^ (63 - n).toNat * (A / 18446744073709551616)) := by
  have q := Int.add_mul_ediv_left (A % 18446744073709551616) (2 * (2 ^ (63 - n).toNat * (A / 18446744073709551616))) (by omega : (2 : Int) ^ n.toNat ≠ 0)
  rw [← e3] at q
  exact q
 rw [e4]
 omega
theorem bit_hi (A n : Int) (h0 : 64 ≤ n) (h1 : n < 128) : IntKind.u64.wrap (hiOf A) / 2 ^ (n - 64).toNat % 2 = A / 2 ^ n.toNat % 2 := by
 have e1 : IntKind.u64.wrap (hiOf A) = loOf (A / 18446744073709551616) := by rw [IntKind.wrap_u64]; unfold hiOf loOf; omega
 rw [e1, bit_lo _ _ (by omega) (by omega), Int.ediv_ediv_of_nonneg (by decide)]
 rw [show (18446744073709551616 : Int) = 2 ^ 64 from by decide, ← Int.pow_add, show 64 + (n - 64).toNat = n.toNat from by omega]
set_option maxHeartbeats 400000 in
theorem refBit (A n : Int) (h0 : 0 ≤ n) (h1 : n < 128) (w : World) :
  Calls Tryz.prog 151 #[.agg #[.int .i64 (hiOf A), .int .u64 (loOf A)], .int .i64 n] w fun e w' => e = .returned (.bool (decide (A / 2 ^ n.toNat % 2 = 1))) ∧ Grown w w' := by
 by_cases hs : n < 64
 ·have HB := hide (bit_lo A n h0 hs)
  have hl := loOf_U64 A
  unfold U64 at hl
  go_enter Tryz.func151, Tryz.ntmps151
  go_wp2
  go_ret
  exact ⟨congrArg (fun b => Ending.returned (.bool b)) (by rw [Int.tmod_eq_emod_of_nonneg (dv0 _ _ (pow2_pos _) hl.1), unhide HB]; exact Bool.eq_iff_iff.2 (by simp)), (Grown.refl _).alloc _ _⟩
 ·have HB := hide (bit_hi A n (by omega) h1)
  go_enter Tryz.func151, Tryz.ntmps151
  go_wp2
  go_ret
  exact ⟨congrArg (fun b => Ending.returned (.bool b)) (by rw [Int.tmod_eq_emod_of_nonneg (dv0 _ _ (pow2_pos _) (uw0 _)), unhide HB]; exact Bool.eq_iff_iff.2 (by simp)), (Grown.refl _).alloc _ _⟩
set_option maxHeartbeats 400000 in
theorem refTwice (A : Int) (b : Bool) (w : World) :
  Calls Tryz.prog 150 #[.agg #[.int .i64 (hiOf A), .int .u64 (loOf A)], .bool b] w fun e w' => e = .returned (.agg #[.int .i64 (hiOf (2 * A + one b)), .int .u64 (loOf (2 * A + one b))]) ∧ Grown w w' := by
 cases b
 ·go_enter Tryz.func150, Tryz.ntmps150
  go_wp2_with fail
  refine (refAddV _ _ _).mono ?_
  rintro e w1 ⟨rfl, hg1⟩
  obtain ⟨d0, d1⟩ := gat2 hg1 (w.heap.size + 1) (.int .i64 0) (.int .u64 0) (by constructor <;> simp [go_sem])
  have hgw1 : Grown w w1 := gtrans (((Grown.refl _).alloc _ _).alloc _ _) hg1
  have l1 := heap_gt d0; have n1 := Nat.ne_of_gt l1; have o1 := Nat.ne_of_lt l1
  have f1 := fun o => frz hgw1 (w.heap.size + 1) o (by omega)
  clear hg1
  go_wp2
  simp [bodyPost, results, Tryz.results150, go_sem, *]
  exact ⟨⟨by unfold one hiOf; simp; omega, by (try simp only [IntKind.wrap_u64]); unfold one loOf; simp; omega⟩, Grown.alloc (Grown.setCell (Grown.setCell hgw1 (by dsimp only; omega) _) (by dsimp only; omega) _) _ _⟩
 ·go_enter Tryz.func150, Tryz.ntmps150
  go_wp2_with fail
  refine (refAddV _ _ _).mono ?_
  rintro e w1 ⟨rfl, hg1⟩
  obtain ⟨d0, d1⟩ := gat2 hg1 (w.heap.size + 1) (.int .i64 0) (.int .u64 0) (by constructor <;> simp [go_sem])
  have hgw1 : Grown w w1 := gtrans (((Grown.refl _).alloc _ _).alloc _ _) hg1
  have l1 := heap_gt d0; have n1 := Nat.ne_of_gt l1; have o1 := Nat.ne_of_lt l1
  have f1 := fun o => frz hgw1 (w.heap.size + 1) o (by omega)
  clear hg1
  go_wp2
  simp [bodyPost, results, Tryz.results150, go_sem, *]
  exact ⟨⟨by unfold one hiOf; simp; omega, by (try simp only [IntKind.wrap_u64]); unfold one loOf; simp; omega⟩, Grown.alloc (Grown.setCell (Grown.setCell hgw1 (by dsimp only; omega) _) (by dsimp only; omega) _) _ _⟩
set_option maxHeartbeats 400000 in
theorem refBelow (A B : Int) (w : World) :
  Calls Tryz.prog 176 #[.agg #[.int .i64 (hiOf A), .int .u64 (loOf A)], .agg #[.int .i64 (hiOf B), .int .u64 (loOf B)]] w fun e w' => e = .returned (.bool (decide (umag A < umag B))) ∧ Grown w w' := by
 have fA : umag A = IntKind.u64.wrap (hiOf A) * 18446744073709551616 + loOf A := by rw [IntKind.wrap_u64]; unfold umag hiOf loOf; omega
 have fB : umag B = IntKind.u64.wrap (hiOf B) * 18446744073709551616 + loOf B := by rw [IntKind.wrap_u64]; unfold umag hiOf loOf; omega
 have lA := loOf_U64 A; have lB := loOf_U64 B
 have hA := hiOf_I64 A; have hB := hiOf_I64 B
 unfold U64 at lA lB; unfold I64 at hA hB
 rw [fA, fB]
 clear fA fB
 generalize hiOf A = ah at *
 generalize hiOf B = bh at *
 generalize loOf A = al at *
 generalize loOf B = bl at *
 have inj : ah ≠ bh → IntKind.u64.wrap ah ≠ IntKind.u64.wrap bh := by simp only [IntKind.wrap_u64]; omega
 by_cases g1 : IntKind.u64.wrap ah < IntKind.u64.wrap bh
 ·have e : decide (IntKind.u64.wrap ah * 18446744073709551616 + al < IntKind.u64.wrap bh * 18446744073709551616 + bl) = true := by simp; omega
  rw [e]
  clear e inj
  go_enter Tryz.func176, Tryz.ntmps176
  go_wp2
  go_ret
  exact ⟨rfl, ((Grown.refl _).alloc _ _).alloc _ _⟩
 ·by_cases g2 : ah = bh
  ·subst g2
   have e : decide (IntKind.u64.wrap ah * 18446744073709551616 + al < IntKind.u64.wrap ah * 18446744073709551616 + bl) = decide (al < bl) := by rw [decide_eq_decide]; omega
   rw [e]
   clear e inj
   go_enter Tryz.func176, Tryz.ntmps176
   go_wp2
   go_ret
   exact ⟨rfl, ((Grown.refl _).alloc _ _).alloc _ _⟩
  ·have e : decide (IntKind.u64.wrap ah * 18446744073709551616 + al < IntKind.u64.wrap bh * 18446744073709551616 + bl) = false := by have := inj g2; simp; omega
   rw [e]
   have g3 : (ah == bh) = false := by simpa using g2
   clear e inj g2
   go_enter Tryz.func176, Tryz.ntmps176
   go_wp2
   go_ret
   exact ⟨rfl, ((Grown.refl _).alloc _ _).alloc _ _⟩
set_option maxHeartbeats 400000 in
theorem refWhole (A : Int) (w : World) :
  Calls Tryz.prog 167 #[.agg #[.int .i64 (hiOf A), .int .u64 (loOf A)]] w fun e w' => e = .returned (.agg #[.int .i64 (hiOf (absI (wrapW A))), .int .u64 (loOf (absI (wrapW A)))]) ∧ Grown w w' := by
 by_cases hs : hiOf A < 0
 ·have HW : Hid (absI (wrapW A) = -wrapW A) := by
   have : wrapW A < 0 := by rw [← val_of]; have := loOf_U64 A; unfold U64 at this; unfold val; omega
   unfold absI; rw [if_pos this]; exact hide rfl
  go_enter Tryz.func167, Tryz.ntmps167
  go_wp2_with fail
  refine (refNegV _ _).mono ?_
  rintro e w1 ⟨rfl, hg1⟩
  obtain ⟨d0, d1⟩ := gat2 hg1 (w.heap.size + 1) (.int .i64 0) (.int .u64 0) (by constructor <;> simp [go_sem])
  have hgw1 : Grown w w1 := gtrans (((Grown.refl _).alloc _ _).alloc _ _) hg1
  have f1 := fun o => frz hgw1 (w.heap.size + 1) o (by omega)
  clear hg1
  go_wp2
  simp [bodyPost, results, Tryz.results167, go_sem, *]
  rw [unhide HW, hiOf_neg, loOf_neg]
  exact ⟨⟨rfl, rfl⟩, Grown.setCell (Grown.setCell hgw1 (by dsimp only; omega) _) (by dsimp only; omega) _⟩
 ·have HW : Hid (absI (wrapW A) = wrapW A) := by
   have : ¬ wrapW A < 0 := by rw [← val_of]; have := loOf_U64 A; unfold U64 at this; unfold val; omega
   unfold absI; rw [if_neg this]; exact hide rfl
  go_enter Tryz.func167, Tryz.ntmps167
  go_wp2
  simp [bodyPost, results, Tryz.results167, go_sem]
  rw [unhide HW, hiOf_wrapW, loOf_wrapW]
  exact ⟨⟨rfl, rfl⟩, ((Grown.refl _).alloc _ _).alloc _ _⟩
end Go.Proofs.YtjobgjcfkomhpaaGreat
namespace Go.Proofs.YtjobgjcfkomhpaaGreat
open Go.RowKit Go.Proofs.Wd
set_option maxRecDepth 10000
attribute [local go_sem ↓] Go.wp_at_zero Go.wp_at_succ
theorem umag_small (A : Int) (h : 0 ≤ A ∧ A < 340282366920938463463374607431768211456) : umag A = A := by unfold umag; omega
theorem pow_half (a : Int) (k : Nat) : a / 2 ^ k = 2 * (a / 2 ^ (k + 1)) + a / 2 ^ k % 2 := by
 have e : a / 2 ^ (k + 1) = a / 2 ^ k / 2 := by rw [Int.ediv_ediv_of_nonneg (Int.le_of_lt (pow2_pos k))]; rw [Int.pow_succ]
 rw [e]; omega
theorem long_step (x d t : Int) (hd : 0 < d) (ht : t = 0 ∨ t = 1) :
  (2 * (x % d) + t < d → (2 * x + t) / d = 2 * (x / d) ∧ (2 * x + t) % d = 2 * (x % d) + t) ∧
  (¬ 2 * (x % d) + t < d → (2 * x + t) / d = 2 * (x / d) + 1 ∧ (2 * x + t) % d = 2 * (x % d) + t + -d) := by
 have e1 := Int.emod_add_mul_ediv x d
 have e2 := Int.emod_nonneg x (by omega : d ≠ 0)
 have e3 := Int.emod_lt_of_pos x hd
 constructor
 ·intro h
  exact du hd (by grind) (by omega) h
 ·intro h
  exact du hd (by grind) (by omega) (by omega)
theorem one_bit (a : Int) : one (decide (a % 2 = 1)) = a % 2 := by
 unfold one
 by_cases h : a % 2 = 1
 ·simp [h]
 ·simp [h]; omega
theorem next_of (Q : Int) : hiOf (wrapW Q + val 0 1) = hiOf (Q + 1) ∧ loOf (wrapW Q + val 0 1) = loOf (Q + 1) := by
 unfold hiOf loOf wrapW val; omega
theorem hilo_ne_u (A B : Int) (hA : 0 ≤ A ∧ A < 340282366920938463463374607431768211456) (hB : 0 ≤ B ∧ B < 340282366920938463463374607431768211456) (h : A ≠ B) : hiOf A ≠ hiOf B ∨ loOf A ≠ loOf B := by
 unfold hiOf loOf; omega
theorem even_next (Q : Int) : hiOf (2 * Q + one false) = hiOf (2 * Q + 1) ∧ IntKind.u64.wrap (loOf (2 * Q + one false) + 1) = loOf (2 * Q + 1) := by
 rw [IntKind.wrap_u64]; unfold one hiOf loOf; simp; omega
theorem div128 (A : Int) (h0 : 0 ≤ A) (h1 : A < 340282366920938463463374607431768211456) : A / 2 ^ 128 = 0 :=
 Int.ediv_eq_zero_of_lt h0 (Int.lt_of_lt_of_le h1 (by decide))
set_option maxHeartbeats 2000000 in
theorem refRounded_loop (A D : Int) (hA : 0 ≤ A ∧ A ≤ 170141183460469231731687303715884105728) (hD : 0 < D ∧ D ≤ 170141183460469231731687303715884105728) (w : World) :
  Calls Tryz.prog 166 #[.agg #[.int .i64 (hiOf A), .int .u64 (loOf A)], .agg #[.int .i64 (hiOf D), .int .u64 (loOf D)]] w fun e w' => e = .returned (.agg #[.int .i64 (hiOf (nearQ (A / D) (A % D) (D - A % D))), .int .u64 (loOf (nearQ (A / D) (A % D) (D - A % D)))]) ∧ Grown w w' := by
 go_enter Tryz.func166, Tryz.ntmps166
 go_wp2
 have u0 : A / 2 ^ 128 = 0 := div128 A hA.1 (by omega)
 have z0 : hiOf (A / 2 ^ 128 / D) = 0 ∧ loOf (A / 2 ^ 128 / D) = 0 := by rw [u0, Int.zero_ediv]; decide
 have z1 : hiOf (A / 2 ^ 128 % D) = 0 ∧ loOf (A / 2 ^ 128 % D) = 0 := by rw [u0, Int.zero_emod]; decide
 have Z0 := hide z0; have Z1 := hide z1
 clear u0 z0 z1
 go_loopw [7] (fun i wr => ∃ k : Nat, k ≤ 128 ∧ i = .int .i64 ((k : Int) - 1) ∧ (wr.cell? ⟨w.heap.size, 0, none⟩ = some (.int .i64 (hiOf (A))) ∧ wr.cell? ⟨w.heap.size, 1, none⟩ = some (.int .u64 (loOf (A)))) ∧ (wr.cell? ⟨w.heap.size + 1, 0, none⟩ = some (.int .i64 (hiOf (D))) ∧ wr.cell? ⟨w.heap.size + 1, 1, none⟩ = some (.int .u64 (loOf (D)))) ∧ (wr.cell? ⟨w.heap.size + 1 + 1, 0, none⟩ = some (.int .i64 0) ∧ wr.cell? ⟨w.heap.size + 1 + 1, 1, none⟩ = some (.int .u64 0)) ∧ (wr.cell? ⟨w.heap.size + 1 + 1 + 1, 0, none⟩ = some (.int .i64 (hiOf (A / 2 ^ k / D))) ∧ wr.cell? ⟨w.heap.size + 1 + 1 + 1, 1, none⟩ = some (.int .u64 (loOf (A / 2 ^ k / D)))) ∧ (wr.cell? ⟨w.heap.size + 1 + 1 + 1 + 1, 0, none⟩ = some (.int .i64 (hiOf (A / 2 ^ k % D))) ∧ wr.cell? ⟨w.heap.size + 1 + 1 + 1 + 1, 1, none⟩ = some (.int .u64 (loOf (A / 2 ^ k % D)))) ∧ Grown w wr) (fun i _ => (intOf i + 1).toNat)
 case atStart =>
  refine ⟨128, by omega, rfl, ⟨by simp [go_sem], by simp [go_sem]⟩, ⟨by simp [go_sem], by simp [go_sem]⟩, ⟨by simp [go_sem], by simp [go_sem]⟩, ⟨?_, ?_⟩, ⟨?_, ?_⟩, (((((Grown.refl _).alloc _ _).alloc _ _).alloc _ _).alloc _ _).alloc _ _⟩
  ·rw [(unhide Z0).1]; simp [go_sem]
  ·rw [(unhide Z0).2]; simp [go_sem]
  ·rw [(unhide Z1).1]; simp [go_sem]
  ·rw [(unhide Z1).2]; simp [go_sem]
 case round =>
  obtain ⟨k, hk, rfl, ⟨a00, a01⟩, ⟨d00, d01⟩, ⟨z00, z01⟩, ⟨q00, q01⟩, ⟨r00, r01⟩, hg0⟩ := hrel
  clear Z0 Z1
  by_cases hk0 : k = 0
  ·subst hk0
   rw [show A / 2 ^ 0 = A from by simp] at q00 q01 r00 r01
   have hr0 := Int.emod_nonneg A (by omega : D ≠ 0)
   have hr1 := Int.emod_lt_of_pos A hD.1
   obtain ⟨Q, hQ⟩ : ∃ Q, A / D = Q := ⟨_, rfl⟩
   obtain ⟨R, hR⟩ : ∃ R, A % D = R := ⟨_, rfl⟩
   rw [hQ] at q00 q01
   rw [hR] at r00 r01 hr0 hr1
   have HQ := hide hQ; have HR := hide hR
   clear hQ hR
   have BL := hide (fun w => refBelow (D + -R) R w)
   rw [umag_small (D + -R) (by omega), umag_small R (by omega)] at BL
   have A1 := hide (fun w => refAdd (hiOf Q) (loOf Q) 0 1 (hiOf_I64 _) (loOf_U64 _) (by unfold I64; omega) (by unfold U64; omega) w)
   rw [val_of, (next_of Q).1, (next_of Q).2] at A1
   have hlo := loOf_U64 Q
   unfold U64 at hlo
   have hpar : loOf Q % 2 = Q % 2 := by unfold loOf; omega
   have HP := hide hpar
   have HNE := hide (fun h => hilo_ne_u (D + -R) R (by omega) (by omega) h)
   clear hpar
   go_upto_region 10 with fail
   go_cut [8] (fun s8 wx => ∃ g, s8 = .pointer (some ⟨g, 0, none⟩) ∧ (wx.cell? ⟨g, 0, none⟩ = some (.int .i64 (hiOf (D + -R))) ∧ wx.cell? ⟨g, 1, none⟩ = some (.int .u64 (loOf (D + -R)))) ∧ (wx.cell? ⟨w.heap.size, 0, none⟩ = some (.int .i64 (hiOf (A))) ∧ wx.cell? ⟨w.heap.size, 1, none⟩ = some (.int .u64 (loOf (A)))) ∧ (wx.cell? ⟨w.heap.size + 1, 0, none⟩ = some (.int .i64 (hiOf (D))) ∧ wx.cell? ⟨w.heap.size + 1, 1, none⟩ = some (.int .u64 (loOf (D)))) ∧ (wx.cell? ⟨w.heap.size + 1 + 1, 0, none⟩ = some (.int .i64 0) ∧ wx.cell? ⟨w.heap.size + 1 + 1, 1, none⟩ = some (.int .u64 0)) ∧ (wx.cell? ⟨w.heap.size + 1 + 1 + 1, 0, none⟩ = some (.int .i64 (hiOf (Q))) ∧ wx.cell? ⟨w.heap.size + 1 + 1 + 1, 1, none⟩ = some (.int .u64 (loOf (Q)))) ∧ (wx.cell? ⟨w.heap.size + 1 + 1 + 1 + 1, 0, none⟩ = some (.int .i64 (hiOf (R))) ∧ wx.cell? ⟨w.heap.size + 1 + 1 + 1 + 1, 1, none⟩ = some (.int .u64 (loOf (R)))) ∧ Grown w wx)
   case first =>
    have l0 := heap_gt r00; have nr1 : w.heap.size + 1 < wr.heap.size := (by omega); have nr2 : w.heap.size + 1 + 1 < wr.heap.size := (by omega); have nr3 : w.heap.size + 1 + 1 + 1 < wr.heap.size := (by omega); have nr0 : w.heap.size < wr.heap.size := (by omega); have mr0 : wr.heap.size ≠ w.heap.size := (by omega); have pr0 : w.heap.size ≠ wr.heap.size := (by omega); have mr1 : wr.heap.size ≠ w.heap.size + 1 := (by omega); have pr1 : w.heap.size + 1 ≠ wr.heap.size := (by omega); have mr2 : wr.heap.size ≠ w.heap.size + 1 + 1 := (by omega); have pr2 : w.heap.size + 1 + 1 ≠ wr.heap.size := (by omega); have mr3 : wr.heap.size ≠ w.heap.size + 1 + 1 + 1 := (by omega); have pr3 : w.heap.size + 1 + 1 + 1 ≠ wr.heap.size := (by omega); have mr4 : wr.heap.size ≠ w.heap.size + 1 + 1 + 1 + 1 := (by omega); have pr4 : w.heap.size + 1 + 1 + 1 + 1 ≠ wr.heap.size := (by omega)
    go_region_held3 (fun w' => (w'.cell? ⟨w.heap.size + 1, 0, none⟩ = some (.int .i64 (hiOf (D))) ∧ w'.cell? ⟨w.heap.size + 1, 1, none⟩ = some (.int .u64 (loOf (D)))) ∧ (w'.cell? ⟨w.heap.size + 1 + 1 + 1 + 1, 0, none⟩ = some (.int .i64 (hiOf (R))) ∧ w'.cell? ⟨w.heap.size + 1 + 1 + 1 + 1, 1, none⟩ = some (.int .u64 (loOf (R)))))
     (simp [go_sem, *])
     (first
      | (go_at_call 152; refine (refNegV _ _).mono ?_; rintro e wm ⟨rfl, hgm⟩; have hgwm : Grown w wm := gtrans (by first | exact Grown.drew hg0 | exact Grown.drew (Grown.alloc hg0 _ _)) hgm; obtain ⟨am0, am1⟩ := gat2 hgm (w.heap.size) (.int .i64 (hiOf (A))) (.int .u64 (loOf (A))) (by constructor <;> simp [go_sem, *]); obtain ⟨dm0, dm1⟩ := gat2 hgm (w.heap.size + 1) (.int .i64 (hiOf (D))) (.int .u64 (loOf (D))) (by constructor <;> simp [go_sem, *]); obtain ⟨zm0, zm1⟩ := gat2 hgm (w.heap.size + 1 + 1) (.int .i64 0) (.int .u64 0) (by constructor <;> simp [go_sem, *]); obtain ⟨qm0, qm1⟩ := gat2 hgm (w.heap.size + 1 + 1 + 1) (.int .i64 (hiOf (Q))) (.int .u64 (loOf (Q))) (by constructor <;> simp [go_sem, *]); obtain ⟨rm0, rm1⟩ := gat2 hgm (w.heap.size + 1 + 1 + 1 + 1) (.int .i64 (hiOf (R))) (.int .u64 (loOf (R))) (by constructor <;> simp [go_sem, *]); have lm := heap_gt rm0; have nm1 : w.heap.size + 1 < wm.heap.size := (by omega); have nm2 : w.heap.size + 1 + 1 < wm.heap.size := (by omega); have nm3 : w.heap.size + 1 + 1 + 1 < wm.heap.size := (by omega); have nm0 : w.heap.size < wm.heap.size := (by omega); have mm0 : wm.heap.size ≠ w.heap.size := (by omega); have pm0 : w.heap.size ≠ wm.heap.size := (by omega); have mm1 : wm.heap.size ≠ w.heap.size + 1 := (by omega); have pm1 : w.heap.size + 1 ≠ wm.heap.size := (by omega); have mm2 : wm.heap.size ≠ w.heap.size + 1 + 1 := (by omega); have pm2 : w.heap.size + 1 + 1 ≠ wm.heap.size := (by omega); have mm3 : wm.heap.size ≠ w.heap.size + 1 + 1 + 1 := (by omega); have pm3 : w.heap.size + 1 + 1 + 1 ≠ wm.heap.size := (by omega); have mm4 : wm.heap.size ≠ w.heap.size + 1 + 1 + 1 + 1 := (by omega); have pm4 : w.heap.size + 1 + 1 + 1 + 1 ≠ wm.heap.size := (by omega); (try (refine with_gat2 hgm wr.heap.size (.int .i64 0) (.int .u64 0) ?_ ?_ ?_; (focus (first | assumption | (simp [go_sem]; done))); (focus (first | assumption | (simp [go_sem]; done))); intro yu0 yu1)))
      | (go_at_call 153; refine (refAddV _ _ _).mono ?_; rintro e wa ⟨rfl, hga⟩; have hgwa : Grown w wa := gtrans (by first | exact hgwm | exact Grown.alloc hgwm _ _) hga; have zz0 := fun o => frz hgwa wr.heap.size o hg0.2.2; have zz1 := fun o => frz hgwa wm.heap.size o hgwm.2.2; obtain ⟨aa0, aa1⟩ := gat2 hga (w.heap.size) (.int .i64 (hiOf (A))) (.int .u64 (loOf (A))) (by constructor <;> simp [go_sem, *]); obtain ⟨da0, da1⟩ := gat2 hga (w.heap.size + 1) (.int .i64 (hiOf (D))) (.int .u64 (loOf (D))) (by constructor <;> simp [go_sem, *]); obtain ⟨za0, za1⟩ := gat2 hga (w.heap.size + 1 + 1) (.int .i64 0) (.int .u64 0) (by constructor <;> simp [go_sem, *]); obtain ⟨qa0, qa1⟩ := gat2 hga (w.heap.size + 1 + 1 + 1) (.int .i64 (hiOf (Q))) (.int .u64 (loOf (Q))) (by constructor <;> simp [go_sem, *]); obtain ⟨ra0, ra1⟩ := gat2 hga (w.heap.size + 1 + 1 + 1 + 1) (.int .i64 (hiOf (R))) (.int .u64 (loOf (R))) (by constructor <;> simp [go_sem, *]); have la := heap_gt ra0; have na1 : w.heap.size + 1 < wa.heap.size := (by omega); have na2 : w.heap.size + 1 + 1 < wa.heap.size := (by omega); have na3 : w.heap.size + 1 + 1 + 1 < wa.heap.size := (by omega); have na0 : w.heap.size < wa.heap.size := (by omega); have ma0 : wa.heap.size ≠ w.heap.size := (by omega); have pa0 : w.heap.size ≠ wa.heap.size := (by omega); have ma1 : wa.heap.size ≠ w.heap.size + 1 := (by omega); have pa1 : w.heap.size + 1 ≠ wa.heap.size := (by omega); have ma2 : wa.heap.size ≠ w.heap.size + 1 + 1 := (by omega); have pa2 : w.heap.size + 1 + 1 ≠ wa.heap.size := (by omega); have ma3 : wa.heap.size ≠ w.heap.size + 1 + 1 + 1 := (by omega); have pa3 : w.heap.size + 1 + 1 + 1 ≠ wa.heap.size := (by omega); have ma4 : wa.heap.size ≠ w.heap.size + 1 + 1 + 1 + 1 := (by omega); have pa4 : w.heap.size + 1 + 1 + 1 + 1 ≠ wa.heap.size := (by omega); (try (refine with_gat2 hga wr.heap.size (.int .i64 0) (.int .u64 0) ?_ ?_ ?_; (focus (first | assumption | (simp [go_sem]; done))); (focus (first | assumption | (simp [go_sem]; done))); intro yv0 yv1)); (try (refine with_gat2 hga wm.heap.size (.int .i64 0) (.int .u64 0) ?_ ?_ ?_; (focus (first | assumption | (simp [go_sem]; done))); (focus (first | assumption | (simp [go_sem]; done))); intro yx0 yx1))))
    all_goals go_wp2_with fail
    all_goals go_meet
    all_goals refine ⟨_, rfl, ⟨?_, ?_⟩, ⟨?_, ?_⟩, ⟨?_, ?_⟩, ⟨?_, ?_⟩, ⟨?_, ?_⟩, ⟨?_, ?_⟩, ?_⟩
    all_goals first | (simp [go_sem, *]; done) | exact Grown.alloc hgwa _ _ | exact Grown.setCell (Grown.setCell hgwa hg0.2.2 _) hg0.2.2 _ | exact Grown.setCell (Grown.setCell hgwa hgwm.2.2 _) hgwm.2.2 _
   case rest =>
   obtain ⟨g, rfl, ⟨g20, g21⟩, ⟨a20, a21⟩, ⟨d20, d21⟩, ⟨z20, z21⟩, ⟨q20, q21⟩, ⟨r20, r21⟩, k2⟩ := hcut
   clear a00 a01 d00 d01 z00 z01 q00 q01 r00 r01 hg0
   by_cases c1 : D + -R < R
   ·have HN := hide (show nearQ Q R (D + -R) = Q + 1 from by unfold nearQ; rw [if_pos (Or.inl c1)])
    rw [show decide (D + -R < R) = true from by simpa using c1] at BL
    clear c1
    go_wp2_with fail
    refine (unhide BL _).mono ?_
    rintro e w3 ⟨rfl, hg3⟩
    obtain ⟨z30, z31⟩ := gat2 hg3 _ _ _ ⟨z20, z21⟩
    obtain ⟨q30, q31⟩ := gat2 hg3 _ _ _ ⟨q20, q21⟩
    obtain ⟨r30, r31⟩ := gat2 hg3 _ _ _ ⟨r20, r21⟩
    obtain ⟨g30, g31⟩ := gat2 hg3 _ _ _ ⟨g20, g21⟩
    have k3 : Grown w w3 := gtrans k2 hg3
    clear hg3 k2 a20 a21 d20 d21 z20 z21 q20 q21 r20 r21 g20 g21 BL
    go_wp2_with fail
    refine (unhide A1 _).mono ?_
    rintro e w4 ⟨rfl, hg4⟩
    obtain ⟨z40, z41⟩ := gat2 hg4 _ _ _ ⟨z30, z31⟩
    obtain ⟨q40, q41⟩ := gat2 hg4 _ _ _ ⟨q30, q31⟩
    have k4 : Grown w w4 := gtrans k3 hg4
    have f4 := fun o => frz k4 (w.heap.size + 1 + 1 + 1) o (by omega)
    have f5 := fun o => frz k4 (w.heap.size + 1 + 1) o (by omega)
    clear hg4 k3 z30 z31 q30 q31 r30 r31 g30 g31
    go_wp2
    simp [bodyPost, results, Tryz.results166, go_sem, *]
    rw [unhide HQ, unhide HR, Int.sub_eq_add_neg, unhide HN]
    exact ⟨⟨rfl, rfl⟩, Grown.setCell (Grown.setCell (Grown.setCell (Grown.setCell k4 (by dsimp only; omega) _) (by dsimp only; omega) _) (by dsimp only; omega) _) (by dsimp only; omega) _⟩
   rw [show decide (D + -R < R) = false from by simpa using c1] at BL
   by_cases c2 : D + -R = R
   ·have c3 : (hiOf (D + -R) == hiOf R) = true := by rw [c2]; simp
    have c4 : (loOf (D + -R) == loOf R) = true := by rw [c2]; simp
    by_cases c5 : Q % 2 = 1
    ·have HN := hide (show nearQ Q R (D + -R) = Q + 1 from by unfold nearQ; rw [if_pos (Or.inr ⟨c2, c5⟩)])
     have c6 : loOf Q % 2 = 1 := by rw [unhide HP]; exact c5
     clear c1 c2 c5
     go_wp2_with fail
     refine (unhide BL _).mono ?_
     rintro e w3 ⟨rfl, hg3⟩
     obtain ⟨z30, z31⟩ := gat2 hg3 _ _ _ ⟨z20, z21⟩
     obtain ⟨q30, q31⟩ := gat2 hg3 _ _ _ ⟨q20, q21⟩
     obtain ⟨r30, r31⟩ := gat2 hg3 _ _ _ ⟨r20, r21⟩
     obtain ⟨g30, g31⟩ := gat2 hg3 _ _ _ ⟨g20, g21⟩
     have k3 : Grown w w3 := gtrans k2 hg3
     clear hg3 k2 a20 a21 d20 d21 z20 z21 q20 q21 r20 r21 g20 g21 BL
     go_wp2_with fail
     refine (unhide A1 _).mono ?_
     rintro e w4 ⟨rfl, hg4⟩
     obtain ⟨z40, z41⟩ := gat2 hg4 _ _ _ ⟨z30, z31⟩
     obtain ⟨q40, q41⟩ := gat2 hg4 _ _ _ ⟨q30, q31⟩
     have k4 : Grown w w4 := gtrans k3 hg4
     have f4 := fun o => frz k4 (w.heap.size + 1 + 1 + 1) o (by omega)
     have f5 := fun o => frz k4 (w.heap.size + 1 + 1) o (by omega)
     clear hg4 k3 z30 z31 q30 q31 r30 r31 g30 g31
     go_wp2
     simp [bodyPost, results, Tryz.results166, go_sem, *]
     rw [unhide HQ, unhide HR, Int.sub_eq_add_neg, unhide HN]
     exact ⟨⟨rfl, rfl⟩, Grown.setCell (Grown.setCell (Grown.setCell (Grown.setCell k4 (by dsimp only; omega) _) (by dsimp only; omega) _) (by dsimp only; omega) _) (by dsimp only; omega) _⟩
    ·have HN := hide (show nearQ Q R (D + -R) = Q from by unfold nearQ; rw [if_neg (by omega)])
     have c6 : loOf Q % 2 = 0 := by rw [unhide HP]; omega
     clear c1 c2 c5
     go_wp2_with fail
     refine (unhide BL _).mono ?_
     rintro e w3 ⟨rfl, hg3⟩
     obtain ⟨z30, z31⟩ := gat2 hg3 _ _ _ ⟨z20, z21⟩
     obtain ⟨q30, q31⟩ := gat2 hg3 _ _ _ ⟨q20, q21⟩
     obtain ⟨r30, r31⟩ := gat2 hg3 _ _ _ ⟨r20, r21⟩
     obtain ⟨g30, g31⟩ := gat2 hg3 _ _ _ ⟨g20, g21⟩
     have k3 : Grown w w3 := gtrans k2 hg3
     clear hg3 k2 a20 a21 d20 d21 z20 z21 q20 q21 r20 r21 g20 g21 BL
     have f5 := fun o => frz k3 (w.heap.size + 1 + 1) o (by omega)
     go_wp2
     simp [bodyPost, results, Tryz.results166, go_sem, *]
     rw [unhide HQ, unhide HR, Int.sub_eq_add_neg, unhide HN]
     exact ⟨⟨rfl, rfl⟩, Grown.setCell (Grown.setCell k3 (by dsimp only; omega) _) (by dsimp only; omega) _⟩
   ·have HN := hide (show nearQ Q R (D + -R) = Q from by unfold nearQ; rw [if_neg (by omega)])
    have hne := unhide HNE c2
    by_cases g5 : (hiOf (D + -R) == hiOf R) = true
    ·have g6 : (loOf (D + -R) == loOf R) = false := by
      rw [beq_eq_false_iff_ne]; rcases hne with h | h
      ·exact absurd (by simpa using g5) h
      ·exact h
     clear hne c1 c2
     go_wp2_with fail
     refine (unhide BL _).mono ?_
     rintro e w3 ⟨rfl, hg3⟩
     obtain ⟨z30, z31⟩ := gat2 hg3 _ _ _ ⟨z20, z21⟩
     obtain ⟨q30, q31⟩ := gat2 hg3 _ _ _ ⟨q20, q21⟩
     obtain ⟨r30, r31⟩ := gat2 hg3 _ _ _ ⟨r20, r21⟩
     obtain ⟨g30, g31⟩ := gat2 hg3 _ _ _ ⟨g20, g21⟩
     have k3 : Grown w w3 := gtrans k2 hg3
     clear hg3 k2 a20 a21 d20 d21 z20 z21 q20 q21 r20 r21 g20 g21 BL
     have f5 := fun o => frz k3 (w.heap.size + 1 + 1) o (by omega)
     go_wp2
     simp [bodyPost, results, Tryz.results166, go_sem, *]
     rw [unhide HQ, unhide HR, Int.sub_eq_add_neg, unhide HN]
     exact ⟨⟨rfl, rfl⟩, Grown.setCell (Grown.setCell k3 (by dsimp only; omega) _) (by dsimp only; omega) _⟩
    ·have g6 : (hiOf (D + -R) == hiOf R) = false := by simpa using g5
     clear hne c1 c2 g5
     go_wp2_with fail
     refine (unhide BL _).mono ?_
     rintro e w3 ⟨rfl, hg3⟩
     obtain ⟨z30, z31⟩ := gat2 hg3 _ _ _ ⟨z20, z21⟩
     obtain ⟨q30, q31⟩ := gat2 hg3 _ _ _ ⟨q20, q21⟩
     obtain ⟨r30, r31⟩ := gat2 hg3 _ _ _ ⟨r20, r21⟩
     obtain ⟨g30, g31⟩ := gat2 hg3 _ _ _ ⟨g20, g21⟩
     have k3 : Grown w w3 := gtrans k2 hg3
     clear hg3 k2 a20 a21 d20 d21 z20 z21 q20 q21 r20 r21 g20 g21 BL
     have f5 := fun o => frz k3 (w.heap.size + 1 + 1) o (by omega)
     go_wp2
     simp [bodyPost, results, Tryz.results166, go_sem, *]
     rw [unhide HQ, unhide HR, Int.sub_eq_add_neg, unhide HN]
     exact ⟨⟨rfl, rfl⟩, Grown.setCell (Grown.setCell k3 (by dsimp only; omega) _) (by dsimp only; omega) _⟩
  ·obtain ⟨j, rfl⟩ : ∃ j, k = j + 1 := ⟨k - 1, by omega⟩
   rw [show ((j + 1 : Nat) : Int) - 1 = (j : Int) from by omega]
   have BT := hide (fun w => refBit A j (by omega) (by omega) w)
   rw [Int.toNat_natCast] at BT
   have hob := one_bit (A / 2 ^ j)
   obtain ⟨bt, hbt⟩ : ∃ bt, decide (A / 2 ^ j % 2 = 1) = bt := ⟨_, rfl⟩
   rw [hbt] at BT hob
   have hls := long_step (A / 2 ^ (j + 1)) D (one bt) hD.1 (by rw [hob]; omega)
   rw [hob, ← pow_half A j, ← hob] at hls
   have hr0 := Int.emod_nonneg (A / 2 ^ (j + 1)) (by omega : D ≠ 0)
   have hr1 := Int.emod_lt_of_pos (A / 2 ^ (j + 1)) hD.1
   have ho : one bt = 0 ∨ one bt = 1 := by rw [hob]; omega
   generalize A / 2 ^ (j + 1) / D = Q at *
   generalize A / 2 ^ (j + 1) % D = R at *
   have hm1 := umag_small (2 * R + one bt) (by omega)
   have hm2 := umag_small D (by omega)
   have BL := hide (fun w => refBelow (2 * R + one bt) D w)
   rw [hm1, hm2] at BL
   have HLS := hide hls
   clear hbt hob hr0 hr1 ho hm1 hm2 hk0 hls
   go_upto_region 5 with fail
   go_cut [] (fun wx => (wx.cell? ⟨w.heap.size, 0, none⟩ = some (.int .i64 (hiOf (A))) ∧ wx.cell? ⟨w.heap.size, 1, none⟩ = some (.int .u64 (loOf (A)))) ∧ (wx.cell? ⟨w.heap.size + 1, 0, none⟩ = some (.int .i64 (hiOf (D))) ∧ wx.cell? ⟨w.heap.size + 1, 1, none⟩ = some (.int .u64 (loOf (D)))) ∧ (wx.cell? ⟨w.heap.size + 1 + 1, 0, none⟩ = some (.int .i64 0) ∧ wx.cell? ⟨w.heap.size + 1 + 1, 1, none⟩ = some (.int .u64 0)) ∧ (wx.cell? ⟨w.heap.size + 1 + 1 + 1, 0, none⟩ = some (.int .i64 (hiOf (Q))) ∧ wx.cell? ⟨w.heap.size + 1 + 1 + 1, 1, none⟩ = some (.int .u64 (loOf (Q)))) ∧ (wx.cell? ⟨w.heap.size + 1 + 1 + 1 + 1, 0, none⟩ = some (.int .i64 (hiOf (2 * R + one bt))) ∧ wx.cell? ⟨w.heap.size + 1 + 1 + 1 + 1, 1, none⟩ = some (.int .u64 (loOf (2 * R + one bt)))) ∧ Grown w wx)
   case first =>
    go_region_with
     (first
      | (go_at_call 151; refine (unhide BT _).mono ?_; rintro e w1 ⟨rfl, hg1⟩; obtain ⟨a10, a11⟩ := gat2 hg1 (w.heap.size) (.int .i64 (hiOf (A))) (.int .u64 (loOf (A))) (by constructor <;> simp [go_sem, *]); obtain ⟨d10, d11⟩ := gat2 hg1 (w.heap.size + 1) (.int .i64 (hiOf (D))) (.int .u64 (loOf (D))) (by constructor <;> simp [go_sem, *]); obtain ⟨z10, z11⟩ := gat2 hg1 (w.heap.size + 1 + 1) (.int .i64 0) (.int .u64 0) (by constructor <;> simp [go_sem, *]); obtain ⟨q10, q11⟩ := gat2 hg1 (w.heap.size + 1 + 1 + 1) (.int .i64 (hiOf (Q))) (.int .u64 (loOf (Q))) (by constructor <;> simp [go_sem, *]); obtain ⟨r10, r11⟩ := gat2 hg1 (w.heap.size + 1 + 1 + 1 + 1) (.int .i64 (hiOf (R))) (.int .u64 (loOf (R))) (by constructor <;> simp [go_sem, *]); have k1 : Grown w w1 := gtrans (by exact Grown.drew hg0) hg1)
      | (go_at_call 150; refine (refTwice _ _ _).mono ?_; rintro e w2 ⟨rfl, hg2⟩; obtain ⟨a20, a21⟩ := gat2 hg2 (w.heap.size) (.int .i64 (hiOf (A))) (.int .u64 (loOf (A))) (by constructor <;> simp [go_sem, *]); obtain ⟨d20, d21⟩ := gat2 hg2 (w.heap.size + 1) (.int .i64 (hiOf (D))) (.int .u64 (loOf (D))) (by constructor <;> simp [go_sem, *]); obtain ⟨z20, z21⟩ := gat2 hg2 (w.heap.size + 1 + 1) (.int .i64 0) (.int .u64 0) (by constructor <;> simp [go_sem, *]); obtain ⟨q20, q21⟩ := gat2 hg2 (w.heap.size + 1 + 1 + 1) (.int .i64 (hiOf (Q))) (.int .u64 (loOf (Q))) (by constructor <;> simp [go_sem, *]); obtain ⟨r20, r21⟩ := gat2 hg2 (w.heap.size + 1 + 1 + 1 + 1) (.int .i64 (hiOf (R))) (.int .u64 (loOf (R))) (by constructor <;> simp [go_sem, *]); have k2 : Grown w w2 := gtrans k1 hg2; have f2 := fun o => frz k2 (w.heap.size + 1 + 1 + 1 + 1) o (by omega)))
    all_goals go_wp2_with fail
    all_goals go_meet
    all_goals exact ⟨⟨by simp [go_sem, *], by simp [go_sem, *]⟩, ⟨by simp [go_sem, *], by simp [go_sem, *]⟩, ⟨by simp [go_sem, *], by simp [go_sem, *]⟩, ⟨by simp [go_sem, *], by simp [go_sem, *]⟩, ⟨by simp [go_sem, *], by simp [go_sem, *]⟩, Grown.setCell (Grown.setCell k2 (by dsimp only; omega) _) (by dsimp only; omega) _⟩
   case rest =>
   obtain ⟨⟨a20, a21⟩, ⟨d20, d21⟩, ⟨z20, z21⟩, ⟨q20, q21⟩, ⟨r20, r21⟩, k2⟩ := hcut
   clear a00 a01 d00 d01 z00 z01 q00 q01 r00 r01 hg0
   go_wp2_with fail
   refine (refTwice _ _ _).mono ?_
   rintro e w3 ⟨rfl, hg3⟩
   obtain ⟨a30, a31⟩ := gat2 hg3 (w.heap.size) (.int .i64 (hiOf (A))) (.int .u64 (loOf (A))) (by constructor <;> simp [go_sem, *])
   obtain ⟨d30, d31⟩ := gat2 hg3 (w.heap.size + 1) (.int .i64 (hiOf (D))) (.int .u64 (loOf (D))) (by constructor <;> simp [go_sem, *])
   obtain ⟨z30, z31⟩ := gat2 hg3 (w.heap.size + 1 + 1) (.int .i64 0) (.int .u64 0) (by constructor <;> simp [go_sem, *])
   obtain ⟨q30, q31⟩ := gat2 hg3 (w.heap.size + 1 + 1 + 1) (.int .i64 (hiOf (Q))) (.int .u64 (loOf (Q))) (by constructor <;> simp [go_sem, *])
   obtain ⟨r30, r31⟩ := gat2 hg3 (w.heap.size + 1 + 1 + 1 + 1) (.int .i64 (hiOf (2 * R + one bt))) (.int .u64 (loOf (2 * R + one bt))) (by constructor <;> simp [go_sem, *])
   have k3 : Grown w w3 := gtrans k2 hg3
   have f3 := fun o => frz k3 (w.heap.size + 1 + 1 + 1) o (by omega)
   clear hg3 k2 a20 a21 d20 d21 z20 z21 q20 q21 r20 r21
   go_wp2_with fail
   refine (unhide BL _).mono ?_
   rintro e w4 ⟨rfl, hg4⟩
   obtain ⟨a40, a41⟩ := gat2 hg4 (w.heap.size) (.int .i64 (hiOf (A))) (.int .u64 (loOf (A))) (by constructor <;> simp [go_sem, *])
   obtain ⟨d40, d41⟩ := gat2 hg4 (w.heap.size + 1) (.int .i64 (hiOf (D))) (.int .u64 (loOf (D))) (by constructor <;> simp [go_sem, *])
   obtain ⟨z40, z41⟩ := gat2 hg4 (w.heap.size + 1 + 1) (.int .i64 0) (.int .u64 0) (by constructor <;> simp [go_sem, *])
   obtain ⟨q40, q41⟩ := gat2 hg4 (w.heap.size + 1 + 1 + 1) (.int .i64 (hiOf (2 * Q + one false))) (.int .u64 (loOf (2 * Q + one false))) (by constructor <;> simp [go_sem, *])
   obtain ⟨r40, r41⟩ := gat2 hg4 (w.heap.size + 1 + 1 + 1 + 1) (.int .i64 (hiOf (2 * R + one bt))) (.int .u64 (loOf (2 * R + one bt))) (by constructor <;> simp [go_sem, *])
   have k4 : Grown w w4 := gtrans (Grown.setCell (Grown.setCell k3 (by dsimp only; omega) _) (by dsimp only; omega) _) hg4
   clear hg4 k3 f3 a30 a31 d30 d31 z30 z31 q30 q31 r30 r31
   by_cases hlt : 2 * R + one bt < D
   ·obtain ⟨v1, v2⟩ := (unhide HLS).1 hlt
    have V1 := hide v1; have V2 := hide v2
    rw [show decide (2 * R + one bt < D) = true from by simpa using hlt]
    clear v1 v2 hlt HLS
    go_wp2
    go_roundw
    case rel =>
     refine ⟨j, by omega, by go_num, ⟨a40, a41⟩, ⟨d40, d41⟩, ⟨z40, z41⟩, ?_, ?_, k4⟩
     ·rw [unhide V1, show 2 * Q = 2 * Q + one false from by unfold one; simp]; exact ⟨q40, q41⟩
     ·rw [unhide V2]; exact ⟨r40, r41⟩
    case measure => simp [intOf]
   ·obtain ⟨v1, v2⟩ := (unhide HLS).2 (by omega)
    have V1 := hide v1; have V2 := hide v2
    rw [show decide (2 * R + one bt < D) = false from by simpa using hlt]
    clear v1 v2 hlt HLS
    go_upto_region 8 with fail
    go_cut [] (fun wx => (wx.cell? ⟨w.heap.size, 0, none⟩ = some (.int .i64 (hiOf (A))) ∧ wx.cell? ⟨w.heap.size, 1, none⟩ = some (.int .u64 (loOf (A)))) ∧ (wx.cell? ⟨w.heap.size + 1, 0, none⟩ = some (.int .i64 (hiOf (D))) ∧ wx.cell? ⟨w.heap.size + 1, 1, none⟩ = some (.int .u64 (loOf (D)))) ∧ (wx.cell? ⟨w.heap.size + 1 + 1, 0, none⟩ = some (.int .i64 0) ∧ wx.cell? ⟨w.heap.size + 1 + 1, 1, none⟩ = some (.int .u64 0)) ∧ (wx.cell? ⟨w.heap.size + 1 + 1 + 1, 0, none⟩ = some (.int .i64 (hiOf (2 * Q + one false))) ∧ wx.cell? ⟨w.heap.size + 1 + 1 + 1, 1, none⟩ = some (.int .u64 (loOf (2 * Q + one false)))) ∧ (wx.cell? ⟨w.heap.size + 1 + 1 + 1 + 1, 0, none⟩ = some (.int .i64 (hiOf (2 * R + one bt + -D))) ∧ wx.cell? ⟨w.heap.size + 1 + 1 + 1 + 1, 1, none⟩ = some (.int .u64 (loOf (2 * R + one bt + -D)))) ∧ Grown w wx)
    case first =>
     go_region_with
      (first
       | (go_at_call 152; refine (refNegV _ _).mono ?_; rintro e w5 ⟨rfl, hg5⟩; obtain ⟨a50, a51⟩ := gat2 hg5 (w.heap.size) (.int .i64 (hiOf (A))) (.int .u64 (loOf (A))) (by constructor <;> simp [go_sem, *]); obtain ⟨d50, d51⟩ := gat2 hg5 (w.heap.size + 1) (.int .i64 (hiOf (D))) (.int .u64 (loOf (D))) (by constructor <;> simp [go_sem, *]); obtain ⟨z50, z51⟩ := gat2 hg5 (w.heap.size + 1 + 1) (.int .i64 0) (.int .u64 0) (by constructor <;> simp [go_sem, *]); obtain ⟨q50, q51⟩ := gat2 hg5 (w.heap.size + 1 + 1 + 1) (.int .i64 (hiOf (2 * Q + one false))) (.int .u64 (loOf (2 * Q + one false))) (by constructor <;> simp [go_sem, *]); obtain ⟨r50, r51⟩ := gat2 hg5 (w.heap.size + 1 + 1 + 1 + 1) (.int .i64 (hiOf (2 * R + one bt))) (.int .u64 (loOf (2 * R + one bt))) (by constructor <;> simp [go_sem, *]); have k5 : Grown w w5 := gtrans (by exact Grown.drew k4) hg5)
       | (go_at_call 153; refine (refAddV _ _ _).mono ?_; rintro e w6 ⟨rfl, hg6⟩; obtain ⟨a60, a61⟩ := gat2 hg6 (w.heap.size) (.int .i64 (hiOf (A))) (.int .u64 (loOf (A))) (by constructor <;> simp [go_sem, *]); obtain ⟨d60, d61⟩ := gat2 hg6 (w.heap.size + 1) (.int .i64 (hiOf (D))) (.int .u64 (loOf (D))) (by constructor <;> simp [go_sem, *]); obtain ⟨z60, z61⟩ := gat2 hg6 (w.heap.size + 1 + 1) (.int .i64 0) (.int .u64 0) (by constructor <;> simp [go_sem, *]); obtain ⟨q60, q61⟩ := gat2 hg6 (w.heap.size + 1 + 1 + 1) (.int .i64 (hiOf (2 * Q + one false))) (.int .u64 (loOf (2 * Q + one false))) (by constructor <;> simp [go_sem, *]); obtain ⟨r60, r61⟩ := gat2 hg6 (w.heap.size + 1 + 1 + 1 + 1) (.int .i64 (hiOf (2 * R + one bt))) (.int .u64 (loOf (2 * R + one bt))) (by constructor <;> simp [go_sem, *]); have k6 : Grown w w6 := gtrans k5 hg6; have f6 := fun o => frz k6 (w.heap.size + 1 + 1 + 1 + 1) o (by omega)))
     all_goals go_wp2_with fail
     all_goals go_meet
     all_goals exact ⟨⟨by simp [go_sem, *], by simp [go_sem, *]⟩, ⟨by simp [go_sem, *], by simp [go_sem, *]⟩, ⟨by simp [go_sem, *], by simp [go_sem, *]⟩, ⟨by simp [go_sem, *], by simp [go_sem, *]⟩, ⟨by simp [go_sem, *], by simp [go_sem, *]⟩, Grown.setCell (Grown.setCell k6 (by dsimp only; omega) _) (by dsimp only; omega) _⟩
    case rest =>
    obtain ⟨⟨a60, a61⟩, ⟨d60, d61⟩, ⟨z60, z61⟩, ⟨q60, q61⟩, ⟨r60, r61⟩, k6⟩ := hcut
    clear a40 a41 d40 d41 z40 z41 q40 q41 r40 r41 k4
    have f7 := fun o => frz k6 (w.heap.size + 1 + 1 + 1) o (by omega)
    go_wp2
    go_roundw
    case rel =>
     refine ⟨j, by omega, by go_num, ⟨by simp [go_sem, *], by simp [go_sem, *]⟩, ⟨by simp [go_sem, *], by simp [go_sem, *]⟩, ⟨by simp [go_sem, *], by simp [go_sem, *]⟩, ?_, ?_, Grown.setCell k6 (by dsimp only; omega) _⟩
     ·rw [unhide V1, ← (even_next Q).1, ← (even_next Q).2]; constructor <;> simp [go_sem, *]
     ·rw [unhide V2]; constructor <;> simp [go_sem, *]
    case measure => simp [intOf]
end Go.Proofs.YtjobgjcfkomhpaaGreat
namespace Go.Proofs.YtjobgjcfkomhpaaGreat
open Go.RowKit Go.Proofs.Wd
set_option maxRecDepth 10000
attribute [local go_sem ↓] Go.wp_at_zero Go.wp_at_succ
theorem one_two (k : Nat) : 2 * (2 : Int) ^ k + one false = 2 ^ (k + 1) := by unfold one; rw [Int.pow_succ]; simp; omega
theorem abs_range (A : Int) (hA : wrapW A = A) : 0 ≤ absI A ∧ absI A ≤ 170141183460469231731687303715884105728 := by
 have : -170141183460469231731687303715884105728 ≤ A ∧ A < 170141183460469231731687303715884105728 := by rw [← hA]; unfold wrapW; omega
 unfold absI; split <;> omega
theorem hi_sign (A : Int) (hA : wrapW A = A) : (hiOf A < 0) = (A < 0) := by
 have : -170141183460469231731687303715884105728 ≤ A ∧ A < 170141183460469231731687303715884105728 := by rw [← hA]; unfold wrapW; omega
 unfold hiOf; apply propext; omega
set_option maxHeartbeats 4000000 in
theorem refRound (A n : Int) (hA : wrapW A = A) (h3 : 0 ≤ n) (h4 : n ≤ 127) (w : World) :
  Calls Tryz.prog 146 #[.agg #[.int .i64 (hiOf A), .int .u64 (loOf A)], .int .i64 n] w fun e w' => e = .returned (.tuple #[.agg #[.int .i64 (hiOf (rdiv A (2 ^ n.toNat))), .int .u64 (loOf (rdiv A (2 ^ n.toNat)))], .int .i64 0]) ∧ Grown w w' := by
 have hn0 : decide (n < 0) = false := by simp; omega
 have hn1 : decide (127 < n) = false := by simp; omega
 have hK := pow2_pos n.toNat
 have hK' := pow127 n h3 h4
 have hab := abs_range A hA
 have RD := hide (fun w => refRounded_loop (absI A) (2 ^ n.toNat) hab ⟨hK, hK'⟩ w)
 have HS := hide (sg_near A (2 ^ n.toNat) (decide (A < 0)) hK rfl)
 have HI := hide (hi_sign A hA)
 have HA := hide hA
 clear hK hK' hab hA
 go_enter Tryz.func146, Tryz.ntmps146
 go_wp2
 go_loopw [7] (fun i wr => ∃ k : Nat, (k : Int) ≤ n ∧ i = .int .i64 (k : Int) ∧ (wr.cell? ⟨w.heap.size, 0, none⟩ = some (.int .i64 (hiOf (A))) ∧ wr.cell? ⟨w.heap.size, 1, none⟩ = some (.int .u64 (loOf (A)))) ∧ (wr.cell? ⟨w.heap.size + 1, 0, none⟩ = some (.int .i64 0) ∧ wr.cell? ⟨w.heap.size + 1, 1, none⟩ = some (.int .u64 0)) ∧ (wr.cell? ⟨w.heap.size + 1 + 1, 0, none⟩ = some (.int .i64 (hiOf (2 ^ k))) ∧ wr.cell? ⟨w.heap.size + 1 + 1, 1, none⟩ = some (.int .u64 (loOf (2 ^ k)))) ∧ Grown w wr) (fun i _ => (n - intOf i).toNat)
 case atStart => exact ⟨0, by omega, rfl, ⟨by simp [go_sem], by simp [go_sem]⟩, ⟨by simp [go_sem], by simp [go_sem]⟩, ⟨by rw [show hiOf (2 ^ 0) = 0 from by decide]; simp [go_sem], by rw [show loOf (2 ^ 0) = 1 from by decide]; simp [go_sem]⟩, (((Grown.refl _).alloc _ _).alloc _ _).alloc _ _⟩
 case round =>
  obtain ⟨k, hk, rfl, ⟨a0, a1⟩, ⟨z0, z1⟩, ⟨d0, d1⟩, gr⟩ := hrel
  by_cases hlt : (k : Int) < n
  ·have HT := hide (one_two k)
   go_wp2_with fail
   refine (refTwice _ _ _).mono ?_
   rintro e w1 ⟨rfl, hg1⟩
   obtain ⟨a10, a11⟩ := gat2 hg1 _ _ _ ⟨a0, a1⟩
   obtain ⟨z10, z11⟩ := gat2 hg1 _ _ _ ⟨z0, z1⟩
   obtain ⟨d10, d11⟩ := gat2 hg1 _ _ _ ⟨d0, d1⟩
   have k1 : Grown w w1 := gtrans gr hg1
   have f1 := fun o => frz k1 (w.heap.size + 1 + 1) o (by omega)
   clear hg1 a0 a1 z0 z1 d0 d1 gr
   go_wp2
   go_roundw
   case rel =>
    refine ⟨k + 1, by omega, by go_num, ⟨by simp [go_sem, *], by simp [go_sem, *]⟩, ⟨by simp [go_sem, *], by simp [go_sem, *]⟩, ?_, Grown.setCell (Grown.setCell k1 (by dsimp only; omega) _) (by dsimp only; omega) _⟩
    rw [← unhide HT]; constructor <;> simp [go_sem, *]
   case measure => simp [intOf]; omega
  ·obtain rfl : n = (k : Int) := by omega
   rw [Int.toNat_natCast] at RD HS
   obtain ⟨D, hD⟩ : ∃ D, (2 : Int) ^ k = D := ⟨_, rfl⟩
   have HD := hide hD
   rw [hD] at d0 d1 RD HS
   clear hD
   obtain ⟨V, hV⟩ : ∃ V, nearQ (absI A / D) (absI A % D) (D - absI A % D) = V := ⟨_, rfl⟩
   rw [hV] at RD HS
   have HW := hide (show absI (wrapW A) = absI A from by rw [unhide HA])
   rw [← unhide HW] at RD
   clear hV
   go_upto_region 8 with fail
   go_cut [8] (fun s8 wx => ∃ g, s8 = .pointer (some ⟨g, 0, none⟩) ∧ (wx.cell? ⟨g, 0, none⟩ = some (.int .i64 (hiOf (V))) ∧ wx.cell? ⟨g, 1, none⟩ = some (.int .u64 (loOf (V)))) ∧ (wx.cell? ⟨w.heap.size, 0, none⟩ = some (.int .i64 (hiOf (A))) ∧ wx.cell? ⟨w.heap.size, 1, none⟩ = some (.int .u64 (loOf (A)))) ∧ (wx.cell? ⟨w.heap.size + 1, 0, none⟩ = some (.int .i64 0) ∧ wx.cell? ⟨w.heap.size + 1, 1, none⟩ = some (.int .u64 0)) ∧ Grown w wx)
   case first =>
    have lwr := heap_gt d0; have nwr0 : w.heap.size < wr.heap.size := (by omega); have mwr0 : wr.heap.size ≠ w.heap.size := (by omega); have pwr0 : w.heap.size ≠ wr.heap.size := (by omega); have nwr1 : w.heap.size + 1 < wr.heap.size := (by omega); have mwr1 : wr.heap.size ≠ w.heap.size + 1 := (by omega); have pwr1 : w.heap.size + 1 ≠ wr.heap.size := (by omega); have nwr2 : w.heap.size + 1 + 1 < wr.heap.size := (by omega); have mwr2 : wr.heap.size ≠ w.heap.size + 1 + 1 := (by omega); have pwr2 : w.heap.size + 1 + 1 ≠ wr.heap.size := (by omega)
    go_region_held3 (fun w' => (w'.cell? ⟨w.heap.size, 0, none⟩ = some (.int .i64 (hiOf (A))) ∧ w'.cell? ⟨w.heap.size, 1, none⟩ = some (.int .u64 (loOf (A)))) ∧ (w'.cell? ⟨w.heap.size + 1 + 1, 0, none⟩ = some (.int .i64 (hiOf (D))) ∧ w'.cell? ⟨w.heap.size + 1 + 1, 1, none⟩ = some (.int .u64 (loOf (D)))))
     (simp [go_sem, *])
     (first
      | (go_at_call 167; refine (refWhole _ _).mono ?_; rintro e wm ⟨rfl, hwm⟩; have gwm : Grown w wm := gtrans (by first | exact Grown.drew gr | exact Grown.drew (Grown.alloc gr _ _)) hwm; obtain ⟨awm0, awm1⟩ := gat2 hwm (w.heap.size) (.int .i64 (hiOf (A))) (.int .u64 (loOf (A))) (by constructor <;> simp [go_sem, *]); obtain ⟨zwm0, zwm1⟩ := gat2 hwm (w.heap.size + 1) (.int .i64 0) (.int .u64 0) (by constructor <;> simp [go_sem, *]); obtain ⟨dwm0, dwm1⟩ := gat2 hwm (w.heap.size + 1 + 1) (.int .i64 (hiOf (D))) (.int .u64 (loOf (D))) (by constructor <;> simp [go_sem, *]); have lwm := heap_gt dwm0; have nwm0 : w.heap.size < wm.heap.size := (by omega); have mwm0 : wm.heap.size ≠ w.heap.size := (by omega); have pwm0 : w.heap.size ≠ wm.heap.size := (by omega); have nwm1 : w.heap.size + 1 < wm.heap.size := (by omega); have mwm1 : wm.heap.size ≠ w.heap.size + 1 := (by omega); have pwm1 : w.heap.size + 1 ≠ wm.heap.size := (by omega); have nwm2 : w.heap.size + 1 + 1 < wm.heap.size := (by omega); have mwm2 : wm.heap.size ≠ w.heap.size + 1 + 1 := (by omega); have pwm2 : w.heap.size + 1 + 1 ≠ wm.heap.size := (by omega); (try (refine with_gat2 hwm wr.heap.size (.int .i64 0) (.int .u64 0) ?_ ?_ ?_; (focus (first | assumption | (simp [go_sem]; done))); (focus (first | assumption | (simp [go_sem]; done))); intro ywm00 ywm01)))
      | (go_at_call 166; refine (unhide RD _).mono ?_; rintro e wa ⟨rfl, hwa⟩; have gwa : Grown w wa := gtrans (by first | exact gwm | exact Grown.alloc gwm _ _) hwa; obtain ⟨awa0, awa1⟩ := gat2 hwa (w.heap.size) (.int .i64 (hiOf (A))) (.int .u64 (loOf (A))) (by constructor <;> simp [go_sem, *]); obtain ⟨zwa0, zwa1⟩ := gat2 hwa (w.heap.size + 1) (.int .i64 0) (.int .u64 0) (by constructor <;> simp [go_sem, *]); obtain ⟨dwa0, dwa1⟩ := gat2 hwa (w.heap.size + 1 + 1) (.int .i64 (hiOf (D))) (.int .u64 (loOf (D))) (by constructor <;> simp [go_sem, *]); have lwa := heap_gt dwa0; have nwa0 : w.heap.size < wa.heap.size := (by omega); have mwa0 : wa.heap.size ≠ w.heap.size := (by omega); have pwa0 : w.heap.size ≠ wa.heap.size := (by omega); have nwa1 : w.heap.size + 1 < wa.heap.size := (by omega); have mwa1 : wa.heap.size ≠ w.heap.size + 1 := (by omega); have pwa1 : w.heap.size + 1 ≠ wa.heap.size := (by omega); have nwa2 : w.heap.size + 1 + 1 < wa.heap.size := (by omega); have mwa2 : wa.heap.size ≠ w.heap.size + 1 + 1 := (by omega); have pwa2 : w.heap.size + 1 + 1 ≠ wa.heap.size := (by omega); have zz0 := fun o => frz gwa wr.heap.size o gr.2.2; have zz1 := fun o => frz gwa wm.heap.size o gwm.2.2; (try (refine with_gat2 hwa wr.heap.size (.int .i64 0) (.int .u64 0) ?_ ?_ ?_; (focus (first | assumption | (simp [go_sem]; done))); (focus (first | assumption | (simp [go_sem]; done))); intro ywa00 ywa01)); (try (refine with_gat2 hwa wm.heap.size (.int .i64 0) (.int .u64 0) ?_ ?_ ?_; (focus (first | assumption | (simp [go_sem]; done))); (focus (first | assumption | (simp [go_sem]; done))); intro ywa10 ywa11))))
    all_goals go_wp2_with fail
    all_goals go_meet
    all_goals refine ⟨_, rfl, ⟨?_, ?_⟩, ⟨?_, ?_⟩, ⟨?_, ?_⟩, ?_⟩
    all_goals first | (simp [go_sem, *]; done) | exact Grown.alloc gwa _ _ | exact Grown.setCell (Grown.setCell gwa gr.2.2 _) gr.2.2 _ | exact Grown.setCell (Grown.setCell gwa gwm.2.2 _) gwm.2.2 _
   case rest =>
   obtain ⟨g, rfl, ⟨g20, g21⟩, ⟨a20, a21⟩, ⟨z20, z21⟩, k2⟩ := hcut
   clear a0 a1 d0 d1 z0 z1 gr
   by_cases hs : hiOf A < 0
   ·have hs' : A < 0 := by rw [← unhide HI]; exact hs
    rw [show sg (decide (A < 0)) V = -V from by unfold sg; simp [hs']] at HS
    go_wp2_with fail
    refine (refNegV _ _).mono ?_
    rintro e w3 ⟨rfl, hg3⟩
    obtain ⟨z30, z31⟩ := gat2 hg3 _ _ _ ⟨z20, z21⟩
    have k3 : Grown w w3 := gtrans k2 hg3
    have f5 := fun o => frz k3 (w.heap.size + 1) o (by omega)
    clear z20 z21
    go_wp2
    simp [bodyPost, results, Tryz.results146, go_sem, *]
    rw [unhide HD, ← unhide HS]
    exact ⟨⟨rfl, rfl⟩, Grown.setCell (Grown.setCell k3 (by dsimp only; omega) _) (by dsimp only; omega) _⟩
   ·have hs' : ¬ A < 0 := by rw [← unhide HI]; omega
    rw [show sg (decide (A < 0)) V = V from by unfold sg; simp [hs']] at HS
    have z30 := z20; have z31 := z21; have k3 := k2
    have f5 := fun o => frz k3 (w.heap.size + 1) o (by omega)
    clear z20 z21
    go_wp2
    simp [bodyPost, results, Tryz.results146, go_sem, *]
    rw [unhide HD, ← unhide HS]
    exact ⟨⟨rfl, rfl⟩, Grown.setCell (Grown.setCell k3 (by dsimp only; omega) _) (by dsimp only; omega) _⟩
end Go.Proofs.YtjobgjcfkomhpaaGreat
namespace Go.Proofs.YtjobgjcfkomhpaaGreat
open Go.RowKit Go.Proofs.Wd
set_option maxRecDepth 10000
attribute [local go_sem ↓] Go.wp_at_zero Go.wp_at_succ
set_option maxHeartbeats 4000000 in
theorem refQuotient (A D : Int) (hA : wrapW A = A) (hD : wrapW D = D) (h0 : D ≠ 0) (w : World) :
  Calls Tryz.prog 170 #[.agg #[.int .i64 (hiOf A), .int .u64 (loOf A)], .agg #[.int .i64 (hiOf D), .int .u64 (loOf D)]] w fun e w' => e = .returned (.agg #[.int .i64 (hiOf (rdiv A D)), .int .u64 (loOf (rdiv A D))]) ∧ Grown w w' := by
 have hd0 : 0 < absI D := by unfold absI; split <;> omega
 have RD := hide (fun w => refRounded_loop (absI A) (absI D) (abs_range A hA) ⟨hd0, (abs_range D hD).2⟩ w)
 have HS := hide (sg_near2 A D h0)
 obtain ⟨V, hV⟩ : ∃ V, nearQ (absI A / absI D) (absI A % absI D) (absI D - absI A % absI D) = V := ⟨_, rfl⟩
 rw [hV] at RD HS
 rw [← show absI (wrapW A) = absI A from by rw [hA], ← show absI (wrapW D) = absI D from by rw [hD]] at RD
 have hap : apartS A D = apartS (hiOf A) (hiOf D) := by unfold apartS; rw [decide_eq_decide.2 (Iff.of_eq (hi_sign A hA)), decide_eq_decide.2 (Iff.of_eq (hi_sign D hD))]
 rw [hap] at HS
 clear hV hd0 hap hA hD h0
 go_enter Tryz.func170, Tryz.ntmps170
 go_upto_region 1 with fail
 go_cut [5] (fun s5 wx => ∃ g, s5 = .pointer (some ⟨g, 0, none⟩) ∧ (wx.cell? ⟨g, 0, none⟩ = some (.int .i64 (hiOf (V))) ∧ wx.cell? ⟨g, 1, none⟩ = some (.int .u64 (loOf (V)))) ∧ (wx.cell? ⟨w.heap.size, 0, none⟩ = some (.int .i64 (hiOf (A))) ∧ wx.cell? ⟨w.heap.size, 1, none⟩ = some (.int .u64 (loOf (A)))) ∧ (wx.cell? ⟨w.heap.size + 1, 0, none⟩ = some (.int .i64 (hiOf (D))) ∧ wx.cell? ⟨w.heap.size + 1, 1, none⟩ = some (.int .u64 (loOf (D)))) ∧ (wx.cell? ⟨w.heap.size + 1 + 1, 0, none⟩ = some (.int .i64 0) ∧ wx.cell? ⟨w.heap.size + 1 + 1, 1, none⟩ = some (.int .u64 0)) ∧ Grown w wx)
 case first =>
  go_region_held3 (fun w' => (w'.cell? ⟨w.heap.size, 0, none⟩ = some (.int .i64 (hiOf (A))) ∧ w'.cell? ⟨w.heap.size, 1, none⟩ = some (.int .u64 (loOf (A)))) ∧ (w'.cell? ⟨w.heap.size + 1, 0, none⟩ = some (.int .i64 (hiOf (D))) ∧ w'.cell? ⟨w.heap.size + 1, 1, none⟩ = some (.int .u64 (loOf (D)))))
   (simp [go_sem, *])
   (first
    | (go_at_call_of 167 (hiOf A); refine (refWhole A _).mono ?_; rintro e wm ⟨rfl, hwm⟩; have gwm : Grown w wm := gtrans (by first | exact Grown.drew ((((Grown.refl _).alloc _ _).alloc _ _).alloc _ _) | exact Grown.drew (Grown.alloc ((((Grown.refl _).alloc _ _).alloc _ _).alloc _ _) _ _)) hwm; obtain ⟨awm0, awm1⟩ := gat2 hwm (w.heap.size) (.int .i64 (hiOf (A))) (.int .u64 (loOf (A))) (by constructor <;> simp [go_sem, *]); obtain ⟨dwm0, dwm1⟩ := gat2 hwm (w.heap.size + 1) (.int .i64 (hiOf (D))) (.int .u64 (loOf (D))) (by constructor <;> simp [go_sem, *]); obtain ⟨zwm0, zwm1⟩ := gat2 hwm (w.heap.size + 1 + 1) (.int .i64 0) (.int .u64 0) (by constructor <;> simp [go_sem, *]); have lwm := heap_gt zwm0; have nwm0 : w.heap.size < wm.heap.size := (by omega); have mwm0 : wm.heap.size ≠ w.heap.size := (by omega); have pwm0 : w.heap.size ≠ wm.heap.size := (by omega); have nwm1 : w.heap.size + 1 < wm.heap.size := (by omega); have mwm1 : wm.heap.size ≠ w.heap.size + 1 := (by omega); have pwm1 : w.heap.size + 1 ≠ wm.heap.size := (by omega); have nwm2 : w.heap.size + 1 + 1 < wm.heap.size := (by omega); have mwm2 : wm.heap.size ≠ w.heap.size + 1 + 1 := (by omega); have pwm2 : w.heap.size + 1 + 1 ≠ wm.heap.size := (by omega); (try (refine with_gat2 hwm (w.heap.size + 1 + 1 + 1) (.int .i64 0) (.int .u64 0) ?_ ?_ ?_; (focus (first | assumption | (simp [go_sem]; done))); (focus (first | assumption | (simp [go_sem]; done))); intro ywms0 ywms1)))
    | (go_at_call_of 167 (hiOf D); refine (refWhole D _).mono ?_; rintro e wn ⟨rfl, hwn⟩; have gwn : Grown w wn := gtrans (by first | exact gwm | exact Grown.alloc gwm _ _) hwn; obtain ⟨awn0, awn1⟩ := gat2 hwn (w.heap.size) (.int .i64 (hiOf (A))) (.int .u64 (loOf (A))) (by constructor <;> simp [go_sem, *]); obtain ⟨dwn0, dwn1⟩ := gat2 hwn (w.heap.size + 1) (.int .i64 (hiOf (D))) (.int .u64 (loOf (D))) (by constructor <;> simp [go_sem, *]); obtain ⟨zwn0, zwn1⟩ := gat2 hwn (w.heap.size + 1 + 1) (.int .i64 0) (.int .u64 0) (by constructor <;> simp [go_sem, *]); have lwn := heap_gt zwn0; have nwn0 : w.heap.size < wn.heap.size := (by omega); have mwn0 : wn.heap.size ≠ w.heap.size := (by omega); have pwn0 : w.heap.size ≠ wn.heap.size := (by omega); have nwn1 : w.heap.size + 1 < wn.heap.size := (by omega); have mwn1 : wn.heap.size ≠ w.heap.size + 1 := (by omega); have pwn1 : w.heap.size + 1 ≠ wn.heap.size := (by omega); have nwn2 : w.heap.size + 1 + 1 < wn.heap.size := (by omega); have mwn2 : wn.heap.size ≠ w.heap.size + 1 + 1 := (by omega); have pwn2 : w.heap.size + 1 + 1 ≠ wn.heap.size := (by omega); (try (refine with_gat2 hwn (w.heap.size + 1 + 1 + 1) (.int .i64 0) (.int .u64 0) ?_ ?_ ?_; (focus (first | assumption | (simp [go_sem]; done))); (focus (first | assumption | (simp [go_sem]; done))); intro ywns0 ywns1)); (try (refine with_gat2 hwn wm.heap.size (.int .i64 0) (.int .u64 0) ?_ ?_ ?_; (focus (first | assumption | (simp [go_sem]; done))); (focus (first | assumption | (simp [go_sem]; done))); intro ywn00 ywn01)))
    | (go_at_call 166; refine (unhide RD _).mono ?_; rintro e wa ⟨rfl, hwa⟩; have gwa : Grown w wa := gtrans (by first | exact gwn | exact Grown.alloc gwn _ _) hwa; obtain ⟨awa0, awa1⟩ := gat2 hwa (w.heap.size) (.int .i64 (hiOf (A))) (.int .u64 (loOf (A))) (by constructor <;> simp [go_sem, *]); obtain ⟨dwa0, dwa1⟩ := gat2 hwa (w.heap.size + 1) (.int .i64 (hiOf (D))) (.int .u64 (loOf (D))) (by constructor <;> simp [go_sem, *]); obtain ⟨zwa0, zwa1⟩ := gat2 hwa (w.heap.size + 1 + 1) (.int .i64 0) (.int .u64 0) (by constructor <;> simp [go_sem, *]); have lwa := heap_gt zwa0; have nwa0 : w.heap.size < wa.heap.size := (by omega); have mwa0 : wa.heap.size ≠ w.heap.size := (by omega); have pwa0 : w.heap.size ≠ wa.heap.size := (by omega); have nwa1 : w.heap.size + 1 < wa.heap.size := (by omega); have mwa1 : wa.heap.size ≠ w.heap.size + 1 := (by omega); have pwa1 : w.heap.size + 1 ≠ wa.heap.size := (by omega); have nwa2 : w.heap.size + 1 + 1 < wa.heap.size := (by omega); have mwa2 : wa.heap.size ≠ w.heap.size + 1 + 1 := (by omega); have pwa2 : w.heap.size + 1 + 1 ≠ wa.heap.size := (by omega); (try (refine with_gat2 hwa (w.heap.size + 1 + 1 + 1) (.int .i64 0) (.int .u64 0) ?_ ?_ ?_; (focus (first | assumption | (simp [go_sem]; done))); (focus (first | assumption | (simp [go_sem]; done))); intro ywas0 ywas1)); (try (refine with_gat2 hwa wm.heap.size (.int .i64 0) (.int .u64 0) ?_ ?_ ?_; (focus (first | assumption | (simp [go_sem]; done))); (focus (first | assumption | (simp [go_sem]; done))); intro ywa00 ywa01)); (try (refine with_gat2 hwa wn.heap.size (.int .i64 0) (.int .u64 0) ?_ ?_ ?_; (focus (first | assumption | (simp [go_sem]; done))); (focus (first | assumption | (simp [go_sem]; done))); intro ywa10 ywa11)); have zs := fun o => frz gwa (w.heap.size + 1 + 1 + 1) o (by omega); have zz0 := fun o => frz gwa wm.heap.size o gwm.2.2; have zz1 := fun o => frz gwa wn.heap.size o gwn.2.2))
  all_goals go_wp2_with fail
  all_goals go_meet
  all_goals refine ⟨_, rfl, ⟨?_, ?_⟩, ⟨?_, ?_⟩, ⟨?_, ?_⟩, ⟨?_, ?_⟩, ?_⟩
  all_goals first | (simp [go_sem, *]; done) | exact Grown.alloc gwa _ _ | exact Grown.setCell (Grown.setCell gwa (by dsimp only; omega) _) (by dsimp only; omega) _ | exact Grown.setCell (Grown.setCell gwa gwm.2.2 _) gwm.2.2 _ | exact Grown.setCell (Grown.setCell gwa gwn.2.2 _) gwn.2.2 _
 case rest =>
 obtain ⟨g, rfl, ⟨g20, g21⟩, ⟨a20, a21⟩, ⟨d20, d21⟩, ⟨z20, z21⟩, k2⟩ := hcut
 by_cases s1 : hiOf A < 0 <;> by_cases s2 : hiOf D < 0
 ·have t1 : decide (hiOf A < 0) = true := by simpa using s1
  have t2 : decide (hiOf D < 0) = true := by simpa using s2
  rw [show sg (apartS (hiOf A) (hiOf D)) V = V from by unfold sg apartS; rw [t1, t2]; simp] at HS
  have z30 := z20; have z31 := z21; have k3 := k2
  have f5 := fun o => frz k3 (w.heap.size + 1 + 1) o (by omega)
  clear z20 z21
  go_wp2
  simp [bodyPost, results, Tryz.results170, go_sem, *]
  rw [← unhide HS]
  exact ⟨⟨rfl, rfl⟩, Grown.setCell (Grown.setCell k3 (by dsimp only; omega) _) (by dsimp only; omega) _⟩
 ·have t1 : decide (hiOf A < 0) = true := by simpa using s1
  have t2 : decide (hiOf D < 0) = false := by simpa using s2
  rw [show sg (apartS (hiOf A) (hiOf D)) V = -V from by unfold sg apartS; rw [t1, t2]; simp] at HS
  go_wp2_with fail
  refine (refNegV _ _).mono ?_
  rintro e w3 ⟨rfl, hg3⟩
  obtain ⟨z30, z31⟩ := gat2 hg3 _ _ _ ⟨z20, z21⟩
  have k3 : Grown w w3 := gtrans k2 hg3
  have f5 := fun o => frz k3 (w.heap.size + 1 + 1) o (by omega)
  clear z20 z21
  go_wp2
  simp [bodyPost, results, Tryz.results170, go_sem, *]
  rw [← unhide HS]
  exact ⟨⟨rfl, rfl⟩, Grown.setCell (Grown.setCell k3 (by dsimp only; omega) _) (by dsimp only; omega) _⟩
 ·have t1 : decide (hiOf A < 0) = false := by simpa using s1
  have t2 : decide (hiOf D < 0) = true := by simpa using s2
  rw [show sg (apartS (hiOf A) (hiOf D)) V = -V from by unfold sg apartS; rw [t1, t2]; simp] at HS
  go_wp2_with fail
  refine (refNegV _ _).mono ?_
  rintro e w3 ⟨rfl, hg3⟩
  obtain ⟨z30, z31⟩ := gat2 hg3 _ _ _ ⟨z20, z21⟩
  have k3 : Grown w w3 := gtrans k2 hg3
  have f5 := fun o => frz k3 (w.heap.size + 1 + 1) o (by omega)
  clear z20 z21
  go_wp2
  simp [bodyPost, results, Tryz.results170, go_sem, *]
  rw [← unhide HS]
  exact ⟨⟨rfl, rfl⟩, Grown.setCell (Grown.setCell k3 (by dsimp only; omega) _) (by dsimp only; omega) _⟩
 ·have t1 : decide (hiOf A < 0) = false := by simpa using s1
  have t2 : decide (hiOf D < 0) = false := by simpa using s2
  rw [show sg (apartS (hiOf A) (hiOf D)) V = V from by unfold sg apartS; rw [t1, t2]; simp] at HS
  have z30 := z20; have z31 := z21; have k3 := k2
  have f5 := fun o => frz k3 (w.heap.size + 1 + 1) o (by omega)
  clear z20 z21
  go_wp2
  simp [bodyPost, results, Tryz.results170, go_sem, *]
  rw [← unhide HS]
  exact ⟨⟨rfl, rfl⟩, Grown.setCell (Grown.setCell k3 (by dsimp only; omega) _) (by dsimp only; omega) _⟩
set_option maxHeartbeats 2000000 in
theorem refDiv (A d : Int) (hA : wrapW A = A) (h3 : I64 d) (hd : d ≠ 0) (w : World) :
  Calls Tryz.prog 158 #[.agg #[.int .i64 (hiOf A), .int .u64 (loOf A)], .int .i64 d] w fun e w' => e = .returned (.tuple #[.agg #[.int .i64 (hiOf (rdiv A d)), .int .u64 (loOf (rdiv A d))], .int .i64 0]) ∧ Grown w w' := by
 have QU := hide (fun w => refQuotient A d hA (wrapW_in d (by unfold I64 at h3; omega)) hd w)
 have hd' : (d == 0) = false := by simpa using hd
 clear hA
 go_enter Tryz.func158, Tryz.ntmps158
 go_wp2
 go_region_held3 (fun w' => (w'.cell? ⟨w.heap.size, 0, none⟩ = some (.int .i64 (hiOf (A))) ∧ w'.cell? ⟨w.heap.size, 1, none⟩ = some (.int .u64 (loOf (A)))))
  (simp [go_sem, *])
  (first
   | (go_at_call 149; refine (refOf d h3 _).mono ?_; rintro e w1 ⟨rfl, hg1⟩; obtain ⟨a10, a11⟩ := gat2 hg1 w.heap.size (.int .i64 (hiOf A)) (.int .u64 (loOf A)) (by constructor <;> simp [go_sem, *]); obtain ⟨z10, z11⟩ := gat2 hg1 (w.heap.size + 1) (.int .i64 0) (.int .u64 0) (by constructor <;> simp [go_sem, *]); have k1 : Grown w w1 := gtrans (by exact Grown.drew (((Grown.refl _).alloc _ _).alloc _ _)) hg1)
   | (go_at_call 170; refine (unhide QU _).mono ?_; rintro e w2 ⟨rfl, hg2⟩; obtain ⟨a20, a21⟩ := gat2 hg2 w.heap.size (.int .i64 (hiOf A)) (.int .u64 (loOf A)) (by constructor <;> simp [go_sem, *]); obtain ⟨z20, z21⟩ := gat2 hg2 (w.heap.size + 1) (.int .i64 0) (.int .u64 0) (by constructor <;> simp [go_sem, *]); have k2 : Grown w w2 := gtrans k1 hg2; have f2 := fun o => frz k2 (w.heap.size + 1) o (by omega)))
 go_wp2
 simp [bodyPost, results, Tryz.results158, go_sem, *]
 exact Grown.setCell (Grown.setCell k2 (by dsimp only; omega) _) (by dsimp only; omega) _
end Go.Proofs.YtjobgjcfkomhpaaGreat
namespace Go.Proofs.YtjobgjcfkomhpaaGreat
open Go.RowKit Go.Proofs.Wd
set_option maxRecDepth 10000
def mulTo (a b : Int) (k : Nat) : Int := if 64 ≤ k then 0 else a * (b / 2 ^ k)
theorem mulTo_zero (a b : Int) : mulTo a b 0 = a * b := by unfold mulTo; simp
theorem half_pow (b : Int) (k : Nat) : b / 2 ^ k = 2 * (b / 2 ^ (k + 1)) + b / 2 ^ k % 2 := by
 have e : b / 2 ^ (k + 1) = b / 2 ^ k / 2 := by rw [Int.ediv_ediv_of_nonneg (Int.le_of_lt (pow2_pos k))]; rw [Int.pow_succ]
 rw [e]; omega
theorem mulTo_top_yes (a b : Int) (h : I64 b) (hb : b / 2 ^ 63 % 2 = 1) : mulTo a b 63 = -a := by
 unfold mulTo; rw [if_neg (by omega)]
 unfold I64 at h
 rw [show b / 2 ^ 63 = -1 from by omega]; omega
theorem mulTo_top_no (a b : Int) (h : I64 b) (hb : ¬ b / 2 ^ 63 % 2 = 1) : mulTo a b 63 = 0 := by
 unfold mulTo; rw [if_neg (by omega)]
 unfold I64 at h
 rw [show b / 2 ^ 63 = 0 from by omega]; omega
theorem mulTo_yes (a b : Int) (k : Nat) (h : k < 63) (hb : b / 2 ^ k % 2 = 1) : mulTo a b k = 2 * mulTo a b (k + 1) + one false + a := by
 unfold mulTo; rw [if_neg (by omega), if_neg (by omega)]
 have := half_pow b k
 rw [hb] at this
 rw [this]; unfold one; simp; grind
theorem mulTo_no (a b : Int) (k : Nat) (h : k < 63) (hb : ¬ b / 2 ^ k % 2 = 1) : mulTo a b k = 2 * mulTo a b (k + 1) + one false := by
 unfold mulTo; rw [if_neg (by omega), if_neg (by omega)]
 have := half_pow b k
 rw [show b / 2 ^ k % 2 = 0 from by omega] at this
 rw [this]; unfold one; simp; grind
theorem mulTo_off (a b : Int) (k : Nat) (hk : k < 64) (h : I64 b) (hb : ¬ b / 2 ^ k % 2 = 1) : mulTo a b k = 2 * mulTo a b (k + 1) + one false := by
 by_cases e : k < 63
 ·exact mulTo_no a b k e hb
 ·obtain rfl : k = 63 := by omega
  rw [mulTo_top_no a b h hb]; unfold mulTo one; simp
set_option maxHeartbeats 2000000 in
theorem refMul (a b : Int) (h1 : I64 a) (h2 : I64 b) (w : World) :
  Calls Tryz.prog 118 #[.int .i64 a, .int .i64 b] w fun e w' => e = .returned (.agg #[.int .i64 (hiOf (a * b)), .int .u64 (loOf (a * b))]) ∧ Grown w w' := by
 go_enter Tryz.func118, Tryz.ntmps118
 go_wp2_with fail
 refine (refOf a h1 _).mono ?_
 rintro e w1 ⟨rfl, hg1⟩
 go_wp2_with fail
 refine (refOf b h2 _).mono ?_
 rintro e w2 ⟨rfl, hg2⟩
 obtain ⟨r0, r1⟩ := gat2 (gtrans hg1 hg2) w.heap.size (.int .i64 0) (.int .u64 0) (by constructor <;> simp [go_sem])
 have hgw2 : Grown w w2 := gtrans ((Grown.refl _).alloc _ _) (gtrans hg1 hg2)
 clear hg1 hg2
 have l0 := heap_gt r0
 go_wp2
 have u0 : hiOf (mulTo a b 64) = 0 := by unfold mulTo; simp; decide
 have u1 : loOf (mulTo a b 64) = 0 := by unfold mulTo; simp; decide
 have U0 := hide u0; have U1 := hide u1
 clear u0 u1
 go_loopw [8] (fun i wr => ∃ k : Nat, k ≤ 64 ∧ i = .int .i64 ((k : Int) - 1) ∧ (wr.cell? ⟨w.heap.size, 0, none⟩ = some (.int .i64 0) ∧ wr.cell? ⟨w.heap.size, 1, none⟩ = some (.int .u64 0)) ∧ (wr.cell? ⟨w2.heap.size, 0, none⟩ = some (.int .i64 (hiOf a)) ∧ wr.cell? ⟨w2.heap.size, 1, none⟩ = some (.int .u64 (loOf a))) ∧ (wr.cell? ⟨w2.heap.size + 1, 0, none⟩ = some (.int .i64 (hiOf b)) ∧ wr.cell? ⟨w2.heap.size + 1, 1, none⟩ = some (.int .u64 (loOf b))) ∧ (wr.cell? ⟨w2.heap.size + 1 + 1, 0, none⟩ = some (.int .i64 (hiOf (mulTo a b k))) ∧ wr.cell? ⟨w2.heap.size + 1 + 1, 1, none⟩ = some (.int .u64 (loOf (mulTo a b k)))) ∧ Grown w wr) (fun i _ => (intOf i + 1).toNat)
 case atStart =>
  refine ⟨64, by omega, rfl, gat2 ((((Grown.refl w2).alloc _ _).alloc _ _).alloc _ _) _ _ _ ⟨r0, r1⟩, ⟨by simp [go_sem], by simp [go_sem]⟩, ⟨by simp [go_sem], by simp [go_sem]⟩, ⟨?_, ?_⟩, ((hgw2.alloc _ _).alloc _ _).alloc _ _⟩
  ·rw [unhide U0]; simp [go_sem]
  ·rw [unhide U1]; simp [go_sem]
 case round =>
  obtain ⟨k, hk, rfl, ⟨r0, r1⟩, ⟨x0, x1⟩, ⟨y0, y1⟩, ⟨o0, o1⟩, hgr⟩ := hrel
  have lw : w.heap.size ≤ w2.heap.size := hgw2.2.2
  have m0 : w.heap.size ≠ w2.heap.size + 1 + 1 := by omega
  have m1 : w2.heap.size + 1 + 1 ≠ w.heap.size := by omega
  by_cases hk0 : k = 0
  ·subst hk0
   rw [mulTo_zero] at o0 o1
   have f0 := fun o => frz hgr w.heap.size o (by omega)
   go_wp2
   simp [bodyPost, results, Tryz.results118, go_sem, *]
   exact Grown.setCell (Grown.setCell hgr (by dsimp only; omega) _) (by dsimp only; omega) _
  ·obtain ⟨j, rfl⟩ : ∃ j, k = j + 1 := ⟨k - 1, by omega⟩
   rw [show ((j + 1 : Nat) : Int) - 1 = (j : Int) from by omega]
   have BT := hide (fun w => refBit b j (by omega) (by omega) w)
   rw [Int.toNat_natCast] at BT
   clear hk0 U0 U1
   by_cases hb : b / 2 ^ j % 2 = 1
   ·rw [show decide (b / 2 ^ j % 2 = 1) = true from by simpa using hb] at BT
    by_cases h63 : j = 63
    ·have HV := hide (mulTo_top_yes a b h2 (by rw [← h63]; exact hb))
     subst h63
     clear hb
     go_wp2_with fail
     refine (refTwice _ false _).mono ?_
     rintro e w3 ⟨rfl, hg3⟩
     obtain ⟨r30, r31⟩ := gat2 hg3 (w.heap.size) (.int .i64 0) (.int .u64 0) (by constructor <;> simp [go_sem, *])
     obtain ⟨x30, x31⟩ := gat2 hg3 (w2.heap.size) (.int .i64 (hiOf a)) (.int .u64 (loOf a)) (by constructor <;> simp [go_sem, *])
     obtain ⟨y30, y31⟩ := gat2 hg3 (w2.heap.size + 1) (.int .i64 (hiOf b)) (.int .u64 (loOf b)) (by constructor <;> simp [go_sem, *])
     obtain ⟨o30, o31⟩ := gat2 hg3 (w2.heap.size + 1 + 1) _ _ ⟨o0, o1⟩
     have hgw3 : Grown w w3 := gtrans hgr hg3
     have f3 := fun o => frz hgw3 (w2.heap.size + 1 + 1) o (by have := hgw2.2.2; omega)
     clear hg3 r0 r1 x0 x1 y0 y1 o0 o1 hgr
     go_wp2_with fail
     refine (unhide BT _).mono ?_
     rintro e w4 ⟨rfl, hg4⟩
     obtain ⟨r40, r41⟩ := gat2 hg4 (w.heap.size) (.int .i64 0) (.int .u64 0) (by constructor <;> simp [go_sem, *])
     obtain ⟨x40, x41⟩ := gat2 hg4 (w2.heap.size) (.int .i64 (hiOf a)) (.int .u64 (loOf a)) (by constructor <;> simp [go_sem, *])
     obtain ⟨y40, y41⟩ := gat2 hg4 (w2.heap.size + 1) (.int .i64 (hiOf b)) (.int .u64 (loOf b)) (by constructor <;> simp [go_sem, *])
     obtain ⟨o40, o41⟩ := gat2 hg4 (w2.heap.size + 1 + 1) (.int .i64 (hiOf (2 * mulTo a b (63 + 1) + one false))) (.int .u64 (loOf (2 * mulTo a b (63 + 1) + one false))) (by constructor <;> simp [go_sem, *])
     have hgw4 : Grown w w4 := gtrans (Grown.setCell (Grown.setCell hgw3 (by dsimp only; have := hgw2.2.2; omega) _) (by dsimp only; have := hgw2.2.2; omega) _) hg4
     have f4 := fun o => frz hgw4 (w2.heap.size + 1 + 1) o (by have := hgw2.2.2; omega)
     clear hg4 r30 r31 x30 x31 y30 y31 o30 o31 hgw3 f3
     go_wp2_with fail
     refine (refNegV _ _).mono ?_
     rintro e w5 ⟨rfl, hg5⟩
     obtain ⟨r50, r51⟩ := gat2 hg5 _ _ _ ⟨r40, r41⟩
     obtain ⟨x50, x51⟩ := gat2 hg5 _ _ _ ⟨x40, x41⟩
     obtain ⟨y50, y51⟩ := gat2 hg5 _ _ _ ⟨y40, y41⟩
     obtain ⟨o50, o51⟩ := gat2 hg5 _ _ _ ⟨o40, o41⟩
     have hgw5 : Grown w w5 := gtrans hgw4 hg5
     have f5 := fun o => frz hgw5 (w2.heap.size + 1 + 1) o (by omega)
     clear hg5 r40 r41 x40 x41 y40 y41 o40 o41 hgw4 f4
     go_wp2
     go_roundw
     case rel =>
      refine ⟨63, by omega, by go_num, ⟨by simp [go_sem, *], by simp [go_sem, *]⟩, ⟨by simp [go_sem, *], by simp [go_sem, *]⟩, ⟨by simp [go_sem, *], by simp [go_sem, *]⟩, ?_, Grown.setCell (Grown.setCell hgw5 (by dsimp only; omega) _) (by dsimp only; omega) _⟩
      rw [unhide HV]; constructor <;> simp [go_sem, *]
     case measure => simp [intOf]
    ·have HV := hide (mulTo_yes a b j (by omega) hb)
     have h63' : ((j : Int) == 63) = false := by rw [beq_eq_false_iff_ne]; omega
     clear hb
     go_wp2_with fail
     refine (refTwice _ false _).mono ?_
     rintro e w3 ⟨rfl, hg3⟩
     obtain ⟨r30, r31⟩ := gat2 hg3 (w.heap.size) (.int .i64 0) (.int .u64 0) (by constructor <;> simp [go_sem, *])
     obtain ⟨x30, x31⟩ := gat2 hg3 (w2.heap.size) (.int .i64 (hiOf a)) (.int .u64 (loOf a)) (by constructor <;> simp [go_sem, *])
     obtain ⟨y30, y31⟩ := gat2 hg3 (w2.heap.size + 1) (.int .i64 (hiOf b)) (.int .u64 (loOf b)) (by constructor <;> simp [go_sem, *])
     obtain ⟨o30, o31⟩ := gat2 hg3 (w2.heap.size + 1 + 1) _ _ ⟨o0, o1⟩
     have hgw3 : Grown w w3 := gtrans hgr hg3
     have f3 := fun o => frz hgw3 (w2.heap.size + 1 + 1) o (by have := hgw2.2.2; omega)
     clear hg3 r0 r1 x0 x1 y0 y1 o0 o1 hgr
     go_wp2_with fail
     refine (unhide BT _).mono ?_
     rintro e w4 ⟨rfl, hg4⟩
     obtain ⟨r40, r41⟩ := gat2 hg4 (w.heap.size) (.int .i64 0) (.int .u64 0) (by constructor <;> simp [go_sem, *])
     obtain ⟨x40, x41⟩ := gat2 hg4 (w2.heap.size) (.int .i64 (hiOf a)) (.int .u64 (loOf a)) (by constructor <;> simp [go_sem, *])
     obtain ⟨y40, y41⟩ := gat2 hg4 (w2.heap.size + 1) (.int .i64 (hiOf b)) (.int .u64 (loOf b)) (by constructor <;> simp [go_sem, *])
     obtain ⟨o40, o41⟩ := gat2 hg4 (w2.heap.size + 1 + 1) (.int .i64 (hiOf (2 * mulTo a b (j + 1) + one false))) (.int .u64 (loOf (2 * mulTo a b (j + 1) + one false))) (by constructor <;> simp [go_sem, *])
     have hgw4 : Grown w w4 := gtrans (Grown.setCell (Grown.setCell hgw3 (by dsimp only; have := hgw2.2.2; omega) _) (by dsimp only; have := hgw2.2.2; omega) _) hg4
     have f4 := fun o => frz hgw4 (w2.heap.size + 1 + 1) o (by have := hgw2.2.2; omega)
     clear hg4 r30 r31 x30 x31 y30 y31 o30 o31 hgw3 f3
     go_wp2_with fail
     refine (refAddV _ _ _).mono ?_
     rintro e w5 ⟨rfl, hg5⟩
     obtain ⟨r50, r51⟩ := gat2 hg5 _ _ _ ⟨r40, r41⟩
     obtain ⟨x50, x51⟩ := gat2 hg5 _ _ _ ⟨x40, x41⟩
     obtain ⟨y50, y51⟩ := gat2 hg5 _ _ _ ⟨y40, y41⟩
     obtain ⟨o50, o51⟩ := gat2 hg5 _ _ _ ⟨o40, o41⟩
     have hgw5 : Grown w w5 := gtrans hgw4 hg5
     have f5 := fun o => frz hgw5 (w2.heap.size + 1 + 1) o (by omega)
     clear hg5 r40 r41 x40 x41 y40 y41 o40 o41 hgw4 f4
     go_wp2
     go_roundw
     case rel =>
      refine ⟨j, by omega, by go_num, ⟨by simp [go_sem, *], by simp [go_sem, *]⟩, ⟨by simp [go_sem, *], by simp [go_sem, *]⟩, ⟨by simp [go_sem, *], by simp [go_sem, *]⟩, ?_, Grown.setCell (Grown.setCell hgw5 (by dsimp only; omega) _) (by dsimp only; omega) _⟩
      rw [unhide HV]; constructor <;> simp [go_sem, *]
     case measure => simp [intOf]
   ·rw [show decide (b / 2 ^ j % 2 = 1) = false from by simpa using hb] at BT
    have HV := hide (mulTo_off a b j (by omega) h2 hb)
    clear hb
    go_wp2_with fail
    refine (refTwice _ false _).mono ?_
    rintro e w3 ⟨rfl, hg3⟩
    obtain ⟨r30, r31⟩ := gat2 hg3 (w.heap.size) (.int .i64 0) (.int .u64 0) (by constructor <;> simp [go_sem, *])
    obtain ⟨x30, x31⟩ := gat2 hg3 (w2.heap.size) (.int .i64 (hiOf a)) (.int .u64 (loOf a)) (by constructor <;> simp [go_sem, *])
    obtain ⟨y30, y31⟩ := gat2 hg3 (w2.heap.size + 1) (.int .i64 (hiOf b)) (.int .u64 (loOf b)) (by constructor <;> simp [go_sem, *])
    obtain ⟨o30, o31⟩ := gat2 hg3 (w2.heap.size + 1 + 1) _ _ ⟨o0, o1⟩
    have hgw3 : Grown w w3 := gtrans hgr hg3
    have f3 := fun o => frz hgw3 (w2.heap.size + 1 + 1) o (by have := hgw2.2.2; omega)
    clear hg3 r0 r1 x0 x1 y0 y1 o0 o1 hgr
    go_wp2_with fail
    refine (unhide BT _).mono ?_
    rintro e w4 ⟨rfl, hg4⟩
    obtain ⟨r40, r41⟩ := gat2 hg4 (w.heap.size) (.int .i64 0) (.int .u64 0) (by constructor <;> simp [go_sem, *])
    obtain ⟨x40, x41⟩ := gat2 hg4 (w2.heap.size) (.int .i64 (hiOf a)) (.int .u64 (loOf a)) (by constructor <;> simp [go_sem, *])
    obtain ⟨y40, y41⟩ := gat2 hg4 (w2.heap.size + 1) (.int .i64 (hiOf b)) (.int .u64 (loOf b)) (by constructor <;> simp [go_sem, *])
    obtain ⟨o40, o41⟩ := gat2 hg4 (w2.heap.size + 1 + 1) (.int .i64 (hiOf (2 * mulTo a b (j + 1) + one false))) (.int .u64 (loOf (2 * mulTo a b (j + 1) + one false))) (by constructor <;> simp [go_sem, *])
    have hgw4 : Grown w w4 := gtrans (Grown.setCell (Grown.setCell hgw3 (by dsimp only; have := hgw2.2.2; omega) _) (by dsimp only; have := hgw2.2.2; omega) _) hg4
    have f4 := fun o => frz hgw4 (w2.heap.size + 1 + 1) o (by have := hgw2.2.2; omega)
    clear hg4 r30 r31 x30 x31 y30 y31 o30 o31 hgw3 f3
    go_wp2
    go_roundw
    case rel =>
     refine ⟨j, by omega, by go_num, ⟨r40, r41⟩, ⟨x40, x41⟩, ⟨y40, y41⟩, ?_, hgw4⟩
     rw [unhide HV]; exact ⟨o40, o41⟩
    case measure => simp [intOf]
end Go.Proofs.YtjobgjcfkomhpaaGreat
namespace Go.Proofs.YtjobgjcfkomhpaaGreat
open Go.RowKit Go.Proofs.Wd
set_option maxRecDepth 10000
attribute [local go_sem ↓] Go.wp_at_zero Go.wp_at_succ
theorem in_wideR (v : Int) (h : -39614081257132168796771975168 ≤ v ∧ v ≤ 39614081257132168796771975168) : wrapW v = v := wrapW_in _ (by omega)
set_option maxHeartbeats 400000 in
theorem refTaken (a : Int) (h : I64 a) (w : World) :
  Calls Tryz.prog 145 #[.int .i64 a] w fun e w' => e = .returned (.tuple #[.int .i64 (tk a), .bool (nb a)]) ∧ Grown w w' := by
 by_cases hs : a = -9223372036854775808
 ·rw [show tk a = -9223372036854775807 from by unfold tk; rw [if_pos hs], show nb a = true from by unfold nb; simp [hs]]
  go_enter Tryz.func145, Tryz.ntmps145
  go_wp2
  go_ret2
  exact ⟨rfl, Grown.refl _⟩
 ·rw [show tk a = a from by unfold tk; rw [if_neg hs], show nb a = false from by unfold nb; simp [hs]]
  have hs' : ¬ a < -9223372036854775807 := by unfold I64 at h; omega
  clear hs
  go_enter Tryz.func145, Tryz.ntmps145
  go_wp2
  go_ret2
  exact ⟨rfl, Grown.refl _⟩
set_option maxHeartbeats 400000 in
theorem refFits (A : Int) (c : Bool) (hA : wrapW A = A) (w : World) :
  Calls Tryz.prog 147 #[.agg #[.int .i64 (hiOf A), .int .u64 (loOf A)], .bool c] w fun e w' => e = .returned (.tuple #[.int .i64 (fitI A), .bool (fitB A || c)]) ∧ Grown w w' := by
 have R := hide (fun w => refFit (hiOf A) (loOf A) (hiOf_I64 _) (loOf_U64 _) w)
 rw [val_of, hA] at R
 clear hA
 generalize fitI A = u at *
 generalize fitB A = v at *
 go_enter Tryz.func147, Tryz.ntmps147
 go_wp2_with fail
 refine (unhide R _).mono ?_
 rintro e w1 ⟨rfl, hg⟩
 have k1 : Grown w w1 := gtrans ((Grown.refl _).alloc _ _) hg
 clear hg
 cases v <;> cases c <;> (go_wp2; go_ret2; exact ⟨rfl, k1⟩)
set_option maxHeartbeats 1000000 in
theorem refSum2 (a b n V : Int) (ha : I64 a) (hb : I64 b) (h3 : 0 ≤ n) (h4 : n ≤ 127) (hV : rdiv (tk a + tk b) (2 ^ n.toNat) = V) (hW : wrapW V = V) (w : World) :
  Calls Tryz.prog 179 #[.int .i64 a, .int .i64 b, .int .i64 n] w fun e w' => e = .returned (.tuple #[.int .i64 (fitI V), .bool (cutB V a b)]) ∧ Grown w w' := by
 have T1 := hide (fun w => refTaken a ha w)
 have T2 := hide (fun w => refTaken b hb w)
 have O1 := hide (fun w => refOf (tk a) (tk_I64 a ha) w)
 have O2 := hide (fun w => refOf (tk b) (tk_I64 b hb) w)
 have A1 := hide (fun w => refAddV (tk a) (tk b) w)
 have h1 := tk_Fx a ha; have h2 := tk_Fx b hb
 have R1 := hide (fun w => refRound (tk a + tk b) n (in_wideR _ (by unfold Fx at h1 h2; omega)) h3 h4 w)
 rw [hV] at R1
 have K1 := hide (fun w => refFits V (nb a || nb b) hW w)
 rw [show cutB V a b = (fitB V || (nb a || nb b)) from by unfold cutB; rw [Bool.or_assoc]]
 clear h1 h2 ha hb h3 h4 hV hW
 generalize tk a = x at *
 generalize tk b = y at *
 generalize nb a = p at *
 generalize nb b = q at *
 generalize x + y = s at *
 obtain ⟨u, hu⟩ : ∃ u, fitI V = u := ⟨_, rfl⟩
 obtain ⟨v, hv⟩ : ∃ v, (fitB V || (p || q)) = v := ⟨_, rfl⟩
 rw [hu, hv] at K1 ⊢
 clear hu hv
 go_enter Tryz.func179, Tryz.ntmps179
 go_wp2_with fail
 refine (unhide T1 _).mono ?_
 rintro e w1 ⟨rfl, g1⟩
 go_wp2_with fail
 refine (unhide T2 _).mono ?_
 rintro e w2 ⟨rfl, hg2⟩
 have g2 := gtrans g1 hg2
 clear g1 hg2
 go_wp2_with fail
 refine (unhide O1 _).mono ?_
 rintro e w3 ⟨rfl, hg3⟩
 have g3 := gtrans g2 hg3
 clear g2 hg3
 go_wp2_with fail
 refine (unhide O2 _).mono ?_
 rintro e w4 ⟨rfl, hg4⟩
 have g4 := gtrans g3 hg4
 clear g3 hg4
 go_wp2_with fail
 refine (unhide A1 _).mono ?_
 rintro e w5 ⟨rfl, hg5⟩
 have g5 := gtrans g4 hg5
 clear g4 hg5
 go_wp2_with fail
 refine (unhide R1 _).mono ?_
 rintro e w6 ⟨rfl, hg6⟩
 have g6 := gtrans g5 hg6
 clear g5 hg6
 cases p <;> cases q <;> (go_wp2_with fail; refine (unhide K1 _).mono ?_; rintro e w7 ⟨rfl, hg7⟩; have g7 := gtrans (g6.alloc _ _) hg7; go_wp2; go_ret2; exact ⟨rfl, g7⟩)
theorem rawq_one (m : Int) : rawq m 1 = m := by
 unfold rawq; rw [Int.emod_one, Int.ediv_one, if_neg (by omega)]
theorem rdiv_one (v : Int) : rdiv v 1 = v := by
 unfold rdiv
 rw [show (((1 : Int).natAbs : Nat) : Int) = 1 from rfl, rawq_one]
 by_cases h : v < 0
 ·rw [if_pos (by simp [h])]; omega
 ·rw [if_neg (by simp [h])]; omega
set_option maxHeartbeats 400000 in
theorem refAdd2 (a b : Int) (ha : I64 a) (hb : I64 b) (w : World) :
  Calls Tryz.prog 169 #[.int .i64 a, .int .i64 b] w fun e w' => e = .returned (.tuple #[.int .i64 (fitI (tk a + tk b)), .bool (cutB (tk a + tk b) a b)]) ∧ Grown w w' := by
 have h1 := tk_Fx a ha; have h2 := tk_Fx b hb
 have R := hide (fun w => refSum2 a b 0 (tk a + tk b) ha hb (by omega) (by omega) (by rw [show (2 : Int) ^ (0 : Int).toNat = 1 from by decide]; exact rdiv_one _) (in_wideR _ (by unfold Fx at h1 h2; omega)) w)
 clear h1 h2 ha hb
 generalize fitI (tk a + tk b) = u at *
 generalize cutB (tk a + tk b) a b = v at *
 go_enter Tryz.func169, Tryz.ntmps169
 go_wp2_with fail
 refine (unhide R _).mono ?_
 rintro e w1 ⟨rfl, hg⟩
 go_wp2
 go_ret2
 exact ⟨rfl, hg⟩
set_option maxHeartbeats 1000000 in
theorem refMul2 (a b : Int) (ha : I64 a) (hb : I64 b) (w : World) :
  Calls Tryz.prog 116 #[.int .i64 a, .int .i64 b] w fun e w' => e = .returned (.tuple #[.int .i64 (fitI (rdiv (tk a * tk b) 4294967296)), .bool (cutB (rdiv (tk a * tk b) 4294967296) a b)]) ∧ Grown w w' := by
 have T1 := hide (fun w => refTaken a ha w)
 have T2 := hide (fun w => refTaken b hb w)
 have M1 := hide (fun w => refMul (tk a) (tk b) (tk_I64 a ha) (tk_I64 b hb) w)
 have h1 := tk_Fx a ha; have h2 := tk_Fx b hb
 have R1 := hide (fun w => refRound (tk a * tk b) 32 (wrapW_prod _ _ h1 h2) (by omega) (by omega) w)
 rw [show (2 : Int) ^ (32 : Int).toNat = 4294967296 from by decide] at R1
 have h0 := prod_range _ _ h1 h2
 have h3 := rdiv_abs (tk a * tk b) 4294967296 85070591730234615847396907784232501249 (by omega) h0
 have K1 := hide (fun w => refFits (rdiv (tk a * tk b) 4294967296) (nb a || nb b) (wrapW_in _ (by omega)) w)
 rw [show cutB (rdiv (tk a * tk b) 4294967296) a b = (fitB (rdiv (tk a * tk b) 4294967296) || (nb a || nb b)) from by unfold cutB; rw [Bool.or_assoc]]
 clear h0 h1 h2 h3 ha hb
 generalize rdiv (tk a * tk b) 4294967296 = V at *
 generalize tk a * tk b = s at *
 generalize tk a = x at *
 generalize tk b = y at *
 generalize nb a = p at *
 generalize nb b = q at *
 obtain ⟨u, hu⟩ : ∃ u, fitI V = u := ⟨_, rfl⟩
 obtain ⟨v, hv⟩ : ∃ v, (fitB V || (p || q)) = v := ⟨_, rfl⟩
 rw [hu, hv] at K1 ⊢
 clear hu hv
 go_enter Tryz.func116, Tryz.ntmps116
 go_wp2_with fail
 refine (unhide T1 _).mono ?_
 rintro e w1 ⟨rfl, g1⟩
 go_wp2_with fail
 refine (unhide T2 _).mono ?_
 rintro e w2 ⟨rfl, hg2⟩
 have g2 := gtrans g1 hg2
 clear g1 hg2
 go_wp2_with fail
 refine (unhide M1 _).mono ?_
 rintro e w5 ⟨rfl, hg5⟩
 have g5 := gtrans g2 hg5
 clear g2 hg5
 go_wp2_with fail
 refine (unhide R1 _).mono ?_
 rintro e w6 ⟨rfl, hg6⟩
 have g6 := gtrans g5 hg6
 clear g5 hg6
 cases p <;> cases q <;> (go_wp2_with fail; refine (unhide K1 _).mono ?_; rintro e w7 ⟨rfl, hg7⟩; have g7 := gtrans (g6.alloc _ _) hg7; go_wp2; go_ret2; exact ⟨rfl, g7⟩)
set_option maxHeartbeats 400000 in
theorem refWhole2 (n : Int) (hn : I64 n) (w : World) :
  Calls Tryz.prog 77 #[.int .i64 n] w fun e w' => e = .returned (.tuple #[.int .i64 (fitI (n * 4294967296)), .bool (fitB (n * 4294967296))]) ∧ Grown w w' := by
 have M := hide (fun w => refMul n 4294967296 hn (by unfold I64; omega) w)
 have K := hide (fun w => refFit (hiOf (n * 4294967296)) (loOf (n * 4294967296)) (hiOf_I64 _) (loOf_U64 _) w)
 rw [val_of, in_wideR (n * 4294967296) (by unfold I64 at hn; omega)] at K
 go_enter Tryz.func77, Tryz.ntmps77
 go_wp2_with fail
 refine (unhide M _).mono ?_
 rintro e w1 ⟨rfl, hg1⟩
 go_wp2_with fail
 refine (unhide K _).mono ?_
 rintro e w2 ⟨rfl, hg2⟩
 go_wp2
 go_ret2
 exact ⟨rfl, gtrans hg1 hg2⟩
theorem tk_zero (b : Int) : tk b = 0 ↔ b = 0 := by unfold tk; split <;> omega
set_option maxHeartbeats 1000000 in
theorem refDiv2_zero (a x V : Int) (p : Bool) (hV : (x < 0 ∧ V = -9223372036854775807) ∨ (x = 0 ∧ V = 0) ∨ (0 < x ∧ V = 9223372036854775807))
  (T1 : Hid (∀ w, Calls Tryz.prog 145 #[.int .i64 a] w fun e w' => e = .returned (.tuple #[.int .i64 x, .bool p]) ∧ Grown w w'))
  (T2 : Hid (∀ w, Calls Tryz.prog 145 #[.int .i64 0] w fun e w' => e = .returned (.tuple #[.int .i64 0, .bool false]) ∧ Grown w w')) (w : World) :
  Calls Tryz.prog 131 #[.int .i64 a, .int .i64 0] w fun e w' => e = .returned (.tuple #[.int .i64 V, .bool true]) ∧ Grown w w' := by
 rcases hV with ⟨h, rfl⟩ | ⟨rfl, rfl⟩ | ⟨h, rfl⟩
 ·have h' : (x == 0) = false := by simp; omega
  go_enter Tryz.func131, Tryz.ntmps131
  go_wp2_with fail
  refine (unhide T1 _).mono ?_
  rintro e w1 ⟨rfl, g1⟩
  go_wp2_with fail
  refine (unhide T2 _).mono ?_
  rintro e w2 ⟨rfl, hg2⟩
  go_wp2
  go_ret2
  exact ⟨rfl, gtrans g1 hg2⟩
 ·go_enter Tryz.func131, Tryz.ntmps131
  go_wp2_with fail
  refine (unhide T1 _).mono ?_
  rintro e w1 ⟨rfl, g1⟩
  go_wp2_with fail
  refine (unhide T2 _).mono ?_
  rintro e w2 ⟨rfl, hg2⟩
  go_wp2
  go_ret2
  exact ⟨rfl, gtrans g1 hg2⟩
 ·have h' : (x == 0) = false := by simp; omega
  have h'' : ¬ x < 0 := by omega
  go_enter Tryz.func131, Tryz.ntmps131
  go_wp2_with fail
  refine (unhide T1 _).mono ?_
  rintro e w1 ⟨rfl, g1⟩
  go_wp2_with fail
  refine (unhide T2 _).mono ?_
  rintro e w2 ⟨rfl, hg2⟩
  go_wp2
  go_ret2
  exact ⟨rfl, gtrans g1 hg2⟩
set_option maxHeartbeats 1000000 in
theorem refDiv2_core (a b x y P V u : Int) (p q v : Bool) (hy : (y == 0) = false)
  (T1 : Hid (∀ w, Calls Tryz.prog 145 #[.int .i64 a] w fun e w' => e = .returned (.tuple #[.int .i64 x, .bool p]) ∧ Grown w w'))
  (T2 : Hid (∀ w, Calls Tryz.prog 145 #[.int .i64 b] w fun e w' => e = .returned (.tuple #[.int .i64 y, .bool q]) ∧ Grown w w'))
  (M1 : Hid (∀ w, Calls Tryz.prog 118 #[.int .i64 x, .int .i64 4294967296] w fun e w' => e = .returned (.agg #[.int .i64 (hiOf P), .int .u64 (loOf P)]) ∧ Grown w w'))
  (R1 : Hid (∀ w, Calls Tryz.prog 158 #[.agg #[.int .i64 (hiOf P), .int .u64 (loOf P)], .int .i64 y] w fun e w' => e = .returned (.tuple #[.agg #[.int .i64 (hiOf V), .int .u64 (loOf V)], .int .i64 0]) ∧ Grown w w'))
  (K1 : Hid (∀ w, Calls Tryz.prog 147 #[.agg #[.int .i64 (hiOf V), .int .u64 (loOf V)], .bool (p || q)] w fun e w' => e = .returned (.tuple #[.int .i64 u, .bool v]) ∧ Grown w w')) (w : World) :
  Calls Tryz.prog 131 #[.int .i64 a, .int .i64 b] w fun e w' => e = .returned (.tuple #[.int .i64 u, .bool v]) ∧ Grown w w' := by
 go_enter Tryz.func131, Tryz.ntmps131
 go_wp2_with fail
 refine (unhide T1 _).mono ?_
 rintro e w1 ⟨rfl, g1⟩
 go_wp2_with fail
 refine (unhide T2 _).mono ?_
 rintro e w2 ⟨rfl, hg2⟩
 have g2 := gtrans g1 hg2
 clear g1 hg2
 go_wp2_with fail
 refine (unhide M1 _).mono ?_
 rintro e w5 ⟨rfl, hg5⟩
 have g5 := gtrans g2 hg5
 clear g2 hg5
 go_wp2_with fail
 refine (unhide R1 _).mono ?_
 rintro e w6 ⟨rfl, hg6⟩
 have g6 := gtrans g5 hg6
 clear g5 hg6
 cases p <;> cases q <;> (go_wp2_with fail; refine (unhide K1 _).mono ?_; rintro e w7 ⟨rfl, hg7⟩; have g7 := gtrans (g6.alloc _ _) hg7; go_wp2; go_ret2; exact ⟨rfl, g7⟩)
theorem refDiv2 (a b : Int) (ha : I64 a) (hb : I64 b) (w : World) :
  Calls Tryz.prog 131 #[.int .i64 a, .int .i64 b] w fun e w' => e = .returned (.tuple #[.int .i64 (fitI (quoR (tk a) (tk b))), .bool (cutB (quoR (tk a) (tk b)) a b || decide (b = 0))]) ∧ Grown w w' := by
 by_cases hz : b = 0
 ·subst hz
  have T2 := hide (fun w => refTaken 0 hb w)
  rw [show tk 0 = 0 from by decide, show nb 0 = false from by decide] at T2
  rw [show (cutB (quoR (tk a) (tk 0)) a 0 || decide ((0 : Int) = 0)) = true from by simp]
  refine refDiv2_zero a (tk a) _ (nb a) ?_ (hide fun w => refTaken a ha w) T2 w
  rw [show tk 0 = 0 from by decide]
  rcases (show tk a < 0 ∨ tk a = 0 ∨ 0 < tk a from by omega) with hs | hs | hs
  ·exact Or.inl ⟨hs, by unfold quoR; rw [if_pos rfl, if_pos hs]; decide⟩
  ·exact Or.inr (Or.inl ⟨hs, by rw [hs]; decide⟩)
  ·exact Or.inr (Or.inr ⟨hs, by unfold quoR; rw [if_pos rfl, if_neg (by omega), if_pos hs]; decide⟩)
 ·have hy : tk b ≠ 0 := fun h => hz ((tk_zero b).1 h)
  have h1 := tk_Fx a ha; have h2 := tk_Fx b hb
  have hr := quoR_range (tk a) (tk b) h1
  have hq : quoR (tk a) (tk b) = rdiv (tk a * 4294967296) (tk b) := by unfold quoR; rw [if_neg hy]
  rw [show (cutB (quoR (tk a) (tk b)) a b || decide (b = 0)) = (fitB (quoR (tk a) (tk b)) || (nb a || nb b)) from by unfold cutB; rw [decide_eq_false hz, Bool.or_false, Bool.or_assoc]]
  refine refDiv2_core a b (tk a) (tk b) (tk a * 4294967296) (quoR (tk a) (tk b)) _ (nb a) (nb b) _ (by simpa using hy) (hide fun w => refTaken a ha w) (hide fun w => refTaken b hb w) (hide fun w => refMul (tk a) 4294967296 (Fx_I64 h1) (by unfold I64; omega) w) ?_ (hide fun w => refFits (quoR (tk a) (tk b)) (nb a || nb b) (wrapW_in _ hr) w) w
  rw [hq]
  exact hide fun w => refDiv (tk a * 4294967296) (tk b) (in_wideR _ (by unfold Fx at h1; omega)) (Fx_I64 h2) hy w
end Go.Proofs.YtjobgjcfkomhpaaGreat
namespace Go.Proofs.YtjobgjcfkomhpaaGreat
open Go.RowKit Go.Proofs.Wd
set_option maxRecDepth 10000
attribute [local go_sem ↓] Go.wp_at_zero Go.wp_at_succ
def RC (U : Nat) (c : Bool) (n : Int) (w : World) : Prop := Blk U #[.bool c, .int .i64 n] 60 w
theorem RC.c0 {U : Nat} {c : Bool} {n : Int} {w : World} (h : RC U c n w) : w.cell? ⟨U, 0, none⟩ = some (.bool c) := Blk.cell h 0
theorem RC.c1 {U : Nat} {c : Bool} {n : Int} {w : World} (h : RC U c n w) : w.cell? ⟨U, 1, none⟩ = some (.int .i64 n) := Blk.cell h 1
theorem RC.set0 {U : Nat} {c : Bool} {n : Int} {w : World} (h : RC U c n w) (d : Bool) : RC U d n (w.setCell ⟨U, 0, none⟩ (.bool d)) := Blk.set h 0 _
theorem RC.set1 {U : Nat} {c : Bool} {n : Int} {w : World} (h : RC U c n w) (m : Int) : RC U c m (w.setCell ⟨U, 1, none⟩ (.int .i64 m)) := Blk.set h 1 _
set_option maxHeartbeats 400000 in
theorem refUNew (w : World) : Calls Tryz.prog 9 #[] w fun e w' => e = .returned (.pointer (some ⟨w.heap.size, 0, none⟩)) ∧ RC w.heap.size false 0 w' ∧ Grown w w' := by
 go_enter Tryz.func9, Tryz.ntmps9
 go_wp2
 go_ret
 exact ⟨rfl, heap_alloc_new w _, (Grown.refl _).alloc _ _⟩
set_option maxHeartbeats 400000 in
theorem refUDid (U : Nat) (c d : Bool) (n x : Int) (hn : 0 ≤ n ∧ n < 4611686018427387904) (w : World) (h : RC U c n w) : Calls Tryz.prog 78 #[.pointer (some ⟨U, 0, none⟩), .int .i64 x, .bool d] w fun e w' => e = .returned (.int .i64 x) ∧ RC U (c || d) (n + 1) w' ∧ Mod U w w' := by
 have h0 := h.c0
 have h1 := h.c1
 have f0 := h.free 0
 have f1 := h.free 1
 have H := hide h
 clear h
 obtain ⟨n0, n1⟩ := hn
 cases c
 all_goals
  go_enter Tryz.func78, Tryz.ntmps78
  go_wp2
  go_ret
  exact ⟨rfl, ((unhide H).set1 _).set0 _, ((Mod.refl _ _).setCell _ _).setCell _ _⟩
set_option maxHeartbeats 1000000 in
theorem refUPlus (U : Nat) (c : Bool) (n a b : Int) (ha : I64 a) (hb : I64 b) (hn : 0 ≤ n ∧ n < 4611686018427387904) (w : World) (h : RC U c n w) :
  Calls Tryz.prog 157 #[.pointer (some ⟨U, 0, none⟩), .int .i64 a, .int .i64 b] w fun e w' =>
   e = .returned (.int .i64 (addN a b)) ∧ RC U (c || addC a b) (n + 1) w' ∧ Mod U w w' := by
 have X : Hid (Calls Tryz.prog 169 #[.int .i64 a, .int .i64 b] w fun e w' => e = .returned (.tuple #[.int .i64 (addN a b), .bool (addC a b)]) ∧ Grown w w') := refAdd2 a b ha hb w
 generalize addN a b = r at *
 generalize addC a b = d at *
 have H := hide h
 have HN := hide hn
 clear h hn ha hb
 go_enter Tryz.func157, Tryz.ntmps157
 go_wp2_with fail
 refine (unhide X).mono ?_
 rintro e w1 ⟨rfl, h1⟩
 go_wp2_with fail
 refine (refUDid U c _ n _ (unhide HN) w1 (Blk.grown (unhide H) h1)).mono ?_
 rintro e w2 ⟨rfl, h2, m2⟩
 have H2 : Hid (RC U (c || d) (n + 1) w2 ∧ Mod U w w2) := ⟨h2, (Mod.of h1).trans m2⟩
 clear h1 h2 m2
 go_wp2
 go_ret
 exact ⟨rfl, unhide H2⟩
set_option maxHeartbeats 1000000 in
theorem refUTimes (U : Nat) (c : Bool) (n a b : Int) (ha : I64 a) (hb : I64 b) (hn : 0 ≤ n ∧ n < 4611686018427387904) (w : World) (h : RC U c n w) :
  Calls Tryz.prog 76 #[.pointer (some ⟨U, 0, none⟩), .int .i64 a, .int .i64 b] w fun e w' =>
   e = .returned (.int .i64 (mulN a b)) ∧ RC U (c || mulC a b) (n + 1) w' ∧ Mod U w w' := by
 have X : Hid (Calls Tryz.prog 116 #[.int .i64 a, .int .i64 b] w fun e w' => e = .returned (.tuple #[.int .i64 (mulN a b), .bool (mulC a b)]) ∧ Grown w w') := refMul2 a b ha hb w
 generalize mulN a b = r at *
 generalize mulC a b = d at *
 have H := hide h
 have HN := hide hn
 clear h hn ha hb
 go_enter Tryz.func76, Tryz.ntmps76
 go_wp2_with fail
 refine (unhide X).mono ?_
 rintro e w1 ⟨rfl, h1⟩
 go_wp2_with fail
 refine (refUDid U c _ n _ (unhide HN) w1 (Blk.grown (unhide H) h1)).mono ?_
 rintro e w2 ⟨rfl, h2, m2⟩
 have H2 : Hid (RC U (c || d) (n + 1) w2 ∧ Mod U w w2) := ⟨h2, (Mod.of h1).trans m2⟩
 clear h1 h2 m2
 go_wp2
 go_ret
 exact ⟨rfl, unhide H2⟩
set_option maxHeartbeats 1000000 in
theorem refUDiv (U : Nat) (c : Bool) (n a b : Int) (ha : I64 a) (hb : I64 b) (hn : 0 ≤ n ∧ n < 4611686018427387904) (w : World) (h : RC U c n w) :
  Calls Tryz.prog 99 #[.pointer (some ⟨U, 0, none⟩), .int .i64 a, .int .i64 b] w fun e w' =>
   e = .returned (.int .i64 (divN a b)) ∧ RC U (c || divC a b) (n + 1) w' ∧ Mod U w w' := by
 have X : Hid (Calls Tryz.prog 131 #[.int .i64 a, .int .i64 b] w fun e w' => e = .returned (.tuple #[.int .i64 (divN a b), .bool (divC a b)]) ∧ Grown w w') := refDiv2 a b ha hb w
 generalize divN a b = r at *
 generalize divC a b = d at *
 have H := hide h
 have HN := hide hn
 clear h hn ha hb
 go_enter Tryz.func99, Tryz.ntmps99
 go_wp2_with fail
 refine (unhide X).mono ?_
 rintro e w1 ⟨rfl, h1⟩
 go_wp2_with fail
 refine (refUDid U c _ n _ (unhide HN) w1 (Blk.grown (unhide H) h1)).mono ?_
 rintro e w2 ⟨rfl, h2, m2⟩
 have H2 : Hid (RC U (c || d) (n + 1) w2 ∧ Mod U w w2) := ⟨h2, (Mod.of h1).trans m2⟩
 clear h1 h2 m2
 go_wp2
 go_ret
 exact ⟨rfl, unhide H2⟩
set_option maxHeartbeats 1000000 in
theorem refUWhole (U : Nat) (c : Bool) (n a : Int) (ha : I64 a) (hn : 0 ≤ n ∧ n < 4611686018427387904) (w : World) (h : RC U c n w) :
  Calls Tryz.prog 37 #[.pointer (some ⟨U, 0, none⟩), .int .i64 a] w fun e w' =>
   e = .returned (.int .i64 (whoN a)) ∧ RC U (c || whoC a) (n + 1) w' ∧ Mod U w w' := by
 have X : Hid (Calls Tryz.prog 77 #[.int .i64 a] w fun e w' => e = .returned (.tuple #[.int .i64 (whoN a), .bool (whoC a)]) ∧ Grown w w') := refWhole2 a ha w
 generalize whoN a = r at *
 generalize whoC a = d at *
 have H := hide h
 have HN := hide hn
 clear h hn ha
 go_enter Tryz.func37, Tryz.ntmps37
 go_wp2_with fail
 refine (unhide X).mono ?_
 rintro e w1 ⟨rfl, h1⟩
 go_wp2_with fail
 refine (refUDid U c _ n _ (unhide HN) w1 (Blk.grown (unhide H) h1)).mono ?_
 rintro e w2 ⟨rfl, h2, m2⟩
 have H2 : Hid (RC U (c || d) (n + 1) w2 ∧ Mod U w w2) := ⟨h2, (Mod.of h1).trans m2⟩
 clear h1 h2 m2
 go_wp2
 go_ret
 exact ⟨rfl, unhide H2⟩
set_option maxHeartbeats 1000000 in
theorem refUAdd (U : Nat) (c : Bool) (n : Int) (ao : Option Addr) (len cap : Nat) (Z : Nat → Int) (hn : 0 ≤ n ∧ n < 2305843009213693952) (hl : len ≤ 1000000) (hZ : Hid (∀ i, i < len → I64 (Z i))) (w : World) (h : RC U c n w) (hr : Row w ao len Z) (ho : Off U len ao) :
  Calls Tryz.prog 127 #[.pointer (some ⟨U, 0, none⟩), .slice ao len cap] w fun e w' =>
   e = .returned (.int .i64 (thN addN 0 Z len)) ∧ RC U (c || thC addN addC 0 Z len) (n + len) w' ∧ Mod U w w' := by
 have H := hide h
 have HR := hide hr
 have HO := hide ho
 clear h hr ho
 obtain ⟨n0, n1⟩ := hn
 go_enter Tryz.func127, Tryz.ntmps127
 go_wp2_with fail
 go_loopw [5, 6] (fun t i wr => ∃ k : Nat, k ≤ len ∧ i = .int .i64 k ∧ t = .int .i64 (thN addN 0 Z k) ∧ Hid (RC U (c || thC addN addC 0 Z k) (n + k) wr ∧ Mod U w wr)) (fun _ i _ => len - (intOf i).toNat)
 case atStart => exact ⟨0, Nat.zero_le _, rfl, rfl, by show RC _ (c || false) (n + 0) _ ∧ _; rw [Bool.or_false, Int.add_zero]; exact ⟨unhide H, Mod.refl _ _⟩⟩
 case round =>
  obtain ⟨k, hk, rfl, rfl, HU⟩ := hrel
  by_cases hlt : k < len
  ·obtain ⟨b, o, rfl, hc⟩ := ((unhide HR).mod (unhide HU).2 (unhide HO)).at hlt
   go_wp2_with fail
   refine (refUPlus U _ _ _ _ (thN_I64 addN addN_I64 0 (by unfold I64; omega) Z k) (unhide hZ k hlt) ⟨by omega, by omega⟩ _ (unhide HU).1).mono ?_
   rintro e w3 ⟨rfl, h3, m3⟩
   have R : Hid (RC U (c || thC addN addC 0 Z (k + 1)) (n + ((k + 1 : Nat) : Int)) w3 ∧ Mod U w w3) := by
    refine ⟨?_, (unhide HU).2.trans m3⟩
    show RC U (c || (thC addN addC 0 Z k || addC (thN addN 0 Z k) (Z k))) _ _
    rw [← Bool.or_assoc, show n + ((k + 1 : Nat) : Int) = n + k + 1 by omega]
    exact h3
   clear h3 m3 hc
   go_wp2
   go_roundw
   case rel => exact ⟨k + 1, by omega, by go_num, rfl, R⟩
   case measure => simp [intOf]; omega
  ·obtain rfl : k = len := by omega
   go_wp2
   go_ret
   exact ⟨rfl, (unhide HU).1, (unhide HU).2⟩
set_option maxHeartbeats 1000000 in
theorem refUMul (U : Nat) (c : Bool) (n : Int) (ao : Option Addr) (len cap : Nat) (Z : Nat → Int) (hn : 0 ≤ n ∧ n < 2305843009213693952) (hl : len ≤ 1000000) (hZ : Hid (∀ i, i < len → I64 (Z i))) (w : World) (h : RC U c n w) (hr : Row w ao len Z) (ho : Off U len ao) :
  Calls Tryz.prog 36 #[.pointer (some ⟨U, 0, none⟩), .slice ao len cap] w fun e w' =>
   e = .returned (.int .i64 (thN mulN 4294967296 Z len)) ∧ RC U (c || thC mulN mulC 4294967296 Z len) (n + len) w' ∧ Mod U w w' := by
 have H := hide h
 have HR := hide hr
 have HO := hide ho
 clear h hr ho
 obtain ⟨n0, n1⟩ := hn
 go_enter Tryz.func36, Tryz.ntmps36
 go_wp2_with fail
 go_loopw [5, 6] (fun t i wr => ∃ k : Nat, k ≤ len ∧ i = .int .i64 k ∧ t = .int .i64 (thN mulN 4294967296 Z k) ∧ Hid (RC U (c || thC mulN mulC 4294967296 Z k) (n + k) wr ∧ Mod U w wr)) (fun _ i _ => len - (intOf i).toNat)
 case atStart => exact ⟨0, Nat.zero_le _, rfl, rfl, by show RC _ (c || false) (n + 0) _ ∧ _; rw [Bool.or_false, Int.add_zero]; exact ⟨unhide H, Mod.refl _ _⟩⟩
 case round =>
  obtain ⟨k, hk, rfl, rfl, HU⟩ := hrel
  by_cases hlt : k < len
  ·obtain ⟨b, o, rfl, hc⟩ := ((unhide HR).mod (unhide HU).2 (unhide HO)).at hlt
   go_wp2_with fail
   refine (refUTimes U _ _ _ _ (thN_I64 mulN mulN_I64 4294967296 (by unfold I64; omega) Z k) (unhide hZ k hlt) ⟨by omega, by omega⟩ _ (unhide HU).1).mono ?_
   rintro e w3 ⟨rfl, h3, m3⟩
   have R : Hid (RC U (c || thC mulN mulC 4294967296 Z (k + 1)) (n + ((k + 1 : Nat) : Int)) w3 ∧ Mod U w w3) := by
    refine ⟨?_, (unhide HU).2.trans m3⟩
    show RC U (c || (thC mulN mulC 4294967296 Z k || mulC (thN mulN 4294967296 Z k) (Z k))) _ _
    rw [← Bool.or_assoc, show n + ((k + 1 : Nat) : Int) = n + k + 1 by omega]
    exact h3
   clear h3 m3 hc
   go_wp2
   go_roundw
   case rel => exact ⟨k + 1, by omega, by go_num, rfl, R⟩
   case measure => simp [intOf]; omega
  ·obtain rfl : k = len := by omega
   go_wp2
   go_ret
   exact ⟨rfl, (unhide HU).1, (unhide HU).2⟩
set_option maxHeartbeats 2000000 in
theorem refUDot_ok (U : Nat) (c : Bool) (n : Int) (ao bo : Option Addr) (len c1 c2 : Nat) (X Y : Nat → Int) (hn : 0 ≤ n ∧ n < 2305843009213693952) (hl : len ≤ 1000000) (hX : Hid (∀ i, i < len → I64 (X i))) (hY : Hid (∀ i, i < len → I64 (Y i))) (w : World) (h : RC U c n w)
  (hr : Row w ao len X) (ho : Off U len ao) (ht : Row w bo len Y) (hp : Off U len bo) :
  Calls Tryz.prog 129 #[.pointer (some ⟨U, 0, none⟩), .slice ao len c1, .slice bo len c2] w fun e w' =>
   e = .returned (.tuple #[.int .i64 (dotN X Y len), .int .i64 0]) ∧ RC U (c || dotC X Y len) (n + 2 * len) w' ∧ Mod U w w' := by
 have H := hide h
 have HR := hide hr
 have HO := hide ho
 have HT := hide ht
 have HP := hide hp
 clear h hr ho ht hp
 obtain ⟨n0, n1⟩ := hn
 go_enter Tryz.func129, Tryz.ntmps129
 go_wp2_with fail
 go_loopw [8, 9] (fun t i wr => ∃ k : Nat, k ≤ len ∧ i = .int .i64 k ∧ t = .int .i64 (dotN X Y k) ∧ Hid (RC U (c || dotC X Y k) (n + 2 * k) wr ∧ Mod U w wr)) (fun _ i _ => len - (intOf i).toNat)
 case atStart => exact ⟨0, Nat.zero_le _, rfl, rfl, by show RC _ (c || false) (n + 0) _ ∧ _; rw [Bool.or_false, Int.add_zero]; exact ⟨unhide H, Mod.refl _ _⟩⟩
 case round =>
  obtain ⟨k, hk, rfl, rfl, HU⟩ := hrel
  by_cases hlt : k < len
  ·obtain ⟨b1, o1, rfl, hc1⟩ := ((unhide HR).mod (unhide HU).2 (unhide HO)).at hlt
   obtain ⟨b2, o2, rfl, hc2⟩ := ((unhide HT).mod (unhide HU).2 (unhide HP)).at hlt
   have BU := hide (And.intro (unhide HO (by omega) _ rfl) (unhide HP (by omega) _ rfl))
   have M1 := hide (fun w h => refUTimes U (c || dotC X Y k) (n + 2 * k) (X k) (Y k) (unhide hX k hlt) (unhide hY k hlt) ⟨by omega, by omega⟩ w h)
   have A1 := hide (fun w h => refUPlus U (c || dotC X Y k || mulC (X k) (Y k)) (n + 2 * k + 1) (dotN X Y k) (mulN (X k) (Y k)) (dotN_I64 X Y k) (mulN_I64 _ _) ⟨by omega, by omega⟩ w h)
   have i0 : (0 : Int) ≤ (k : Int) := by omega
   have i1 : (k : Int) < (len : Int) := by omega
   have E1 : Hid (dotN X Y (k + 1) = addN (dotN X Y k) (mulN (X k) (Y k))) := rfl
   have E2 : Hid (dotC X Y (k + 1) = (dotC X Y k || mulC (X k) (Y k) || addC (dotN X Y k) (mulN (X k) (Y k)))) := rfl
   generalize mulN (X k) (Y k) = p at *
   generalize mulC (X k) (Y k) = pc at *
   generalize X k = x at *
   generalize Y k = y at *
   generalize dotN X Y k = s at *
   generalize addN s p = q at *
   generalize addC s p = qc at *
   generalize dotC X Y k = dk at *
   go_wp2
   go_region_held3 (fun w' => w'.cell? ⟨b1, o1 + k, none⟩ = some (.int .i64 x) ∧ w'.cell? ⟨b2, o2 + k, none⟩ = some (.int .i64 y))
    (simp [go_sem, *])
    (first
     | (go_at_call 76; refine (unhide M1 _ (by exact (unhide HU).1)).mono ?_; rintro e w3 ⟨rfl, h3, m3⟩; have c31 := Mod.cell (by exact m3) hc1 (unhide BU).1; have c32 := Mod.cell (by exact m3) hc2 (unhide BU).2; have u3 : Hid (RC U (c || dk || pc) (n + 2 * k + 1) w3 ∧ Mod U w w3) := ⟨h3, (unhide HU).2.trans (by exact m3)⟩; clear h3 m3)
     | (go_at_call 157; refine (unhide A1 _ (unhide u3).1).mono ?_; rintro e w5 ⟨rfl, h5, m5⟩; have c51 := m5.cell c31 (unhide BU).1; have c52 := m5.cell c32 (unhide BU).2; have u5 : Hid (RC U (c || dk || pc || qc) (n + 2 * k + 1 + 1) w5 ∧ Mod U w w5) := ⟨h5, (unhide u3).2.trans m5⟩; clear h5 m5))
   have R : Hid (RC U (c || dotC X Y (k + 1)) (n + 2 * ((k + 1 : Nat) : Int)) w5 ∧ Mod U w w5) := by
    refine ⟨?_, (unhide u5).2⟩
    rw [unhide E2, ← Bool.or_assoc, ← Bool.or_assoc, show n + 2 * ((k + 1 : Nat) : Int) = n + 2 * k + 1 + 1 by omega]
    exact (unhide u5).1
   go_wp2
   go_roundw
   case rel => exact ⟨k + 1, by omega, by go_num, by rw [unhide E1], R⟩
   case measure => simp [intOf]; omega
  ·obtain rfl : k = len := by omega
   go_wp2
   go_ret2
   exact ⟨rfl, (unhide HU).1, (unhide HU).2⟩
end Go.Proofs.YtjobgjcfkomhpaaGreat
namespace Go.Proofs.YtjobgjcfkomhpaaGreat
open Go.RowKit Go.Shelf Go.Proofs.Wd
set_option maxRecDepth 10000
def OfI (w : World) (r c : Int) (Z : Nat → Int) (k : Nat) (v : Value) (wr : World) : Prop :=
 wr.ownsRow (w.heap.size + 1 + 1) 3 1 v k (intL k Z) ∧ Blk w.heap.size #[.int .i64 0, .int .i64 0, .slice none 0 0] 38 wr ∧ Blk (w.heap.size + 1) #[.int .i64 r, .int .i64 c, v] 38 wr ∧ Kp w wr ∧ w.heap.size + 1 + 1 ≤ wr.heap.size
theorem OfI.app {w wr wa w4 : World} {r c : Int} {Z : Nat → Int} {k : Nat} {v v' : Value} (h : OfI w r c Z k v wr) (g : Grown wr wa) (ha : wa.ownsRow (w.heap.size + 1 + 1) 3 1 v k (intL k Z)) (hg : w4.ownsRow (w.heap.size + 1 + 1) 3 1 v' (k + 1) (intL (k + 1) Z) ∧ wa.grownBy w4 v.ownBlock) :
  Blk (w.heap.size + 1) #[.int .i64 r, .int .i64 c, v] 38 w4 ∧ OfI w r c Z (k + 1) v' (w4.setCell ⟨w.heap.size + 1, 2, none⟩ v') := by
 obtain ⟨h1, h2, h3, h4, h5⟩ := h
 have lt := ha.lt
 have far : ∀ j, j < w.heap.size + 1 + 1 → some j ≠ v.ownBlock := fun j hj e => by have := (lt _ e.symm).1; omega
 have b2 := Blk.by (Blk.grown h2 g) hg.2 (far _ (by omega))
 have b3 := Blk.by (Blk.grown h3 g) hg.2 (far _ (by omega))
 have q : Mod (w.heap.size + 1) w4 (w4.setCell ⟨w.heap.size + 1, 2, none⟩ v') := (Mod.refl _ _).setCell 2 _
 refine ⟨b3, owns_mod hg.1 q (by omega), Blk.keep b2 q (by omega), Blk.set b3 2 _, ((h4.grown g).by hg.2 (fun j e => by have := (lt j e).1; omega)).mod q (by omega), ?_⟩
 have := hg.2.size
 have := g.2.2
 have := q.2.2.2.2
 omega
def flat (l : List MV) : List Value := l.flatMap fun x => x.cells.toList
theorem flat_len : ∀ l : List MV, (flat l).length = l.length * 3
 | [] => rfl
 | x :: l => by
  have := flat_len l
  unfold flat at *
  rw [List.flatMap_cons, List.length_append, this, List.length_cons]
  show 3 + _ = _
  omega
theorem flat_snoc (l : List MV) (x : MV) : flat (l ++ [x]) = flat l ++ x.cells.toList := by
 unfold flat
 rw [List.flatMap_append]
 simp
theorem flat_at : ∀ (l : List MV) (i j : Nat) (x : MV), l[i]? = some x → j < 3 → (flat l)[i * 3 + j]? = x.cells[j]?
 | [], i, j, x, h, _ => by simp at h
 | y :: l, 0, j, x, h, hj => by
  simp at h
  subst h
  unfold flat
  rw [List.flatMap_cons, List.getElem?_append_left (by show 0 * 3 + j < 3; omega)]
  simp
 | y :: l, i + 1, j, x, h, hj => by
  have := flat_at l i j x (by simpa using h) hj
  unfold flat at *
  rw [List.flatMap_cons, List.getElem?_append_right (by show 3 ≤ _; omega), ← this]
  congr 1
  show (i + 1) * 3 + j - 3 = _
  omega
theorem cells_oneMV (x : MV) : ∀ u ∈ x.cells.toList, u.oneCell' = true := by
 intro u hu
 simp [MV.cells] at hu
 rcases hu with rfl | rfl | rfl <;> rfl
theorem Tryz.infoMat : (Tryz.prog.info? 38).map (fun i => (i.zero, i.size, i.bytes)) = some (some (.agg #[.int .i64 0, .int .i64 0, .slice none 0 0]), 3, 40) := by kernel_rfl
def MLs (w : World) (base : Nat) (v : Value) (l : List MV) : Prop := w.ownsRow base 38 3 v l.length (flat l)
theorem MLs.blk {w w' : World} {base : Nat} {v : Value} {l : List MV} (h : MLs w base v l) (k : ∀ g cs, v.ownBlock = some g → base ≤ g → Blk g cs 38 w → Blk g cs 38 w') : MLs w' base v l := by
 refine ⟨h.1, ?_⟩
 rcases h.2 with h2 | ⟨g, cap, cur, rfl, hb, hg, r⟩
 ·exact Or.inl h2
 ·exact Or.inr ⟨g, cap, cur, rfl, hb, k g cur rfl hb hg, r⟩
theorem MLs.kp {w w' : World} {base : Nat} {v : Value} {l : List MV} (h : MLs w base v l) (k : Kp w w') : MLs w' base v l := h.blk fun _ _ _ _ hb => Blk.kp hb k
theorem MLs.mono {w : World} {base base' : Nat} {v : Value} {l : List MV} (h : MLs w base v l) (hb : base' ≤ base) : MLs w base' v l := by
 refine ⟨h.1, ?_⟩
 rcases h.2 with h2 | ⟨g, cap, cur, rfl, hb', hg, r⟩
 ·exact Or.inl h2
 ·exact Or.inr ⟨g, cap, cur, rfl, by omega, hg, r⟩
theorem MLs.has {w : World} {base g n c : Nat} {l : List MV} (h : MLs w base (.slice (some ⟨g, 0, none⟩) n c) l) : base ≤ g ∧ ∃ cur, Blk g cur 38 w := by
 rcases h.2 with ⟨e, _⟩ | ⟨g', cap, cur, e, hb, hg, r⟩
 ·cases e
 ·simp at e
  obtain ⟨rfl, _⟩ := e
  exact ⟨hb, cur, hg⟩
def Mats (w : World) (ao : Option Addr) (n : Nat) (X : Nat → MV) : Prop := n = 0 ∨ ∃ b o, ao = some ⟨b, o, none⟩ ∧ ∀ i, i < n → ∀ j, j < 3 → w.cell? ⟨b, o + i * 3 + j, none⟩ = (X i).cells[j]?
theorem Mats.at {w : World} {ao : Option Addr} {n : Nat} {X : Nat → MV} (h : Mats w ao n X) {k : Nat} (hk : k < n) : ∃ b o, ao = some ⟨b, o, none⟩ ∧ w.cell? ⟨b, o + k * 3, none⟩ = some (.int .i64 (X k).R) ∧ w.cell? ⟨b, o + k * 3 + 1, none⟩ = some (.int .i64 (X k).C) ∧ w.cell? ⟨b, o + k * 3 + 2, none⟩ = some (.slice (X k).ao (X k).len (X k).cap) := by
 rcases h with h | ⟨b, o, rfl, hc⟩
 ·omega
 ·exact ⟨b, o, rfl, hc k hk 0 (by omega), hc k hk 1 (by omega), hc k hk 2 (by omega)⟩
theorem Mats.cells {w w' : World} {ao : Option Addr} {n : Nat} {X : Nat → MV} (h : Mats w ao n X) (k : ∀ b o (v : Value), (0 < n → ∃ o', ao = some ⟨b, o', none⟩) → w.cell? ⟨b, o, none⟩ = some v → w'.cell? ⟨b, o, none⟩ = some v) : Mats w' ao n X := by
 rcases h with h | ⟨b, o, rfl, hc⟩
 ·exact Or.inl h
 ·refine Or.inr ⟨b, o, rfl, fun i hi j hj => ?_⟩
  have := hc i hi j hj
  have hs : ∃ v, (X i).cells[j]? = some v := ⟨_, Array.getElem?_eq_getElem (by show j < 3; exact hj)⟩
  obtain ⟨v, hv⟩ := hs
  rw [hv] at this ⊢
  exact k b _ v (fun _ => ⟨o, rfl⟩) this
theorem Mats.kp {w w' : World} {ao : Option Addr} {n : Nat} {X : Nat → MV} (h : Mats w ao n X) (k : Kp w w') : Mats w' ao n X := h.cells fun _ _ _ _ hv => k.cell hv
theorem Mats.grown {w w' : World} {ao : Option Addr} {n : Nat} {X : Nat → MV} (h : Mats w ao n X) (k : Grown w w') : Mats w' ao n X := h.kp (Kp.of k)
def z0MV : MV := ⟨0, 0, none, 0, 0, fun _ => 0⟩
def ixM (l : List MV) (i : Nat) : MV := (l[i]?).getD z0MV
theorem ixM_at {l : List MV} {i : Nat} {x : MV} (h : l[i]? = some x) : ixM l i = x := by unfold ixM; rw [h]; rfl
theorem MLs.mats {w : World} {base : Nat} {v : Value} {l : List MV} (h : MLs w base v l) : ∃ ao cap, v = .slice ao l.length cap ∧ Mats w ao l.length (ixM l) ∧ l.length ≤ cap ∧ (∀ U, U < base → Off U l.length ao) := by
 have hc := fun g (e : v.ownBlock = some g) => World.ownsRow.cells h e
 rcases h.2 with ⟨rfl, e⟩ | ⟨g, cap, cur, rfl, hb, hg, hn, r⟩
 ·rw [e]
  exact ⟨none, 0, rfl, Or.inl rfl, Nat.le_refl _, fun U _ h0 => absurd h0 (Nat.lt_irrefl _)⟩
 ·refine ⟨_, cap, rfl, Or.inr ⟨g, 0, rfl, fun i hi j hj => ?_⟩, hn, fun U hU _ a ha => by cases ha; show g ≠ U; omega⟩
  have hx : l[i]? = some l[i] := List.getElem?_eq_getElem hi
  have hf := flat_at l i j _ hx hj
  have hs : ∃ u, (l[i]).cells[j]? = some u := ⟨_, Array.getElem?_eq_getElem (by show j < 3; exact hj)⟩
  obtain ⟨u, hu⟩ := hs
  have := hc g rfl (i * 3 + j) u (by rw [hf, hu])
  rw [Go.WideShapes.add_plain] at this
  rw [ixM_at hx, hu, ← this, Nat.zero_add]
  show _ = w.cell? ⟨g, 0 + (i * 3 + j), none⟩
  rw [Nat.zero_add]
theorem news_mat {w : World} {b : Nat} {x : MV} (h : Blk b x.cells 38 w) : ∀ j u, x.cells.toList[j]? = some u → w.cell? ((⟨b, 0, none⟩ : Addr).add j) = some u := by
 intro j u hu
 rw [Go.WideShapes.add_plain, Nat.zero_add, Blk.cell h]
 simpa using hu
def sqA (R C : Int) (len : Nat) : Prop := okM R C len ∧ R = C
open Classical in
noncomputable def sqB (R C : Int) (len : Nat) : Bool := decide (sqA R C len)
theorem sqB_yes {R C : Int} {len : Nat} (h : sqA R C len) : sqB R C len = true := by classical exact decide_eq_true h
theorem sqB_no {R C : Int} {len : Nat} (h : ¬ sqA R C len) : sqB R C len = false := by classical exact decide_eq_false h
theorem sqA.nat {R C : Int} {len : Nat} (h : sqA R C len) : ∃ n : Nat, R = n ∧ C = n ∧ (1 ≤ n ∧ n ≤ 12) ∧ len = n * n ∧ 1 ≤ len ∧ len ≤ 144 := by
 obtain ⟨h1, rfl⟩ := h
 obtain ⟨r, c, e1, e2, hr, hc, hl, k1, k2⟩ := h1.nat
 obtain rfl : r = c := by omega
 exact ⟨r, e1, e1, hr, hl, k1, k2⟩
theorem sqA_of {n : Nat} (hn : 1 ≤ n ∧ n ≤ 12) : sqA n n (n * n) := ⟨⟨by omega, by omega, by rw [Int.natCast_mul]⟩, rfl⟩
set_option maxHeartbeats 2000000 in
theorem polySquare (R C : Int) (ao : Option Addr) (len cap : Nat) (w : World) : Calls Tryz.prog 80 #[.agg #[.int .i64 R, .int .i64 C, .slice ao len cap]] w fun e w' => e = .returned (.bool (sqB R C len)) ∧ Grown w w' := by
 have K1 := hide (fun w => matCheck R C ao len cap w)
 have G1 : Hid (Grown w (w.alloc (.cells #[.int .i64 R, .int .i64 C, .slice ao len cap] 38)) ∧ Blk w.heap.size #[.int .i64 R, .int .i64 C, .slice ao len cap] 38 (w.alloc (.cells #[.int .i64 R, .int .i64 C, .slice ao len cap] 38))) := ⟨(Grown.refl _).alloc _ _, Blk.new w _ _⟩
 by_cases h1 : okM R C len
 ·rw [chk_ok h1] at K1
  by_cases h2 : R = C
  ·rw [sqB_yes ⟨h1, h2⟩]
   clear h1
   subst h2
   go_enter Tryz.func80, Tryz.ntmps80
   go_wp2_with fail
   generalize w.alloc (.cells #[.int .i64 R, .int .i64 R, .slice ao len cap] 38) = w1 at *
   refine (unhide K1 _).mono ?_
   rintro e w2 ⟨rfl, g2⟩
   have y0 : w2.cell? ⟨w.heap.size, 0, none⟩ = some (.int .i64 R) := Blk.cell (Blk.grown (unhide G1).2 g2) 0
   have y1 : w2.cell? ⟨w.heap.size, 1, none⟩ = some (.int .i64 R) := Blk.cell (Blk.grown (unhide G1).2 g2) 1
   have GG := hide (gtrans (unhide G1).1 g2)
   clear G1 g2 K1
   go_wp2
   go_ret
   exact ⟨rfl, unhide GG⟩
  ·rw [sqB_no (fun h => h2 h.2)]
   have b3 : (R == C) = false := by simpa using h2
   clear h1 h2
   go_enter Tryz.func80, Tryz.ntmps80
   go_wp2_with fail
   generalize w.alloc (.cells #[.int .i64 R, .int .i64 C, .slice ao len cap] 38) = w1 at *
   refine (unhide K1 _).mono ?_
   rintro e w2 ⟨rfl, g2⟩
   have y0 : w2.cell? ⟨w.heap.size, 0, none⟩ = some (.int .i64 R) := Blk.cell (Blk.grown (unhide G1).2 g2) 0
   have y1 : w2.cell? ⟨w.heap.size, 1, none⟩ = some (.int .i64 C) := Blk.cell (Blk.grown (unhide G1).2 g2) 1
   have GG := hide (gtrans (unhide G1).1 g2)
   clear G1 g2 K1
   go_wp2
   go_ret
   exact ⟨rfl, unhide GG⟩
 ·rw [chk_bad h1] at K1
  rw [sqB_no (fun h => h1 h.1)]
  clear h1
  go_enter Tryz.func80, Tryz.ntmps80
  go_wp2_with fail
  generalize w.alloc (.cells #[.int .i64 R, .int .i64 C, .slice ao len cap] 38) = w1 at *
  refine (unhide K1 _).mono ?_
  rintro e w2 ⟨rfl, g2⟩
  have GG := hide (gtrans (unhide G1).1 g2)
  clear G1 g2 K1
  go_wp2
  go_ret
  exact ⟨rfl, unhide GG⟩
def errB (b : Bool) : Int := if b then 0 else 3
set_option maxHeartbeats 2000000 in
theorem polyRefuse (U : Nat) (c : Bool) (m : Int) (hm : 0 ≤ m ∧ m < 2305843009213693952) (b : Bool) (w : World) (h : UC U c m w) : Calls Tryz.prog 79 #[.pointer (some ⟨U, 0, none⟩), .bool b] w fun e w' => e = .returned (.int .i64 (errB b)) ∧ UC U c m w' ∧ Mod U w w' := by
 have D := hide (refuseDot U c m hm _ h)
 clear h
 cases b
 ·show Calls _ _ _ _ fun e w' => e = .returned (.int .i64 3) ∧ _ ∧ _
  go_enter Tryz.func79, Tryz.ntmps79
  go_wp2_with fail
  refine (unhide D).mono ?_
  rintro e w2 ⟨rfl, u2, m2⟩
  have GG := hide (And.intro u2 m2)
  clear m2 u2 D
  go_wp2
  go_ret
  exact ⟨rfl, (unhide GG).1, (unhide GG).2⟩
 ·show Calls _ _ _ _ fun e w' => e = .returned (.int .i64 0) ∧ _ ∧ _
  go_enter Tryz.func79, Tryz.ntmps79
  go_wp2_with fail
  refine (unhide D).mono ?_
  rintro e w2 ⟨rfl, u2, m2⟩
  have GG := hide (And.intro u2 m2)
  clear m2 u2 D
  go_wp2
  go_ret
  exact ⟨rfl, (unhide GG).1, (unhide GG).2⟩
set_option maxRecDepth 20000 in
set_option maxHeartbeats 4000000 in
theorem polyUpper_ok (n b o cap : Nat) (A : Nat → Int) (hn : 1 ≤ n ∧ n ≤ 12) (w : World) (hz : ∀ j, j < n * n → w.cell? ⟨b, o + j, none⟩ = some (.int .i64 (A j))) :
  Calls Tryz.prog 81 #[.agg #[.int .i64 n, .int .i64 n, .slice (some ⟨b, o, none⟩) (n * n) cap]] w fun e w' => e = .returned (.bool (upTo A n n)) ∧ Grown w w' := by
 have SQ := hide (fun w => polySquare n n (some ⟨b, o, none⟩) (n * n) cap w)
 rw [sqB_yes (sqA_of hn)] at SQ
 have HP : Hid (∀ i k, i < n → k < n → i * n + k < n * n) := fun i k hi hk => place_in i k n n hi hk
 have HL := (mul12n n n hn hn).2
 obtain ⟨nn, hnn⟩ : ∃ nn, n * n = nn := ⟨_, rfl⟩
 rw [hnn] at HL HP SQ hz
 rw [hnn]
 have G1 : Hid (Grown w (w.alloc (.cells #[.int .i64 n, .int .i64 n, .slice (some ⟨b, o, none⟩) nn cap] 38)) ∧ Blk w.heap.size #[.int .i64 n, .int .i64 n, .slice (some ⟨b, o, none⟩) nn cap] 38 (w.alloc (.cells #[.int .i64 n, .int .i64 n, .slice (some ⟨b, o, none⟩) nn cap] 38))) := ⟨(Grown.refl _).alloc _ _, Blk.new w _ _⟩
 have HZ := hide hz
 obtain ⟨n0, n1⟩ := hn
 clear hz hnn
 go_enter Tryz.func81, Tryz.ntmps81
 go_wp2_with fail
 generalize w.alloc (.cells #[.int .i64 n, .int .i64 n, .slice (some ⟨b, o, none⟩) nn cap] 38) = w1 at *
 refine (unhide SQ _).mono ?_
 rintro e w2 ⟨rfl, g2⟩
 have b2 := Blk.grown (unhide G1).2 g2
 have y0 : w2.cell? ⟨w.heap.size, 0, none⟩ = some (.int .i64 n) := Blk.cell b2 0
 have y1 : w2.cell? ⟨w.heap.size, 1, none⟩ = some (.int .i64 n) := Blk.cell b2 1
 have y2 : w2.cell? ⟨w.heap.size, 2, none⟩ = some (.slice (some ⟨b, o, none⟩) nn cap) := Blk.cell b2 2
 have GG : Hid (Grown w w2) := gtrans (unhide G1).1 g2
 have Z2 : Hid (∀ j, j < nn → w2.cell? ⟨b, o + j, none⟩ = some (.int .i64 (A j))) := fun j hj => gat (unhide GG) (unhide HZ j hj)
 clear G1 g2 SQ b2 HZ
 go_wp2_with fail
 go_loop [10] (fun i => ∃ k : Nat, k ≤ n ∧ i = .int .i64 k ∧ Hid (upTo A n k = true)) (fun i => n - (intOf i).toNat)
 case atStart => exact ⟨0, Nat.zero_le _, rfl, rfl⟩
 case round =>
  obtain ⟨i, hi, rfl, HI⟩ := hrel
  by_cases hlt : i < n
  ·go_wp2_with fail
   go_loop [15] (fun k => ∃ j : Nat, j ≤ i + 1 ∧ k = .int .i64 j ∧ Hid (upRow A n i j = true)) (fun k => i + 1 - (intOf k).toNat)
   case atStart => exact ⟨0, Nat.zero_le _, rfl, rfl⟩
   case round =>
    obtain ⟨k, hk, rfl, HK⟩ := hrel
    by_cases hkt : k < i + 1
    ·have hp := unhide HP i k hlt (by omega)
     have hc := unhide Z2 _ hp
     have e2 : upRow A n i (k + 1) = (A (i * n + k) == 0) := by
      show (upRow A n i k && _) = _
      rw [unhide HK, Bool.true_and]
     obtain ⟨p, hpe⟩ : ∃ p, i * n + k = p := ⟨_, rfl⟩
     obtain ⟨q, hqe⟩ : ∃ q, i * n = q := ⟨_, rfl⟩
     rw [hpe] at hp hc e2
     rw [hqe] at hpe
     have wa : wrap64 ((i : Int) * (n : Int)) = (q : Int) := wrapP i n q hqe (by omega)
     have wb : wrap64 ((q : Int) + (k : Int)) = (p : Int) := wrapA q k p hpe (by omega)
     obtain ⟨x, hx⟩ : ∃ x, A p = x := ⟨_, rfl⟩
     rw [hx] at hc e2
     have E2 := hide e2
     clear hx hqe hpe e2
     by_cases h0 : x = 0
     ·subst h0
      go_wp2
      go_round
      case rel => exact ⟨k + 1, by omega, by go_num, (unhide E2).trans rfl⟩
      case measure => simp [intOf]; omega
     ·have hx0 : (x != 0) = true := by simpa using h0
      have EN : Hid (upTo A n n = false) := by
       cases hu : upTo A n n with
       | false => rfl
       | true =>
        exfalso
        have := (upTo_true A n n).1 hu i hlt
        have h3 := (upRow_true A n i (k + 1)).2 (fun j hj => this j (by omega))
        rw [unhide E2] at h3
        exact h0 (by simpa using h3)
      go_wp2
      go_ret
      exact ⟨by rw [unhide EN]; rfl, unhide GG⟩
    ·obtain rfl : k = i + 1 := by omega
     have R : Hid (upTo A n (i + 1) = true) := by
      show (upTo A n i && upRow A n i (i + 1)) = true
      rw [unhide HI, unhide HK]
      rfl
     go_wp2
     go_round
     case rel => exact ⟨i + 1, by omega, by go_num, R⟩
     case measure => simp [intOf]; omega
  ·obtain rfl : i = n := by omega
   go_wp2
   go_ret
   exact ⟨by rw [unhide HI]; rfl, unhide GG⟩
open Classical in
noncomputable def upO (R C : Int) (len : Nat) (A : Nat → Int) : Bool := if sqA R C len then upTo A R.toNat R.toNat else false
end Go.Proofs.YtjobgjcfkomhpaaGreat
namespace Go.Proofs.YtjobgjcfkomhpaaGreat
open Go.RowKit Go.Shelf Go.Proofs.Wd
set_option maxRecDepth 10000
theorem ready_mem {md : Region.Mode} {ops : Array Oper} {listed : Array Bool} {i : Nat} (h : i ∈ Region.ready md ops listed) :
  i < ops.size ∧ listed.getD i true = false ∧ ∀ o, ops[i]? = some o → ∀ e ∈ o.after, Region.binds md e = true → listed.getD e.on false = true := by
 unfold Region.ready at h
 rw [List.mem_filter, List.mem_range] at h
 obtain ⟨h1, h2⟩ := h
 rw [Bool.and_eq_true] at h2
 refine ⟨h1, by simpa using h2.1, fun o ho e he hb => ?_⟩
 have h3 := h2.2
 rw [ho] at h3
 simp only [Option.map_some, Option.getD_some] at h3
 rw [Array.all_eq_true_iff_forall_mem] at h3
 have := h3 e he
 rw [hb] at this
 simpa using this
section
variable {ops : Array Oper} {Q : Exit → Act → World → Prop} {i d k : Nat} {K : Act → World → Prop} {a : Act} {w : World} {T : TypeId} {pos : String} {aft : Array Edge}
theorem wpOp_of {P : Program} {o : Oper} (hi : ops[i]? = some o) (hg : o.guard = none) (h : o.wp P a w K Q) : wpOp P ops Q i K a w := by
 unfold wpOp
 simp only [hi]
 rw [if_pos (by simp [Region.wanted, hg])]
 exact Or.inl h
end
end Go.Proofs.YtjobgjcfkomhpaaGreat
namespace Go.Proofs.YtjobgjcfkomhpaaGreat
open Go.RowKit Go.Shelf Go.Proofs.Wd
set_option maxRecDepth 10000
section
variable {P : Program} {ops : Array Oper} {Q : Exit → Act → World → Prop} {md : Region.Mode} {S : World → Prop} {g : Nat}
def wpAnyG (P : Program) (md : Region.Mode) (ops : Array Oper) (Q : Exit → Act → World → Prop) (S : World → Prop) (g : Nat) : Nat → Array Bool → Act → World → Prop
 | 0, listed, a, w => Region.ready md ops listed = [] ∧ Q .normal a w
 | fuel + 1, listed, a, w =>
  (Region.ready md ops listed = [] → Q .normal a w) ∧
  ∀ i ∈ Region.ready md ops listed, wpOp P ops Q i (fun a' w' => (i ≠ g → S w') ∧ wpAnyG P md ops Q S g fuel (listed.setIfInBounds i true) a' w') a w
theorem wpAny_of_G : ∀ (fuel : Nat) (listed : Array Bool) (a : Act) (w : World), wpAnyG P md ops Q S g fuel listed a w → wpAny P md ops Q fuel listed a w
 | 0, _, _, _, h => h
 | fuel + 1, _, _, _, h => ⟨h.1, fun i hi => wpOp_mono (fun a' w' h' => wpAny_of_G fuel _ a' w' h'.2) (h.2 i hi)⟩
def waitsFor (md : Region.Mode) (ops : Array Oper) (g i : Nat) : Bool := ((ops[g]?).map (·.after.any fun e => Region.binds md e && e.on == i)).getD false
theorem waits_listed {listed : Array Bool} {i : Nat} (h : waitsFor md ops g i = true) (hg : g ∈ Region.ready md ops listed) : listed.getD i false = true := by
 unfold waitsFor at h
 cases ho : ops[g]? with
 | none => rw [ho] at h; cases h
 | some o =>
  rw [ho] at h
  simp only [Option.map_some, Option.getD_some] at h
  obtain ⟨e, he, hb⟩ := Array.any_eq_true'.1 h
  rw [Bool.and_eq_true] at hb
  have := (ready_mem hg).2.2 o ho e he hb.1
  rwa [eq_of_beq hb.2] at this
theorem G_first {i : Nat} {oi : Oper} {v : Value} (hi : ops[i]? = some oi) (hgi : waitsFor md ops g i = true) (hig : i ≠ g) (hsel : ∀ (j : Nat) (o : Oper) cs b, ops[j]? = some o → o.op ≠ .select cs b)
  (hQ : ∀ c a w, Q (.panic c) (a.put oi.dst v) w → Q (.panic c) a w) :
  ∀ (fuel : Nat) (listed : Array Bool) (a : Act) (w : World),
   (∀ j oj, ops[j]? = some oj → j ≠ i → listed.getD j true = false → (∀ e ∈ oj.after, Region.binds md e = true → e.on ≠ i) → oi.apart ops oj = true) →
   i ∈ Region.ready md ops listed → YieldsIf P ops S oi v a → S w →
   wpAnyG P md ops Q S g fuel (listed.setIfInBounds i true) (a.put oi.dst v) w → wpAnyG P md ops Q S g (fuel + 1) listed a w := by
 intro fuel
 induction fuel with
 | zero =>
  intro listed a w _ hr hy hS H
  refine ⟨fun h => (by rw [h] at hr; cases hr), fun j hj => ?_⟩
  by_cases hji : j = i
  ·subst hji; exact hy.wpOp hi hS ⟨fun _ => hS, H⟩
  ·have := ready_mono hj hji
   rw [H.1] at this
   cases this
 | succ fuel ih =>
  intro listed a w hfree hr hy hS H
  refine ⟨fun h => (by rw [h] at hr; cases hr), fun j hj => ?_⟩
  by_cases hji : j = i
  ·subst hji; exact hy.wpOp hi hS ⟨fun _ => hS, H⟩
  ·have hun := (ready_mem hr).2.1
   have hjg : j ≠ g := by
    intro e
    subst e
    have h1 := waits_listed hgi hj
    rcases Nat.lt_or_ge i listed.size with h' | h'
    ·simp [Array.getD, h'] at hun h1
     rw [hun] at h1
     cases h1
    ·simp [Array.getD, Nat.not_lt.2 h'] at h1
   have h1 := H.2 j (ready_mono hj hji)
   have hoj' := (ready_mem hj).1
   obtain ⟨oj, hoj⟩ : ∃ oj, ops[j]? = some oj := ⟨ops[j], by simp [hoj']⟩
   have hjun := (ready_mem hj).2.1
   have hnot : ∀ e ∈ oj.after, Region.binds md e = true → e.on ≠ i := fun e he hb heq => by
    have h1 := (ready_mem hj).2.2 oj hoj e he hb
    rw [heq] at h1
    rcases Nat.lt_or_ge i listed.size with h' | h'
    ·simp [Array.getD, h'] at hun h1
     rw [hun] at h1
     cases h1
    ·simp [Array.getD, Nat.not_lt.2 h'] at h1
   have h2 := wpOp_putIf hoj (hfree j oj hoj hji hjun hnot) (fun cs b => hsel i oi cs b hi) (fun cs b => hsel j oj cs b hoj) hQ hy h1
   have hfree' : ∀ k ok, ops[k]? = some ok → k ≠ i → (listed.setIfInBounds j true).getD k true = false →
     (∀ e ∈ ok.after, Region.binds md e = true → e.on ≠ i) → oi.apart ops ok = true := fun k ok hk hki hun hno => by
    refine hfree k ok hk hki ?_ hno
    by_cases hjk : j = k
    ·subst hjk; exact hjun
    ·rw [getD_set_ne true hjk] at hun; exact hun
   refine wpOp_mono (fun a' w' h3 => ⟨fun _ => h3.2.1 hjg, ih (listed.setIfInBounds j true) a' w' hfree' (ready_mono hr (Ne.symm hji)) h3.1 (h3.2.1 hjg) ?_⟩) h2
   rw [Array.setIfInBounds_comm _ _ hji]
   exact h3.2.2
theorem region_G {id : Nat} {a : Act} {w : World} (S : World → Prop) (g : Nat) (hm : P.follows .mixedOrders = true) (hS : S w.drew)
  (h : S w.drew → wpAnyG P .any ops (NoPanic Q) S g ops.size (Array.replicate ops.size false) a w.drew) : (Code.region id ops true).wp P Q a w :=
 wp_region_noPanic (wp_region_any hm (wpAny_of_G _ _ _ _ (h hS)))
theorem take_G {i d : Nat} {oi : Oper} {v : Value} {fuel : Nat} {listed : Array Bool} {a : Act} {w : World} (hi : ops[i]? = some oi) (hd : oi.dst = some d) (hgi : waitsFor md ops g i = true) (hig : (i == g) = false)
  (hs : Region.noSelect ops = true) (hf : Region.free md ops listed i = true) (hr : (Region.ready md ops listed).contains i = true)
  (hy : YieldsIf P ops S oi v a) (hS : S w)
  (h : wpAnyG P md ops (NoPanic Q) S g fuel (listed.setIfInBounds i true) (a.put (some d) v) w) : wpAnyG P md ops (NoPanic Q) S g (fuel + 1) listed a w := by
 refine G_first hi hgi (by simpa using hig) (Region.noSelect_spec hs) (fun _ _ _ h => h) fuel listed a w (Region.free_spec hi hf) (by simpa using hr) hy hS ?_
 rw [hd]
 exact h
theorem one_G {i fuel : Nat} {listed : Array Bool} {a : Act} {w : World} (hr : Region.ready md ops listed = [i])
  (h : wpOp P ops (NoPanic Q) i (fun a' w' => (i ≠ g → S w') ∧ wpAnyG P md ops (NoPanic Q) S g fuel (listed.setIfInBounds i true) a' w') a w) : wpAnyG P md ops (NoPanic Q) S g (fuel + 1) listed a w :=
 ⟨fun h0 => by (rw [hr] at h0; cases h0), fun j hj => by rw [hr] at hj; cases List.mem_singleton.1 hj; exact h⟩
theorem step_G {i fuel : Nat} {listed : Array Bool} {a : Act} {w : World} (hr : Region.ready md ops listed = [i])
  (h : ∀ K : Act → World → Prop, (∀ a' w', (i ≠ g → S w') → wpAnyG P md ops (NoPanic Q) S g fuel (listed.setIfInBounds i true) a' w' → K a' w') → wpOp P ops (NoPanic Q) i K a w) : wpAnyG P md ops (NoPanic Q) S g (fuel + 1) listed a w :=
 one_G hr (h _ (fun a' w' h1 h2 => ⟨h1, h2⟩))
theorem done_G {fuel : Nat} {listed : Array Bool} {a : Act} {w : World} (hr : Region.ready md ops listed = []) (h : NoPanic Q .normal a w) : wpAnyG P md ops (NoPanic Q) S g fuel listed a w := by
 cases fuel with
 | zero => exact ⟨hr, h⟩
 | succ f => exact ⟨fun _ => h, fun j hj => by rw [hr] at hj; cases hj⟩
end
end Go.Proofs.YtjobgjcfkomhpaaGreat
namespace Go.Proofs.YtjobgjcfkomhpaaGreat
open Go.RowKit Go.Shelf Go.Proofs.Wd
set_option maxRecDepth 10000
theorem wpOp_wantP {P : Program} {ops : Array Oper} {Q : Exit → Act → World → Prop} {i : Nat} {K : Act → World → Prop} {a : Act} {w : World} {o : Oper} (hi : ops[i]? = some o) (hw : Region.wanted o (yielded ops a.tmps) = true) (h : o.wp P a w K Q) : wpOp P ops Q i K a w := by
 unfold wpOp
 rw [hi]
 simp only
 rw [if_pos hw]
 exact Or.inl h
def likeM (R C : Int) (len : Nat) (R0 C0 : Int) : Prop := okM R C len ∧ R = R0 ∧ C = C0
open Classical in
noncomputable def badM (R C : Int) (len : Nat) (R0 C0 : Int) : Bool := decide (¬ likeM R C len R0 C0)
theorem badM_yes {R C R0 C0 : Int} {len : Nat} (h : ¬ likeM R C len R0 C0) : badM R C len R0 C0 = true := by classical exact decide_eq_true h
theorem badM_no {R C R0 C0 : Int} {len : Nat} (h : likeM R C len R0 C0) : badM R C len R0 C0 = false := by classical exact decide_eq_false (fun k => k h)
set_option maxRecDepth 50000 in
set_option maxHeartbeats 4000000 in
theorem polyn1_bad (R C R0 C0 : Int) (ao : Option Addr) (len cap pb b o n pc : Nat) (hn : 1 ≤ n) (hb : ¬ okM R C len) (w : World) (hp : w.cell? ⟨pb, 0, none⟩ = some (.slice (some ⟨b, o, none⟩) n pc)) (h0 : w.cell? ⟨b, o, none⟩ = some (.int .i64 R0)) (h1 : w.cell? ⟨b, o + 1, none⟩ = some (.int .i64 C0)) :
  Calls Tryz.prog 123 #[.agg #[.int .i64 R, .int .i64 C, .slice ao len cap], .pointer (some ⟨pb, 0, none⟩)] w fun e w' => e = .returned (.bool true) ∧ Grown w w' := by
 have CK := hide (fun w => matCheck R C ao len cap w)
 rw [chk_bad hb] at CK
 have g1 : Grown w (w.alloc (.cells #[.int .i64 R, .int .i64 C, .slice ao len cap] 38)) := (Grown.refl _).alloc _ _
 have b1 := Blk.new w #[.int .i64 R, .int .i64 C, .slice ao len cap] 38
 have HH : Hid ((fun w' => w'.cell? ⟨w.heap.size, 0, none⟩ = some (.int .i64 R) ∧ w'.cell? ⟨w.heap.size, 1, none⟩ = some (.int .i64 C) ∧ w'.cell? ⟨w.heap.size, 2, none⟩ = some (.slice ao len cap) ∧ w'.cell? ⟨pb, 0, none⟩ = some (.slice (some ⟨b, o, none⟩) n pc) ∧ w'.cell? ⟨b, o, none⟩ = some (.int .i64 R0) ∧ w'.cell? ⟨b, o + 1, none⟩ = some (.int .i64 C0)) (w.alloc (.cells #[.int .i64 R, .int .i64 C, .slice ao len cap] 38))) := ⟨Blk.cell b1 0, Blk.cell b1 1, Blk.cell b1 2, gat g1 hp, gat g1 h0, gat g1 h1⟩
 have HG := hide g1
 have i0 : (0 : Int) < (n : Int) := by omega
 clear g1 b1 hp h0 h1 hb
 go_enter Tryz.func123, Tryz.ntmps123
 go_wp2_with fail
 generalize w.alloc (.cells #[.int .i64 R, .int .i64 C, .slice ao len cap] 38) = w1 at *
 have HH2 : Hid ((fun w' => w'.cell? ⟨w.heap.size, 0, none⟩ = some (.int .i64 R) ∧ w'.cell? ⟨w.heap.size, 1, none⟩ = some (.int .i64 C) ∧ w'.cell? ⟨w.heap.size, 2, none⟩ = some (.slice ao len cap) ∧ w'.cell? ⟨pb, 0, none⟩ = some (.slice (some ⟨b, o, none⟩) n pc) ∧ w'.cell? ⟨b, o, none⟩ = some (.int .i64 R0) ∧ w'.cell? ⟨b, o + 1, none⟩ = some (.int .i64 C0)) w1.drew) := unhide HH
 clear HH
 have HH := HH2
 clear HH2
 refine region_G (fun w' => w'.cell? ⟨w.heap.size, 0, none⟩ = some (.int .i64 R) ∧ w'.cell? ⟨w.heap.size, 1, none⟩ = some (.int .i64 C) ∧ w'.cell? ⟨w.heap.size, 2, none⟩ = some (.slice ao len cap) ∧ w'.cell? ⟨pb, 0, none⟩ = some (.slice (some ⟨b, o, none⟩) n pc) ∧ w'.cell? ⟨b, o, none⟩ = some (.int .i64 R0) ∧ w'.cell? ⟨b, o + 1, none⟩ = some (.int .i64 C0)) 21 (by kernel_rfl) (unhide HH) (fun hHeld => ?_)
 refine take_G (i := 0) (d := 4) (v := .agg #[.int .i64 R, .int .i64 C, .slice ao len cap]) rfl rfl (by kernel_rfl) (by kernel_rfl) (by kernel_rfl) (by kernel_rfl) (by kernel_rfl) (Or.inl ⟨by rfl, ?_⟩) hHeld ?_
 ·intro wS hSw
  obtain ⟨z0, z1, z2, z3, z4, z5⟩ := hSw
  clear hHeld
  go_simp
  (try (intro hz; omega))
 (try simp only [Act.put, List.setIfInBounds_toArray, List.set_cons_zero, List.set_cons_succ])
 refine step_G (i := 1) (by kernel_rfl) (fun K hK => ?_)
 refine wpOp_wantP rfl (by rfl) ?_
 unfold Oper.wp
 go_simp
 refine (unhide CK _).mono ?_
 rintro e w3 ⟨rfl, g3⟩
 have hHeld : (fun w' => w'.cell? ⟨w.heap.size, 0, none⟩ = some (.int .i64 R) ∧ w'.cell? ⟨w.heap.size, 1, none⟩ = some (.int .i64 C) ∧ w'.cell? ⟨w.heap.size, 2, none⟩ = some (.slice ao len cap) ∧ w'.cell? ⟨pb, 0, none⟩ = some (.slice (some ⟨b, o, none⟩) n pc) ∧ w'.cell? ⟨b, o, none⟩ = some (.int .i64 R0) ∧ w'.cell? ⟨b, o + 1, none⟩ = some (.int .i64 C0)) w3 := ⟨gat g3 (unhide HH).1, gat g3 (unhide HH).2.1, gat g3 (unhide HH).2.2.1, gat g3 (unhide HH).2.2.2.1, gat g3 (unhide HH).2.2.2.2.1, gat g3 (unhide HH).2.2.2.2.2⟩
 have GG := hide (gtrans (unhide HG) g3)
 clear g3 HG
 refine hK _ _ (fun _ => hHeld) ?_
 clear hK K
 (try simp only [Act.put, List.setIfInBounds_toArray, List.set_cons_zero, List.set_cons_succ])
 refine take_G (i := 2) (d := 6) (v := .bool true) rfl rfl (by kernel_rfl) (by kernel_rfl) (by kernel_rfl) (by kernel_rfl) (by kernel_rfl) (Or.inl ⟨by rfl, ?_⟩) hHeld ?_
 ·intro wS hSw
  obtain ⟨z0, z1, z2, z3, z4, z5⟩ := hSw
  clear hHeld
  go_simp
  (try (intro hz; omega))
 (try simp only [Act.put, List.setIfInBounds_toArray, List.set_cons_zero, List.set_cons_succ])
 refine take_G (i := 3) (d := 7) (v := .bool true) rfl rfl (by kernel_rfl) (by kernel_rfl) (by kernel_rfl) (by kernel_rfl) (by kernel_rfl) (Or.inl ⟨by rfl, ?_⟩) hHeld ?_
 ·intro wS hSw
  obtain ⟨z0, z1, z2, z3, z4, z5⟩ := hSw
  clear hHeld
  go_simp
  (try (intro hz; omega))
 (try simp only [Act.put, List.setIfInBounds_toArray, List.set_cons_zero, List.set_cons_succ])
 refine take_G (i := 4) (d := 8) (v := undef) rfl rfl (by kernel_rfl) (by kernel_rfl) (by kernel_rfl) (by kernel_rfl) (by kernel_rfl) (Or.inr ⟨by rfl, rfl⟩) hHeld ?_
 (try simp only [Act.put, List.setIfInBounds_toArray, List.set_cons_zero, List.set_cons_succ])
 refine take_G (i := 5) (d := 9) (v := undef) rfl rfl (by kernel_rfl) (by kernel_rfl) (by kernel_rfl) (by kernel_rfl) (by kernel_rfl) (Or.inr ⟨by rfl, rfl⟩) hHeld ?_
 (try simp only [Act.put, List.setIfInBounds_toArray, List.set_cons_zero, List.set_cons_succ])
 refine take_G (i := 6) (d := 10) (v := undef) rfl rfl (by kernel_rfl) (by kernel_rfl) (by kernel_rfl) (by kernel_rfl) (by kernel_rfl) (Or.inr ⟨by rfl, rfl⟩) hHeld ?_
 (try simp only [Act.put, List.setIfInBounds_toArray, List.set_cons_zero, List.set_cons_succ])
 refine take_G (i := 7) (d := 11) (v := undef) rfl rfl (by kernel_rfl) (by kernel_rfl) (by kernel_rfl) (by kernel_rfl) (by kernel_rfl) (Or.inr ⟨by rfl, rfl⟩) hHeld ?_
 (try simp only [Act.put, List.setIfInBounds_toArray, List.set_cons_zero, List.set_cons_succ])
 refine take_G (i := 8) (d := 12) (v := undef) rfl rfl (by kernel_rfl) (by kernel_rfl) (by kernel_rfl) (by kernel_rfl) (by kernel_rfl) (Or.inr ⟨by rfl, rfl⟩) hHeld ?_
 (try simp only [Act.put, List.setIfInBounds_toArray, List.set_cons_zero, List.set_cons_succ])
 refine take_G (i := 9) (d := 13) (v := undef) rfl rfl (by kernel_rfl) (by kernel_rfl) (by kernel_rfl) (by kernel_rfl) (by kernel_rfl) (Or.inr ⟨by rfl, rfl⟩) hHeld ?_
 (try simp only [Act.put, List.setIfInBounds_toArray, List.set_cons_zero, List.set_cons_succ])
 refine take_G (i := 10) (d := 14) (v := undef) rfl rfl (by kernel_rfl) (by kernel_rfl) (by kernel_rfl) (by kernel_rfl) (by kernel_rfl) (Or.inr ⟨by rfl, rfl⟩) hHeld ?_
 (try simp only [Act.put, List.setIfInBounds_toArray, List.set_cons_zero, List.set_cons_succ])
 refine take_G (i := 11) (d := 15) (v := .bool true) rfl rfl (by kernel_rfl) (by kernel_rfl) (by kernel_rfl) (by kernel_rfl) (by kernel_rfl) (Or.inl ⟨by rfl, ?_⟩) hHeld ?_
 ·intro wS hSw
  obtain ⟨z0, z1, z2, z3, z4, z5⟩ := hSw
  clear hHeld
  go_simp
  (try (intro hz; omega))
 (try simp only [Act.put, List.setIfInBounds_toArray, List.set_cons_zero, List.set_cons_succ])
 refine take_G (i := 12) (d := 16) (v := .bool true) rfl rfl (by kernel_rfl) (by kernel_rfl) (by kernel_rfl) (by kernel_rfl) (by kernel_rfl) (Or.inl ⟨by rfl, ?_⟩) hHeld ?_
 ·intro wS hSw
  obtain ⟨z0, z1, z2, z3, z4, z5⟩ := hSw
  clear hHeld
  go_simp
  (try (intro hz; omega))
 (try simp only [Act.put, List.setIfInBounds_toArray, List.set_cons_zero, List.set_cons_succ])
 refine take_G (i := 13) (d := 17) (v := undef) rfl rfl (by kernel_rfl) (by kernel_rfl) (by kernel_rfl) (by kernel_rfl) (by kernel_rfl) (Or.inr ⟨by rfl, rfl⟩) hHeld ?_
 (try simp only [Act.put, List.setIfInBounds_toArray, List.set_cons_zero, List.set_cons_succ])
 refine take_G (i := 14) (d := 18) (v := undef) rfl rfl (by kernel_rfl) (by kernel_rfl) (by kernel_rfl) (by kernel_rfl) (by kernel_rfl) (Or.inr ⟨by rfl, rfl⟩) hHeld ?_
 (try simp only [Act.put, List.setIfInBounds_toArray, List.set_cons_zero, List.set_cons_succ])
 refine take_G (i := 15) (d := 19) (v := undef) rfl rfl (by kernel_rfl) (by kernel_rfl) (by kernel_rfl) (by kernel_rfl) (by kernel_rfl) (Or.inr ⟨by rfl, rfl⟩) hHeld ?_
 (try simp only [Act.put, List.setIfInBounds_toArray, List.set_cons_zero, List.set_cons_succ])
 refine take_G (i := 16) (d := 20) (v := undef) rfl rfl (by kernel_rfl) (by kernel_rfl) (by kernel_rfl) (by kernel_rfl) (by kernel_rfl) (Or.inr ⟨by rfl, rfl⟩) hHeld ?_
 (try simp only [Act.put, List.setIfInBounds_toArray, List.set_cons_zero, List.set_cons_succ])
 refine take_G (i := 17) (d := 21) (v := undef) rfl rfl (by kernel_rfl) (by kernel_rfl) (by kernel_rfl) (by kernel_rfl) (by kernel_rfl) (Or.inr ⟨by rfl, rfl⟩) hHeld ?_
 (try simp only [Act.put, List.setIfInBounds_toArray, List.set_cons_zero, List.set_cons_succ])
 refine take_G (i := 18) (d := 22) (v := undef) rfl rfl (by kernel_rfl) (by kernel_rfl) (by kernel_rfl) (by kernel_rfl) (by kernel_rfl) (Or.inr ⟨by rfl, rfl⟩) hHeld ?_
 (try simp only [Act.put, List.setIfInBounds_toArray, List.set_cons_zero, List.set_cons_succ])
 refine take_G (i := 19) (d := 23) (v := undef) rfl rfl (by kernel_rfl) (by kernel_rfl) (by kernel_rfl) (by kernel_rfl) (by kernel_rfl) (Or.inr ⟨by rfl, rfl⟩) hHeld ?_
 (try simp only [Act.put, List.setIfInBounds_toArray, List.set_cons_zero, List.set_cons_succ])
 refine take_G (i := 20) (d := 24) (v := .bool true) rfl rfl (by kernel_rfl) (by kernel_rfl) (by kernel_rfl) (by kernel_rfl) (by kernel_rfl) (Or.inl ⟨by rfl, ?_⟩) hHeld ?_
 ·intro wS hSw
  obtain ⟨z0, z1, z2, z3, z4, z5⟩ := hSw
  clear hHeld
  go_simp
  (try (intro hz; omega))
 (try simp only [Act.put, List.setIfInBounds_toArray, List.set_cons_zero, List.set_cons_succ])
 clear hHeld
 refine step_G (i := 21) (by kernel_rfl) (fun K hK => ?_)
 refine wpOp_wantP rfl (by rfl) ?_
 unfold Oper.wp
 go_simp
 refine hK _ _ (fun h => absurd rfl h) ?_
 clear hK K
 (try simp only [Act.put, List.setIfInBounds_toArray, List.set_cons_zero, List.set_cons_succ])
 refine done_G (by kernel_rfl) ?_
 refine noPanic_normalE ?_
 go_wp2
 go_ret
 exact ⟨rfl, unhide GG⟩
set_option maxRecDepth 50000 in
set_option maxHeartbeats 4000000 in
theorem polyn1_R (R C R0 C0 : Int) (ao : Option Addr) (len cap pb b o n pc : Nat) (hn : 1 ≤ n) (hb : okM R C len) (hr : R ≠ R0) (w : World) (hp : w.cell? ⟨pb, 0, none⟩ = some (.slice (some ⟨b, o, none⟩) n pc)) (h0 : w.cell? ⟨b, o, none⟩ = some (.int .i64 R0)) (h1 : w.cell? ⟨b, o + 1, none⟩ = some (.int .i64 C0)) :
  Calls Tryz.prog 123 #[.agg #[.int .i64 R, .int .i64 C, .slice ao len cap], .pointer (some ⟨pb, 0, none⟩)] w fun e w' => e = .returned (.bool true) ∧ Grown w w' := by
 have CK := hide (fun w => matCheck R C ao len cap w)
 rw [chk_ok hb] at CK
 have g1 : Grown w (w.alloc (.cells #[.int .i64 R, .int .i64 C, .slice ao len cap] 38)) := (Grown.refl _).alloc _ _
 have b1 := Blk.new w #[.int .i64 R, .int .i64 C, .slice ao len cap] 38
 have HH : Hid ((fun w' => w'.cell? ⟨w.heap.size, 0, none⟩ = some (.int .i64 R) ∧ w'.cell? ⟨w.heap.size, 1, none⟩ = some (.int .i64 C) ∧ w'.cell? ⟨w.heap.size, 2, none⟩ = some (.slice ao len cap) ∧ w'.cell? ⟨pb, 0, none⟩ = some (.slice (some ⟨b, o, none⟩) n pc) ∧ w'.cell? ⟨b, o, none⟩ = some (.int .i64 R0) ∧ w'.cell? ⟨b, o + 1, none⟩ = some (.int .i64 C0)) (w.alloc (.cells #[.int .i64 R, .int .i64 C, .slice ao len cap] 38))) := ⟨Blk.cell b1 0, Blk.cell b1 1, Blk.cell b1 2, gat g1 hp, gat g1 h0, gat g1 h1⟩
 have HG := hide g1
 have i0 : (0 : Int) < (n : Int) := by omega
 have b2 : (R != R0) = true := by simpa using hr
 clear g1 b1 hp h0 h1 hb hr
 go_enter Tryz.func123, Tryz.ntmps123
 go_wp2_with fail
 generalize w.alloc (.cells #[.int .i64 R, .int .i64 C, .slice ao len cap] 38) = w1 at *
 have HH2 : Hid ((fun w' => w'.cell? ⟨w.heap.size, 0, none⟩ = some (.int .i64 R) ∧ w'.cell? ⟨w.heap.size, 1, none⟩ = some (.int .i64 C) ∧ w'.cell? ⟨w.heap.size, 2, none⟩ = some (.slice ao len cap) ∧ w'.cell? ⟨pb, 0, none⟩ = some (.slice (some ⟨b, o, none⟩) n pc) ∧ w'.cell? ⟨b, o, none⟩ = some (.int .i64 R0) ∧ w'.cell? ⟨b, o + 1, none⟩ = some (.int .i64 C0)) w1.drew) := unhide HH
 clear HH
 have HH := HH2
 clear HH2
 refine region_G (fun w' => w'.cell? ⟨w.heap.size, 0, none⟩ = some (.int .i64 R) ∧ w'.cell? ⟨w.heap.size, 1, none⟩ = some (.int .i64 C) ∧ w'.cell? ⟨w.heap.size, 2, none⟩ = some (.slice ao len cap) ∧ w'.cell? ⟨pb, 0, none⟩ = some (.slice (some ⟨b, o, none⟩) n pc) ∧ w'.cell? ⟨b, o, none⟩ = some (.int .i64 R0) ∧ w'.cell? ⟨b, o + 1, none⟩ = some (.int .i64 C0)) 21 (by kernel_rfl) (unhide HH) (fun hHeld => ?_)
 refine take_G (i := 0) (d := 4) (v := .agg #[.int .i64 R, .int .i64 C, .slice ao len cap]) rfl rfl (by kernel_rfl) (by kernel_rfl) (by kernel_rfl) (by kernel_rfl) (by kernel_rfl) (Or.inl ⟨by rfl, ?_⟩) hHeld ?_
 ·intro wS hSw
  obtain ⟨z0, z1, z2, z3, z4, z5⟩ := hSw
  clear hHeld
  go_simp
  (try (intro hz; omega))
 (try simp only [Act.put, List.setIfInBounds_toArray, List.set_cons_zero, List.set_cons_succ])
 refine step_G (i := 1) (by kernel_rfl) (fun K hK => ?_)
 refine wpOp_wantP rfl (by rfl) ?_
 unfold Oper.wp
 go_simp
 refine (unhide CK _).mono ?_
 rintro e w3 ⟨rfl, g3⟩
 have hHeld : (fun w' => w'.cell? ⟨w.heap.size, 0, none⟩ = some (.int .i64 R) ∧ w'.cell? ⟨w.heap.size, 1, none⟩ = some (.int .i64 C) ∧ w'.cell? ⟨w.heap.size, 2, none⟩ = some (.slice ao len cap) ∧ w'.cell? ⟨pb, 0, none⟩ = some (.slice (some ⟨b, o, none⟩) n pc) ∧ w'.cell? ⟨b, o, none⟩ = some (.int .i64 R0) ∧ w'.cell? ⟨b, o + 1, none⟩ = some (.int .i64 C0)) w3 := ⟨gat g3 (unhide HH).1, gat g3 (unhide HH).2.1, gat g3 (unhide HH).2.2.1, gat g3 (unhide HH).2.2.2.1, gat g3 (unhide HH).2.2.2.2.1, gat g3 (unhide HH).2.2.2.2.2⟩
 have GG := hide (gtrans (unhide HG) g3)
 clear g3 HG
 refine hK _ _ (fun _ => hHeld) ?_
 clear hK K
 (try simp only [Act.put, List.setIfInBounds_toArray, List.set_cons_zero, List.set_cons_succ])
 refine take_G (i := 2) (d := 6) (v := .bool false) rfl rfl (by kernel_rfl) (by kernel_rfl) (by kernel_rfl) (by kernel_rfl) (by kernel_rfl) (Or.inl ⟨by rfl, ?_⟩) hHeld ?_
 ·intro wS hSw
  obtain ⟨z0, z1, z2, z3, z4, z5⟩ := hSw
  clear hHeld
  go_simp
  (try (intro hz; omega))
 (try simp only [Act.put, List.setIfInBounds_toArray, List.set_cons_zero, List.set_cons_succ])
 refine take_G (i := 3) (d := 7) (v := .bool false) rfl rfl (by kernel_rfl) (by kernel_rfl) (by kernel_rfl) (by kernel_rfl) (by kernel_rfl) (Or.inl ⟨by rfl, ?_⟩) hHeld ?_
 ·intro wS hSw
  obtain ⟨z0, z1, z2, z3, z4, z5⟩ := hSw
  clear hHeld
  go_simp
  (try (intro hz; omega))
 (try simp only [Act.put, List.setIfInBounds_toArray, List.set_cons_zero, List.set_cons_succ])
 refine take_G (i := 4) (d := 8) (v := .pointer (some ⟨w.heap.size, 0, none⟩)) rfl rfl (by kernel_rfl) (by kernel_rfl) (by kernel_rfl) (by kernel_rfl) (by kernel_rfl) (Or.inl ⟨by rfl, ?_⟩) hHeld ?_
 ·intro wS hSw
  obtain ⟨z0, z1, z2, z3, z4, z5⟩ := hSw
  clear hHeld
  go_simp
  (try (intro hz; omega))
 (try simp only [Act.put, List.setIfInBounds_toArray, List.set_cons_zero, List.set_cons_succ])
 refine take_G (i := 5) (d := 9) (v := .int .i64 R) rfl rfl (by kernel_rfl) (by kernel_rfl) (by kernel_rfl) (by kernel_rfl) (by kernel_rfl) (Or.inl ⟨by rfl, ?_⟩) hHeld ?_
 ·intro wS hSw
  obtain ⟨z0, z1, z2, z3, z4, z5⟩ := hSw
  clear hHeld
  go_simp
  (try (intro hz; omega))
 (try simp only [Act.put, List.setIfInBounds_toArray, List.set_cons_zero, List.set_cons_succ])
 refine take_G (i := 6) (d := 10) (v := .slice (some ⟨b, o, none⟩) n pc) rfl rfl (by kernel_rfl) (by kernel_rfl) (by kernel_rfl) (by kernel_rfl) (by kernel_rfl) (Or.inl ⟨by rfl, ?_⟩) hHeld ?_
 ·intro wS hSw
  obtain ⟨z0, z1, z2, z3, z4, z5⟩ := hSw
  clear hHeld
  go_simp
  (try (intro hz; omega))
 (try simp only [Act.put, List.setIfInBounds_toArray, List.set_cons_zero, List.set_cons_succ])
 refine take_G (i := 7) (d := 11) (v := .pointer (some ⟨b, o, none⟩)) rfl rfl (by kernel_rfl) (by kernel_rfl) (by kernel_rfl) (by kernel_rfl) (by kernel_rfl) (Or.inl ⟨by rfl, ?_⟩) hHeld ?_
 ·intro wS hSw
  obtain ⟨z0, z1, z2, z3, z4, z5⟩ := hSw
  clear hHeld
  go_simp
  (try (intro hz; omega))
 (try simp only [Act.put, List.setIfInBounds_toArray, List.set_cons_zero, List.set_cons_succ])
 refine take_G (i := 8) (d := 12) (v := .pointer (some ⟨b, o, none⟩)) rfl rfl (by kernel_rfl) (by kernel_rfl) (by kernel_rfl) (by kernel_rfl) (by kernel_rfl) (Or.inl ⟨by rfl, ?_⟩) hHeld ?_
 ·intro wS hSw
  obtain ⟨z0, z1, z2, z3, z4, z5⟩ := hSw
  clear hHeld
  go_simp
  (try (intro hz; omega))
 (try simp only [Act.put, List.setIfInBounds_toArray, List.set_cons_zero, List.set_cons_succ])
 refine take_G (i := 9) (d := 13) (v := .int .i64 R0) rfl rfl (by kernel_rfl) (by kernel_rfl) (by kernel_rfl) (by kernel_rfl) (by kernel_rfl) (Or.inl ⟨by rfl, ?_⟩) hHeld ?_
 ·intro wS hSw
  obtain ⟨z0, z1, z2, z3, z4, z5⟩ := hSw
  clear hHeld
  go_simp
  (try (intro hz; omega))
 (try simp only [Act.put, List.setIfInBounds_toArray, List.set_cons_zero, List.set_cons_succ])
 refine take_G (i := 10) (d := 14) (v := .bool true) rfl rfl (by kernel_rfl) (by kernel_rfl) (by kernel_rfl) (by kernel_rfl) (by kernel_rfl) (Or.inl ⟨by rfl, ?_⟩) hHeld ?_
 ·intro wS hSw
  obtain ⟨z0, z1, z2, z3, z4, z5⟩ := hSw
  clear hHeld
  go_simp
  (try (intro hz; omega))
 (try simp only [Act.put, List.setIfInBounds_toArray, List.set_cons_zero, List.set_cons_succ])
 refine take_G (i := 11) (d := 15) (v := .bool true) rfl rfl (by kernel_rfl) (by kernel_rfl) (by kernel_rfl) (by kernel_rfl) (by kernel_rfl) (Or.inl ⟨by rfl, ?_⟩) hHeld ?_
 ·intro wS hSw
  obtain ⟨z0, z1, z2, z3, z4, z5⟩ := hSw
  clear hHeld
  go_simp
  (try (intro hz; omega))
 (try simp only [Act.put, List.setIfInBounds_toArray, List.set_cons_zero, List.set_cons_succ])
 refine take_G (i := 12) (d := 16) (v := .bool true) rfl rfl (by kernel_rfl) (by kernel_rfl) (by kernel_rfl) (by kernel_rfl) (by kernel_rfl) (Or.inl ⟨by rfl, ?_⟩) hHeld ?_
 ·intro wS hSw
  obtain ⟨z0, z1, z2, z3, z4, z5⟩ := hSw
  clear hHeld
  go_simp
  (try (intro hz; omega))
 (try simp only [Act.put, List.setIfInBounds_toArray, List.set_cons_zero, List.set_cons_succ])
 refine take_G (i := 13) (d := 17) (v := undef) rfl rfl (by kernel_rfl) (by kernel_rfl) (by kernel_rfl) (by kernel_rfl) (by kernel_rfl) (Or.inr ⟨by rfl, rfl⟩) hHeld ?_
 (try simp only [Act.put, List.setIfInBounds_toArray, List.set_cons_zero, List.set_cons_succ])
 refine take_G (i := 14) (d := 18) (v := undef) rfl rfl (by kernel_rfl) (by kernel_rfl) (by kernel_rfl) (by kernel_rfl) (by kernel_rfl) (Or.inr ⟨by rfl, rfl⟩) hHeld ?_
 (try simp only [Act.put, List.setIfInBounds_toArray, List.set_cons_zero, List.set_cons_succ])
 refine take_G (i := 15) (d := 19) (v := undef) rfl rfl (by kernel_rfl) (by kernel_rfl) (by kernel_rfl) (by kernel_rfl) (by kernel_rfl) (Or.inr ⟨by rfl, rfl⟩) hHeld ?_
 (try simp only [Act.put, List.setIfInBounds_toArray, List.set_cons_zero, List.set_cons_succ])
 refine take_G (i := 16) (d := 20) (v := undef) rfl rfl (by kernel_rfl) (by kernel_rfl) (by kernel_rfl) (by kernel_rfl) (by kernel_rfl) (Or.inr ⟨by rfl, rfl⟩) hHeld ?_
 (try simp only [Act.put, List.setIfInBounds_toArray, List.set_cons_zero, List.set_cons_succ])
 refine take_G (i := 17) (d := 21) (v := undef) rfl rfl (by kernel_rfl) (by kernel_rfl) (by kernel_rfl) (by kernel_rfl) (by kernel_rfl) (Or.inr ⟨by rfl, rfl⟩) hHeld ?_
 (try simp only [Act.put, List.setIfInBounds_toArray, List.set_cons_zero, List.set_cons_succ])
 refine take_G (i := 18) (d := 22) (v := undef) rfl rfl (by kernel_rfl) (by kernel_rfl) (by kernel_rfl) (by kernel_rfl) (by kernel_rfl) (Or.inr ⟨by rfl, rfl⟩) hHeld ?_
 (try simp only [Act.put, List.setIfInBounds_toArray, List.set_cons_zero, List.set_cons_succ])
 refine take_G (i := 19) (d := 23) (v := undef) rfl rfl (by kernel_rfl) (by kernel_rfl) (by kernel_rfl) (by kernel_rfl) (by kernel_rfl) (Or.inr ⟨by rfl, rfl⟩) hHeld ?_
 (try simp only [Act.put, List.setIfInBounds_toArray, List.set_cons_zero, List.set_cons_succ])
 refine take_G (i := 20) (d := 24) (v := .bool true) rfl rfl (by kernel_rfl) (by kernel_rfl) (by kernel_rfl) (by kernel_rfl) (by kernel_rfl) (Or.inl ⟨by rfl, ?_⟩) hHeld ?_
 ·intro wS hSw
  obtain ⟨z0, z1, z2, z3, z4, z5⟩ := hSw
  clear hHeld
  go_simp
  (try (intro hz; omega))
 (try simp only [Act.put, List.setIfInBounds_toArray, List.set_cons_zero, List.set_cons_succ])
 clear hHeld
 refine step_G (i := 21) (by kernel_rfl) (fun K hK => ?_)
 refine wpOp_wantP rfl (by rfl) ?_
 unfold Oper.wp
 go_simp
 refine hK _ _ (fun h => absurd rfl h) ?_
 clear hK K
 (try simp only [Act.put, List.setIfInBounds_toArray, List.set_cons_zero, List.set_cons_succ])
 refine done_G (by kernel_rfl) ?_
 refine noPanic_normalE ?_
 go_wp2
 go_ret
 exact ⟨rfl, unhide GG⟩
set_option maxRecDepth 50000 in
set_option maxHeartbeats 4000000 in
theorem polyn1_C (R C R0 C0 : Int) (ao : Option Addr) (len cap pb b o n pc : Nat) (hn : 1 ≤ n) (hb : okM R C len) (hr : C ≠ C0) (hR : R = R0) (w : World) (hp : w.cell? ⟨pb, 0, none⟩ = some (.slice (some ⟨b, o, none⟩) n pc)) (h0 : w.cell? ⟨b, o, none⟩ = some (.int .i64 R0)) (h1 : w.cell? ⟨b, o + 1, none⟩ = some (.int .i64 C0)) :
  Calls Tryz.prog 123 #[.agg #[.int .i64 R, .int .i64 C, .slice ao len cap], .pointer (some ⟨pb, 0, none⟩)] w fun e w' => e = .returned (.bool true) ∧ Grown w w' := by
 have CK := hide (fun w => matCheck R C ao len cap w)
 rw [chk_ok hb] at CK
 have g1 : Grown w (w.alloc (.cells #[.int .i64 R, .int .i64 C, .slice ao len cap] 38)) := (Grown.refl _).alloc _ _
 have b1 := Blk.new w #[.int .i64 R, .int .i64 C, .slice ao len cap] 38
 have HH : Hid ((fun w' => w'.cell? ⟨w.heap.size, 0, none⟩ = some (.int .i64 R) ∧ w'.cell? ⟨w.heap.size, 1, none⟩ = some (.int .i64 C) ∧ w'.cell? ⟨w.heap.size, 2, none⟩ = some (.slice ao len cap) ∧ w'.cell? ⟨pb, 0, none⟩ = some (.slice (some ⟨b, o, none⟩) n pc) ∧ w'.cell? ⟨b, o, none⟩ = some (.int .i64 R0) ∧ w'.cell? ⟨b, o + 1, none⟩ = some (.int .i64 C0)) (w.alloc (.cells #[.int .i64 R, .int .i64 C, .slice ao len cap] 38))) := ⟨Blk.cell b1 0, Blk.cell b1 1, Blk.cell b1 2, gat g1 hp, gat g1 h0, gat g1 h1⟩
 have HG := hide g1
 have i0 : (0 : Int) < (n : Int) := by omega
 have b2 : (C != C0) = true := by simpa using hr
 have b3 : (R != R0) = false := by simpa using hR
 clear g1 b1 hp h0 h1 hb hr hR
 go_enter Tryz.func123, Tryz.ntmps123
 go_wp2_with fail
 generalize w.alloc (.cells #[.int .i64 R, .int .i64 C, .slice ao len cap] 38) = w1 at *
 have HH2 : Hid ((fun w' => w'.cell? ⟨w.heap.size, 0, none⟩ = some (.int .i64 R) ∧ w'.cell? ⟨w.heap.size, 1, none⟩ = some (.int .i64 C) ∧ w'.cell? ⟨w.heap.size, 2, none⟩ = some (.slice ao len cap) ∧ w'.cell? ⟨pb, 0, none⟩ = some (.slice (some ⟨b, o, none⟩) n pc) ∧ w'.cell? ⟨b, o, none⟩ = some (.int .i64 R0) ∧ w'.cell? ⟨b, o + 1, none⟩ = some (.int .i64 C0)) w1.drew) := unhide HH
 clear HH
 have HH := HH2
 clear HH2
 refine region_G (fun w' => w'.cell? ⟨w.heap.size, 0, none⟩ = some (.int .i64 R) ∧ w'.cell? ⟨w.heap.size, 1, none⟩ = some (.int .i64 C) ∧ w'.cell? ⟨w.heap.size, 2, none⟩ = some (.slice ao len cap) ∧ w'.cell? ⟨pb, 0, none⟩ = some (.slice (some ⟨b, o, none⟩) n pc) ∧ w'.cell? ⟨b, o, none⟩ = some (.int .i64 R0) ∧ w'.cell? ⟨b, o + 1, none⟩ = some (.int .i64 C0)) 21 (by kernel_rfl) (unhide HH) (fun hHeld => ?_)
 refine take_G (i := 0) (d := 4) (v := .agg #[.int .i64 R, .int .i64 C, .slice ao len cap]) rfl rfl (by kernel_rfl) (by kernel_rfl) (by kernel_rfl) (by kernel_rfl) (by kernel_rfl) (Or.inl ⟨by rfl, ?_⟩) hHeld ?_
 ·intro wS hSw
  obtain ⟨z0, z1, z2, z3, z4, z5⟩ := hSw
  clear hHeld
  go_simp
  (try (intro hz; omega))
 (try simp only [Act.put, List.setIfInBounds_toArray, List.set_cons_zero, List.set_cons_succ])
 refine step_G (i := 1) (by kernel_rfl) (fun K hK => ?_)
 refine wpOp_wantP rfl (by rfl) ?_
 unfold Oper.wp
 go_simp
 refine (unhide CK _).mono ?_
 rintro e w3 ⟨rfl, g3⟩
 have hHeld : (fun w' => w'.cell? ⟨w.heap.size, 0, none⟩ = some (.int .i64 R) ∧ w'.cell? ⟨w.heap.size, 1, none⟩ = some (.int .i64 C) ∧ w'.cell? ⟨w.heap.size, 2, none⟩ = some (.slice ao len cap) ∧ w'.cell? ⟨pb, 0, none⟩ = some (.slice (some ⟨b, o, none⟩) n pc) ∧ w'.cell? ⟨b, o, none⟩ = some (.int .i64 R0) ∧ w'.cell? ⟨b, o + 1, none⟩ = some (.int .i64 C0)) w3 := ⟨gat g3 (unhide HH).1, gat g3 (unhide HH).2.1, gat g3 (unhide HH).2.2.1, gat g3 (unhide HH).2.2.2.1, gat g3 (unhide HH).2.2.2.2.1, gat g3 (unhide HH).2.2.2.2.2⟩
 have GG := hide (gtrans (unhide HG) g3)
 clear g3 HG
 refine hK _ _ (fun _ => hHeld) ?_
 clear hK K
 (try simp only [Act.put, List.setIfInBounds_toArray, List.set_cons_zero, List.set_cons_succ])
 refine take_G (i := 2) (d := 6) (v := .bool false) rfl rfl (by kernel_rfl) (by kernel_rfl) (by kernel_rfl) (by kernel_rfl) (by kernel_rfl) (Or.inl ⟨by rfl, ?_⟩) hHeld ?_
 ·intro wS hSw
  obtain ⟨z0, z1, z2, z3, z4, z5⟩ := hSw
  clear hHeld
  go_simp
  (try (intro hz; omega))
 (try simp only [Act.put, List.setIfInBounds_toArray, List.set_cons_zero, List.set_cons_succ])
 refine take_G (i := 3) (d := 7) (v := .bool false) rfl rfl (by kernel_rfl) (by kernel_rfl) (by kernel_rfl) (by kernel_rfl) (by kernel_rfl) (Or.inl ⟨by rfl, ?_⟩) hHeld ?_
 ·intro wS hSw
  obtain ⟨z0, z1, z2, z3, z4, z5⟩ := hSw
  clear hHeld
  go_simp
  (try (intro hz; omega))
 (try simp only [Act.put, List.setIfInBounds_toArray, List.set_cons_zero, List.set_cons_succ])
 refine take_G (i := 4) (d := 8) (v := .pointer (some ⟨w.heap.size, 0, none⟩)) rfl rfl (by kernel_rfl) (by kernel_rfl) (by kernel_rfl) (by kernel_rfl) (by kernel_rfl) (Or.inl ⟨by rfl, ?_⟩) hHeld ?_
 ·intro wS hSw
  obtain ⟨z0, z1, z2, z3, z4, z5⟩ := hSw
  clear hHeld
  go_simp
  (try (intro hz; omega))
 (try simp only [Act.put, List.setIfInBounds_toArray, List.set_cons_zero, List.set_cons_succ])
 refine take_G (i := 5) (d := 9) (v := .int .i64 R) rfl rfl (by kernel_rfl) (by kernel_rfl) (by kernel_rfl) (by kernel_rfl) (by kernel_rfl) (Or.inl ⟨by rfl, ?_⟩) hHeld ?_
 ·intro wS hSw
  obtain ⟨z0, z1, z2, z3, z4, z5⟩ := hSw
  clear hHeld
  go_simp
  (try (intro hz; omega))
 (try simp only [Act.put, List.setIfInBounds_toArray, List.set_cons_zero, List.set_cons_succ])
 refine take_G (i := 6) (d := 10) (v := .slice (some ⟨b, o, none⟩) n pc) rfl rfl (by kernel_rfl) (by kernel_rfl) (by kernel_rfl) (by kernel_rfl) (by kernel_rfl) (Or.inl ⟨by rfl, ?_⟩) hHeld ?_
 ·intro wS hSw
  obtain ⟨z0, z1, z2, z3, z4, z5⟩ := hSw
  clear hHeld
  go_simp
  (try (intro hz; omega))
 (try simp only [Act.put, List.setIfInBounds_toArray, List.set_cons_zero, List.set_cons_succ])
 refine take_G (i := 7) (d := 11) (v := .pointer (some ⟨b, o, none⟩)) rfl rfl (by kernel_rfl) (by kernel_rfl) (by kernel_rfl) (by kernel_rfl) (by kernel_rfl) (Or.inl ⟨by rfl, ?_⟩) hHeld ?_
 ·intro wS hSw
  obtain ⟨z0, z1, z2, z3, z4, z5⟩ := hSw
  clear hHeld
  go_simp
  (try (intro hz; omega))
 (try simp only [Act.put, List.setIfInBounds_toArray, List.set_cons_zero, List.set_cons_succ])
 refine take_G (i := 8) (d := 12) (v := .pointer (some ⟨b, o, none⟩)) rfl rfl (by kernel_rfl) (by kernel_rfl) (by kernel_rfl) (by kernel_rfl) (by kernel_rfl) (Or.inl ⟨by rfl, ?_⟩) hHeld ?_
 ·intro wS hSw
  obtain ⟨z0, z1, z2, z3, z4, z5⟩ := hSw
  clear hHeld
  go_simp
  (try (intro hz; omega))
 (try simp only [Act.put, List.setIfInBounds_toArray, List.set_cons_zero, List.set_cons_succ])
 refine take_G (i := 9) (d := 13) (v := .int .i64 R0) rfl rfl (by kernel_rfl) (by kernel_rfl) (by kernel_rfl) (by kernel_rfl) (by kernel_rfl) (Or.inl ⟨by rfl, ?_⟩) hHeld ?_
 ·intro wS hSw
  obtain ⟨z0, z1, z2, z3, z4, z5⟩ := hSw
  clear hHeld
  go_simp
  (try (intro hz; omega))
 (try simp only [Act.put, List.setIfInBounds_toArray, List.set_cons_zero, List.set_cons_succ])
 refine take_G (i := 10) (d := 14) (v := .bool false) rfl rfl (by kernel_rfl) (by kernel_rfl) (by kernel_rfl) (by kernel_rfl) (by kernel_rfl) (Or.inl ⟨by rfl, ?_⟩) hHeld ?_
 ·intro wS hSw
  obtain ⟨z0, z1, z2, z3, z4, z5⟩ := hSw
  clear hHeld
  go_simp
  (try (intro hz; omega))
 (try simp only [Act.put, List.setIfInBounds_toArray, List.set_cons_zero, List.set_cons_succ])
 refine take_G (i := 11) (d := 15) (v := .bool false) rfl rfl (by kernel_rfl) (by kernel_rfl) (by kernel_rfl) (by kernel_rfl) (by kernel_rfl) (Or.inl ⟨by rfl, ?_⟩) hHeld ?_
 ·intro wS hSw
  obtain ⟨z0, z1, z2, z3, z4, z5⟩ := hSw
  clear hHeld
  go_simp
  (try (intro hz; omega))
 (try simp only [Act.put, List.setIfInBounds_toArray, List.set_cons_zero, List.set_cons_succ])
 refine take_G (i := 12) (d := 16) (v := .bool false) rfl rfl (by kernel_rfl) (by kernel_rfl) (by kernel_rfl) (by kernel_rfl) (by kernel_rfl) (Or.inl ⟨by rfl, ?_⟩) hHeld ?_
 ·intro wS hSw
  obtain ⟨z0, z1, z2, z3, z4, z5⟩ := hSw
  clear hHeld
  go_simp
  (try (intro hz; omega))
 (try simp only [Act.put, List.setIfInBounds_toArray, List.set_cons_zero, List.set_cons_succ])
 refine take_G (i := 13) (d := 17) (v := .pointer (some ⟨w.heap.size, 1, none⟩)) rfl rfl (by kernel_rfl) (by kernel_rfl) (by kernel_rfl) (by kernel_rfl) (by kernel_rfl) (Or.inl ⟨by rfl, ?_⟩) hHeld ?_
 ·intro wS hSw
  obtain ⟨z0, z1, z2, z3, z4, z5⟩ := hSw
  clear hHeld
  go_simp
  (try (intro hz; omega))
 (try simp only [Act.put, List.setIfInBounds_toArray, List.set_cons_zero, List.set_cons_succ])
 refine take_G (i := 14) (d := 18) (v := .int .i64 C) rfl rfl (by kernel_rfl) (by kernel_rfl) (by kernel_rfl) (by kernel_rfl) (by kernel_rfl) (Or.inl ⟨by rfl, ?_⟩) hHeld ?_
 ·intro wS hSw
  obtain ⟨z0, z1, z2, z3, z4, z5⟩ := hSw
  clear hHeld
  go_simp
  (try (intro hz; omega))
 (try simp only [Act.put, List.setIfInBounds_toArray, List.set_cons_zero, List.set_cons_succ])
 refine take_G (i := 15) (d := 19) (v := .slice (some ⟨b, o, none⟩) n pc) rfl rfl (by kernel_rfl) (by kernel_rfl) (by kernel_rfl) (by kernel_rfl) (by kernel_rfl) (Or.inl ⟨by rfl, ?_⟩) hHeld ?_
 ·intro wS hSw
  obtain ⟨z0, z1, z2, z3, z4, z5⟩ := hSw
  clear hHeld
  go_simp
  (try (intro hz; omega))
 (try simp only [Act.put, List.setIfInBounds_toArray, List.set_cons_zero, List.set_cons_succ])
 refine take_G (i := 16) (d := 20) (v := .pointer (some ⟨b, o, none⟩)) rfl rfl (by kernel_rfl) (by kernel_rfl) (by kernel_rfl) (by kernel_rfl) (by kernel_rfl) (Or.inl ⟨by rfl, ?_⟩) hHeld ?_
 ·intro wS hSw
  obtain ⟨z0, z1, z2, z3, z4, z5⟩ := hSw
  clear hHeld
  go_simp
  (try (intro hz; omega))
 (try simp only [Act.put, List.setIfInBounds_toArray, List.set_cons_zero, List.set_cons_succ])
 refine take_G (i := 17) (d := 21) (v := .pointer (some ⟨b, o + 1, none⟩)) rfl rfl (by kernel_rfl) (by kernel_rfl) (by kernel_rfl) (by kernel_rfl) (by kernel_rfl) (Or.inl ⟨by rfl, ?_⟩) hHeld ?_
 ·intro wS hSw
  obtain ⟨z0, z1, z2, z3, z4, z5⟩ := hSw
  clear hHeld
  go_simp
  (try (intro hz; omega))
 (try simp only [Act.put, List.setIfInBounds_toArray, List.set_cons_zero, List.set_cons_succ])
 refine take_G (i := 18) (d := 22) (v := .int .i64 C0) rfl rfl (by kernel_rfl) (by kernel_rfl) (by kernel_rfl) (by kernel_rfl) (by kernel_rfl) (Or.inl ⟨by rfl, ?_⟩) hHeld ?_
 ·intro wS hSw
  obtain ⟨z0, z1, z2, z3, z4, z5⟩ := hSw
  clear hHeld
  go_simp
  (try (intro hz; omega))
 (try simp only [Act.put, List.setIfInBounds_toArray, List.set_cons_zero, List.set_cons_succ])
 refine take_G (i := 19) (d := 23) (v := .bool true) rfl rfl (by kernel_rfl) (by kernel_rfl) (by kernel_rfl) (by kernel_rfl) (by kernel_rfl) (Or.inl ⟨by rfl, ?_⟩) hHeld ?_
 ·intro wS hSw
  obtain ⟨z0, z1, z2, z3, z4, z5⟩ := hSw
  clear hHeld
  go_simp
  (try (intro hz; omega))
 (try simp only [Act.put, List.setIfInBounds_toArray, List.set_cons_zero, List.set_cons_succ])
 refine take_G (i := 20) (d := 24) (v := .bool true) rfl rfl (by kernel_rfl) (by kernel_rfl) (by kernel_rfl) (by kernel_rfl) (by kernel_rfl) (Or.inl ⟨by rfl, ?_⟩) hHeld ?_
 ·intro wS hSw
  obtain ⟨z0, z1, z2, z3, z4, z5⟩ := hSw
  clear hHeld
  go_simp
  (try (intro hz; omega))
 (try simp only [Act.put, List.setIfInBounds_toArray, List.set_cons_zero, List.set_cons_succ])
 clear hHeld
 refine step_G (i := 21) (by kernel_rfl) (fun K hK => ?_)
 refine wpOp_wantP rfl (by rfl) ?_
 unfold Oper.wp
 go_simp
 refine hK _ _ (fun h => absurd rfl h) ?_
 clear hK K
 (try simp only [Act.put, List.setIfInBounds_toArray, List.set_cons_zero, List.set_cons_succ])
 refine done_G (by kernel_rfl) ?_
 refine noPanic_normalE ?_
 go_wp2
 go_ret
 exact ⟨rfl, unhide GG⟩
set_option maxRecDepth 50000 in
set_option maxHeartbeats 4000000 in
theorem polyn1_ok (R C R0 C0 : Int) (ao : Option Addr) (len cap pb b o n pc : Nat) (hn : 1 ≤ n) (hb : okM R C len) (hr : C = C0) (hR : R = R0) (w : World) (hp : w.cell? ⟨pb, 0, none⟩ = some (.slice (some ⟨b, o, none⟩) n pc)) (h0 : w.cell? ⟨b, o, none⟩ = some (.int .i64 R0)) (h1 : w.cell? ⟨b, o + 1, none⟩ = some (.int .i64 C0)) :
  Calls Tryz.prog 123 #[.agg #[.int .i64 R, .int .i64 C, .slice ao len cap], .pointer (some ⟨pb, 0, none⟩)] w fun e w' => e = .returned (.bool false) ∧ Grown w w' := by
 have CK := hide (fun w => matCheck R C ao len cap w)
 rw [chk_ok hb] at CK
 have g1 : Grown w (w.alloc (.cells #[.int .i64 R, .int .i64 C, .slice ao len cap] 38)) := (Grown.refl _).alloc _ _
 have b1 := Blk.new w #[.int .i64 R, .int .i64 C, .slice ao len cap] 38
 have HH : Hid ((fun w' => w'.cell? ⟨w.heap.size, 0, none⟩ = some (.int .i64 R) ∧ w'.cell? ⟨w.heap.size, 1, none⟩ = some (.int .i64 C) ∧ w'.cell? ⟨w.heap.size, 2, none⟩ = some (.slice ao len cap) ∧ w'.cell? ⟨pb, 0, none⟩ = some (.slice (some ⟨b, o, none⟩) n pc) ∧ w'.cell? ⟨b, o, none⟩ = some (.int .i64 R0) ∧ w'.cell? ⟨b, o + 1, none⟩ = some (.int .i64 C0)) (w.alloc (.cells #[.int .i64 R, .int .i64 C, .slice ao len cap] 38))) := ⟨Blk.cell b1 0, Blk.cell b1 1, Blk.cell b1 2, gat g1 hp, gat g1 h0, gat g1 h1⟩
 have HG := hide g1
 have i0 : (0 : Int) < (n : Int) := by omega
 have b2 : (C != C0) = false := by simpa using hr
 have b3 : (R != R0) = false := by simpa using hR
 clear g1 b1 hp h0 h1 hb hr hR
 go_enter Tryz.func123, Tryz.ntmps123
 go_wp2_with fail
 generalize w.alloc (.cells #[.int .i64 R, .int .i64 C, .slice ao len cap] 38) = w1 at *
 have HH2 : Hid ((fun w' => w'.cell? ⟨w.heap.size, 0, none⟩ = some (.int .i64 R) ∧ w'.cell? ⟨w.heap.size, 1, none⟩ = some (.int .i64 C) ∧ w'.cell? ⟨w.heap.size, 2, none⟩ = some (.slice ao len cap) ∧ w'.cell? ⟨pb, 0, none⟩ = some (.slice (some ⟨b, o, none⟩) n pc) ∧ w'.cell? ⟨b, o, none⟩ = some (.int .i64 R0) ∧ w'.cell? ⟨b, o + 1, none⟩ = some (.int .i64 C0)) w1.drew) := unhide HH
 clear HH
 have HH := HH2
 clear HH2
 refine region_G (fun w' => w'.cell? ⟨w.heap.size, 0, none⟩ = some (.int .i64 R) ∧ w'.cell? ⟨w.heap.size, 1, none⟩ = some (.int .i64 C) ∧ w'.cell? ⟨w.heap.size, 2, none⟩ = some (.slice ao len cap) ∧ w'.cell? ⟨pb, 0, none⟩ = some (.slice (some ⟨b, o, none⟩) n pc) ∧ w'.cell? ⟨b, o, none⟩ = some (.int .i64 R0) ∧ w'.cell? ⟨b, o + 1, none⟩ = some (.int .i64 C0)) 21 (by kernel_rfl) (unhide HH) (fun hHeld => ?_)
 refine take_G (i := 0) (d := 4) (v := .agg #[.int .i64 R, .int .i64 C, .slice ao len cap]) rfl rfl (by kernel_rfl) (by kernel_rfl) (by kernel_rfl) (by kernel_rfl) (by kernel_rfl) (Or.inl ⟨by rfl, ?_⟩) hHeld ?_
 ·intro wS hSw
  obtain ⟨z0, z1, z2, z3, z4, z5⟩ := hSw
  clear hHeld
  go_simp
  (try (intro hz; omega))
 (try simp only [Act.put, List.setIfInBounds_toArray, List.set_cons_zero, List.set_cons_succ])
 refine step_G (i := 1) (by kernel_rfl) (fun K hK => ?_)
 refine wpOp_wantP rfl (by rfl) ?_
 unfold Oper.wp
 go_simp
 refine (unhide CK _).mono ?_
 rintro e w3 ⟨rfl, g3⟩
 have hHeld : (fun w' => w'.cell? ⟨w.heap.size, 0, none⟩ = some (.int .i64 R) ∧ w'.cell? ⟨w.heap.size, 1, none⟩ = some (.int .i64 C) ∧ w'.cell? ⟨w.heap.size, 2, none⟩ = some (.slice ao len cap) ∧ w'.cell? ⟨pb, 0, none⟩ = some (.slice (some ⟨b, o, none⟩) n pc) ∧ w'.cell? ⟨b, o, none⟩ = some (.int .i64 R0) ∧ w'.cell? ⟨b, o + 1, none⟩ = some (.int .i64 C0)) w3 := ⟨gat g3 (unhide HH).1, gat g3 (unhide HH).2.1, gat g3 (unhide HH).2.2.1, gat g3 (unhide HH).2.2.2.1, gat g3 (unhide HH).2.2.2.2.1, gat g3 (unhide HH).2.2.2.2.2⟩
 have GG := hide (gtrans (unhide HG) g3)
 clear g3 HG
 refine hK _ _ (fun _ => hHeld) ?_
 clear hK K
 (try simp only [Act.put, List.setIfInBounds_toArray, List.set_cons_zero, List.set_cons_succ])
 refine take_G (i := 2) (d := 6) (v := .bool false) rfl rfl (by kernel_rfl) (by kernel_rfl) (by kernel_rfl) (by kernel_rfl) (by kernel_rfl) (Or.inl ⟨by rfl, ?_⟩) hHeld ?_
 ·intro wS hSw
  obtain ⟨z0, z1, z2, z3, z4, z5⟩ := hSw
  clear hHeld
  go_simp
  (try (intro hz; omega))
 (try simp only [Act.put, List.setIfInBounds_toArray, List.set_cons_zero, List.set_cons_succ])
 refine take_G (i := 3) (d := 7) (v := .bool false) rfl rfl (by kernel_rfl) (by kernel_rfl) (by kernel_rfl) (by kernel_rfl) (by kernel_rfl) (Or.inl ⟨by rfl, ?_⟩) hHeld ?_
 ·intro wS hSw
  obtain ⟨z0, z1, z2, z3, z4, z5⟩ := hSw
  clear hHeld
  go_simp
  (try (intro hz; omega))
 (try simp only [Act.put, List.setIfInBounds_toArray, List.set_cons_zero, List.set_cons_succ])
 refine take_G (i := 4) (d := 8) (v := .pointer (some ⟨w.heap.size, 0, none⟩)) rfl rfl (by kernel_rfl) (by kernel_rfl) (by kernel_rfl) (by kernel_rfl) (by kernel_rfl) (Or.inl ⟨by rfl, ?_⟩) hHeld ?_
 ·intro wS hSw
  obtain ⟨z0, z1, z2, z3, z4, z5⟩ := hSw
  clear hHeld
  go_simp
  (try (intro hz; omega))
 (try simp only [Act.put, List.setIfInBounds_toArray, List.set_cons_zero, List.set_cons_succ])
 refine take_G (i := 5) (d := 9) (v := .int .i64 R) rfl rfl (by kernel_rfl) (by kernel_rfl) (by kernel_rfl) (by kernel_rfl) (by kernel_rfl) (Or.inl ⟨by rfl, ?_⟩) hHeld ?_
 ·intro wS hSw
  obtain ⟨z0, z1, z2, z3, z4, z5⟩ := hSw
  clear hHeld
  go_simp
  (try (intro hz; omega))
 (try simp only [Act.put, List.setIfInBounds_toArray, List.set_cons_zero, List.set_cons_succ])
 refine take_G (i := 6) (d := 10) (v := .slice (some ⟨b, o, none⟩) n pc) rfl rfl (by kernel_rfl) (by kernel_rfl) (by kernel_rfl) (by kernel_rfl) (by kernel_rfl) (Or.inl ⟨by rfl, ?_⟩) hHeld ?_
 ·intro wS hSw
  obtain ⟨z0, z1, z2, z3, z4, z5⟩ := hSw
  clear hHeld
  go_simp
  (try (intro hz; omega))
 (try simp only [Act.put, List.setIfInBounds_toArray, List.set_cons_zero, List.set_cons_succ])
 refine take_G (i := 7) (d := 11) (v := .pointer (some ⟨b, o, none⟩)) rfl rfl (by kernel_rfl) (by kernel_rfl) (by kernel_rfl) (by kernel_rfl) (by kernel_rfl) (Or.inl ⟨by rfl, ?_⟩) hHeld ?_
 ·intro wS hSw
  obtain ⟨z0, z1, z2, z3, z4, z5⟩ := hSw
  clear hHeld
  go_simp
  (try (intro hz; omega))
 (try simp only [Act.put, List.setIfInBounds_toArray, List.set_cons_zero, List.set_cons_succ])
 refine take_G (i := 8) (d := 12) (v := .pointer (some ⟨b, o, none⟩)) rfl rfl (by kernel_rfl) (by kernel_rfl) (by kernel_rfl) (by kernel_rfl) (by kernel_rfl) (Or.inl ⟨by rfl, ?_⟩) hHeld ?_
 ·intro wS hSw
  obtain ⟨z0, z1, z2, z3, z4, z5⟩ := hSw
  clear hHeld
  go_simp
  (try (intro hz; omega))
 (try simp only [Act.put, List.setIfInBounds_toArray, List.set_cons_zero, List.set_cons_succ])
 refine take_G (i := 9) (d := 13) (v := .int .i64 R0) rfl rfl (by kernel_rfl) (by kernel_rfl) (by kernel_rfl) (by kernel_rfl) (by kernel_rfl) (Or.inl ⟨by rfl, ?_⟩) hHeld ?_
 ·intro wS hSw
  obtain ⟨z0, z1, z2, z3, z4, z5⟩ := hSw
  clear hHeld
  go_simp
  (try (intro hz; omega))
 (try simp only [Act.put, List.setIfInBounds_toArray, List.set_cons_zero, List.set_cons_succ])
 refine take_G (i := 10) (d := 14) (v := .bool false) rfl rfl (by kernel_rfl) (by kernel_rfl) (by kernel_rfl) (by kernel_rfl) (by kernel_rfl) (Or.inl ⟨by rfl, ?_⟩) hHeld ?_
 ·intro wS hSw
  obtain ⟨z0, z1, z2, z3, z4, z5⟩ := hSw
  clear hHeld
  go_simp
  (try (intro hz; omega))
 (try simp only [Act.put, List.setIfInBounds_toArray, List.set_cons_zero, List.set_cons_succ])
 refine take_G (i := 11) (d := 15) (v := .bool false) rfl rfl (by kernel_rfl) (by kernel_rfl) (by kernel_rfl) (by kernel_rfl) (by kernel_rfl) (Or.inl ⟨by rfl, ?_⟩) hHeld ?_
 ·intro wS hSw
  obtain ⟨z0, z1, z2, z3, z4, z5⟩ := hSw
  clear hHeld
  go_simp
  (try (intro hz; omega))
 (try simp only [Act.put, List.setIfInBounds_toArray, List.set_cons_zero, List.set_cons_succ])
 refine take_G (i := 12) (d := 16) (v := .bool false) rfl rfl (by kernel_rfl) (by kernel_rfl) (by kernel_rfl) (by kernel_rfl) (by kernel_rfl) (Or.inl ⟨by rfl, ?_⟩) hHeld ?_
 ·intro wS hSw
  obtain ⟨z0, z1, z2, z3, z4, z5⟩ := hSw
  clear hHeld
  go_simp
  (try (intro hz; omega))
 (try simp only [Act.put, List.setIfInBounds_toArray, List.set_cons_zero, List.set_cons_succ])
 refine take_G (i := 13) (d := 17) (v := .pointer (some ⟨w.heap.size, 1, none⟩)) rfl rfl (by kernel_rfl) (by kernel_rfl) (by kernel_rfl) (by kernel_rfl) (by kernel_rfl) (Or.inl ⟨by rfl, ?_⟩) hHeld ?_
 ·intro wS hSw
  obtain ⟨z0, z1, z2, z3, z4, z5⟩ := hSw
  clear hHeld
  go_simp
  (try (intro hz; omega))
 (try simp only [Act.put, List.setIfInBounds_toArray, List.set_cons_zero, List.set_cons_succ])
 refine take_G (i := 14) (d := 18) (v := .int .i64 C) rfl rfl (by kernel_rfl) (by kernel_rfl) (by kernel_rfl) (by kernel_rfl) (by kernel_rfl) (Or.inl ⟨by rfl, ?_⟩) hHeld ?_
 ·intro wS hSw
  obtain ⟨z0, z1, z2, z3, z4, z5⟩ := hSw
  clear hHeld
  go_simp
  (try (intro hz; omega))
 (try simp only [Act.put, List.setIfInBounds_toArray, List.set_cons_zero, List.set_cons_succ])
 refine take_G (i := 15) (d := 19) (v := .slice (some ⟨b, o, none⟩) n pc) rfl rfl (by kernel_rfl) (by kernel_rfl) (by kernel_rfl) (by kernel_rfl) (by kernel_rfl) (Or.inl ⟨by rfl, ?_⟩) hHeld ?_
 ·intro wS hSw
  obtain ⟨z0, z1, z2, z3, z4, z5⟩ := hSw
  clear hHeld
  go_simp
  (try (intro hz; omega))
 (try simp only [Act.put, List.setIfInBounds_toArray, List.set_cons_zero, List.set_cons_succ])
 refine take_G (i := 16) (d := 20) (v := .pointer (some ⟨b, o, none⟩)) rfl rfl (by kernel_rfl) (by kernel_rfl) (by kernel_rfl) (by kernel_rfl) (by kernel_rfl) (Or.inl ⟨by rfl, ?_⟩) hHeld ?_
 ·intro wS hSw
  obtain ⟨z0, z1, z2, z3, z4, z5⟩ := hSw
  clear hHeld
  go_simp
  (try (intro hz; omega))
 (try simp only [Act.put, List.setIfInBounds_toArray, List.set_cons_zero, List.set_cons_succ])
 refine take_G (i := 17) (d := 21) (v := .pointer (some ⟨b, o + 1, none⟩)) rfl rfl (by kernel_rfl) (by kernel_rfl) (by kernel_rfl) (by kernel_rfl) (by kernel_rfl) (Or.inl ⟨by rfl, ?_⟩) hHeld ?_
 ·intro wS hSw
  obtain ⟨z0, z1, z2, z3, z4, z5⟩ := hSw
  clear hHeld
  go_simp
  (try (intro hz; omega))
 (try simp only [Act.put, List.setIfInBounds_toArray, List.set_cons_zero, List.set_cons_succ])
 refine take_G (i := 18) (d := 22) (v := .int .i64 C0) rfl rfl (by kernel_rfl) (by kernel_rfl) (by kernel_rfl) (by kernel_rfl) (by kernel_rfl) (Or.inl ⟨by rfl, ?_⟩) hHeld ?_
 ·intro wS hSw
  obtain ⟨z0, z1, z2, z3, z4, z5⟩ := hSw
  clear hHeld
  go_simp
  (try (intro hz; omega))
 (try simp only [Act.put, List.setIfInBounds_toArray, List.set_cons_zero, List.set_cons_succ])
 refine take_G (i := 19) (d := 23) (v := .bool false) rfl rfl (by kernel_rfl) (by kernel_rfl) (by kernel_rfl) (by kernel_rfl) (by kernel_rfl) (Or.inl ⟨by rfl, ?_⟩) hHeld ?_
 ·intro wS hSw
  obtain ⟨z0, z1, z2, z3, z4, z5⟩ := hSw
  clear hHeld
  go_simp
  (try (intro hz; omega))
 (try simp only [Act.put, List.setIfInBounds_toArray, List.set_cons_zero, List.set_cons_succ])
 refine take_G (i := 20) (d := 24) (v := .bool false) rfl rfl (by kernel_rfl) (by kernel_rfl) (by kernel_rfl) (by kernel_rfl) (by kernel_rfl) (Or.inl ⟨by rfl, ?_⟩) hHeld ?_
 ·intro wS hSw
  obtain ⟨z0, z1, z2, z3, z4, z5⟩ := hSw
  clear hHeld
  go_simp
  (try (intro hz; omega))
 (try simp only [Act.put, List.setIfInBounds_toArray, List.set_cons_zero, List.set_cons_succ])
 clear hHeld
 refine step_G (i := 21) (by kernel_rfl) (fun K hK => ?_)
 refine wpOp_wantP rfl (by rfl) ?_
 unfold Oper.wp
 go_simp
 refine hK _ _ (fun h => absurd rfl h) ?_
 clear hK K
 (try simp only [Act.put, List.setIfInBounds_toArray, List.set_cons_zero, List.set_cons_succ])
 refine done_G (by kernel_rfl) ?_
 refine noPanic_normalE ?_
 go_wp2
 go_ret
 exact ⟨rfl, unhide GG⟩
theorem polyn1 (R C R0 C0 : Int) (ao : Option Addr) (len cap pb b o n pc : Nat) (hn : 1 ≤ n) (w : World) (hp : w.cell? ⟨pb, 0, none⟩ = some (.slice (some ⟨b, o, none⟩) n pc)) (h0 : w.cell? ⟨b, o, none⟩ = some (.int .i64 R0)) (h1 : w.cell? ⟨b, o + 1, none⟩ = some (.int .i64 C0)) :
  Calls Tryz.prog 123 #[.agg #[.int .i64 R, .int .i64 C, .slice ao len cap], .pointer (some ⟨pb, 0, none⟩)] w fun e w' => e = .returned (.bool (badM R C len R0 C0)) ∧ Grown w w' := by
 by_cases h : okM R C len
 ·by_cases hR : R = R0
  ·by_cases hC : C = C0
   ·rw [badM_no ⟨h, hR, hC⟩]
    exact polyn1_ok R C R0 C0 ao len cap pb b o n pc hn h hC hR w hp h0 h1
   ·rw [badM_yes (fun k => hC k.2.2)]
    exact polyn1_C R C R0 C0 ao len cap pb b o n pc hn h hC hR w hp h0 h1
  ·rw [badM_yes (fun k => hR k.2.1)]
   exact polyn1_R R C R0 C0 ao len cap pb b o n pc hn h hR w hp h0 h1
 ·rw [badM_yes (fun k => h k.1)]
  exact polyn1_bad R C R0 C0 ao len cap pb b o n pc hn h w hp h0 h1
def IdxP (n : Nat) (X : Nat → MV) (R0 C0 : Int) (w : World) (e : Ending) (w' : World) : Prop :=
 ∃ r : Int, e = .returned (.int .i64 r) ∧ Grown w w' ∧ ((r = -1 ∧ ∀ i, i < n → likeM (X i).R (X i).C (X i).len R0 C0) ∨ (0 ≤ r ∧ ∃ i, i < n ∧ ¬ likeM (X i).R (X i).C (X i).len R0 C0))
set_option maxRecDepth 20000 in
set_option maxHeartbeats 2000000 in
theorem indexMat (ao : Option Addr) (n cap pb pc b o : Nat) (X : Nat → MV) (R0 C0 : Int) (hn : 1 ≤ n ∧ n ≤ 25) (w : World) (hm : Mats w ao n X) (hp : w.cell? ⟨pb, 0, none⟩ = some (.slice (some ⟨b, o, none⟩) n pc)) (h0 : w.cell? ⟨b, o, none⟩ = some (.int .i64 R0)) (h1 : w.cell? ⟨b, o + 1, none⟩ = some (.int .i64 C0)) :
  Calls Tryz.prog 155 #[.slice ao n cap, .func (.func 123) #[] #[.pointer (some ⟨pb, 0, none⟩)]] w fun e w' => IdxP n X R0 C0 w e w' := by
 have HM := hide hm
 have HP := hide (And.intro hp (And.intro h0 h1))
 have eF := enters_of Tryz.func123 (by kernel_rfl) rfl
 have PN : Hid (∀ R C ao len cap wx, Grown w wx → Calls Tryz.prog 123 #[.agg #[.int .i64 R, .int .i64 C, .slice ao len cap], .pointer (some ⟨pb, 0, none⟩)] wx fun e w' => e = .returned (.bool (badM R C len R0 C0)) ∧ Grown wx w') := fun R C ao len cap wx g => polyn1 R C R0 C0 ao len cap pb b o n pc hn.1 wx (gat g hp) (gat g h0) (gat g h1)
 obtain ⟨n1, n2⟩ := hn
 clear hm hp h0 h1
 go_enter Tryz.func155, Tryz.ntmps155
 go_wp2_with fail
 go_loopw [8] (fun i wr => ∃ k : Nat, k ≤ n ∧ i = .int .i64 k ∧ Hid (Grown w wr ∧ ∀ i, i < k → likeM (X i).R (X i).C (X i).len R0 C0)) (fun i _ => n - (intOf i).toNat)
 case atStart => exact ⟨0, Nat.zero_le _, rfl, Grown.refl _, fun i hi => absurd hi (Nat.not_lt_zero _)⟩
 case round =>
  obtain ⟨k, hk, rfl, HI⟩ := hrel
  by_cases hlt : k < n
  ·obtain ⟨bb, oo, rfl, c0, c1, c2⟩ := ((unhide HM).grown (unhide HI).1).at hlt
   have P1 := hide (unhide PN (X k).R (X k).C (X k).ao (X k).len (X k).cap wr (unhide HI).1)
   have i1 : (k : Int) < (n : Int) := by omega
   have i0 : (0 : Int) ≤ (k : Int) := by omega
   have DB : Hid (badM (X k).R (X k).C (X k).len R0 C0 = true → ¬ likeM (X k).R (X k).C (X k).len R0 C0) := fun h k => by rw [badM_no k] at h; cases h
   have DG : Hid (badM (X k).R (X k).C (X k).len R0 C0 = false → likeM (X k).R (X k).C (X k).len R0 C0) := fun h => by
    classical
    exact Decidable.byContradiction fun k => by rw [badM_yes k] at h; cases h
   generalize badM (X k).R (X k).C (X k).len R0 C0 = bd at *
   cases bd
   ·go_wp2_with fail
    refine (unhide P1).mono ?_
    rintro e w2 ⟨rfl, g2⟩
    have R : Hid (Grown w w2 ∧ ∀ i, i < k + 1 → likeM (X i).R (X i).C (X i).len R0 C0) := ⟨gtrans (unhide HI).1 g2, fun i hi => by
     by_cases e : i = k
     ·subst e; exact unhide DG trivial
     ·exact (unhide HI).2 i (by omega)⟩
    clear g2 P1 c0 c1 c2
    go_wp2
    go_roundw
    case rel => exact ⟨k + 1, by omega, by go_num, R⟩
    case measure => simp [intOf]; omega
   ·go_wp2_with fail
    refine (unhide P1).mono ?_
    rintro e w2 ⟨rfl, g2⟩
    have R : Hid (Grown w w2) := gtrans (unhide HI).1 g2
    clear g2 P1 c0 c1 c2
    go_wp2
    go_ret
    exact (show IdxP _ _ _ _ _ _ _ from ⟨_, rfl, unhide R, Or.inr ⟨i0, k, hlt, unhide DB trivial⟩⟩)
  ·obtain rfl : k = n := by omega
   go_wp2
   go_ret
   exact (show IdxP _ _ _ _ _ _ _ from ⟨_, rfl, (unhide HI).1, Or.inl ⟨rfl, (unhide HI).2⟩⟩)
def ConP (n : Nat) (X : Nat → MV) (R0 C0 : Int) (w : World) (e : Ending) (w' : World) : Prop :=
 ∃ r : Bool, e = .returned (.bool r) ∧ Grown w w' ∧ ((r = false ∧ ∀ i, i < n → likeM (X i).R (X i).C (X i).len R0 C0) ∨ (r = true ∧ ∃ i, i < n ∧ ¬ likeM (X i).R (X i).C (X i).len R0 C0))
set_option maxRecDepth 20000 in
set_option maxHeartbeats 2000000 in
theorem containsMat (ao : Option Addr) (n cap pb pc b o : Nat) (X : Nat → MV) (R0 C0 : Int) (hn : 1 ≤ n ∧ n ≤ 25) (w : World) (hm : Mats w ao n X) (hp : w.cell? ⟨pb, 0, none⟩ = some (.slice (some ⟨b, o, none⟩) n pc)) (h0 : w.cell? ⟨b, o, none⟩ = some (.int .i64 R0)) (h1 : w.cell? ⟨b, o + 1, none⟩ = some (.int .i64 C0)) :
  Calls Tryz.prog 122 #[.slice ao n cap, .func (.func 123) #[] #[.pointer (some ⟨pb, 0, none⟩)]] w fun e w' => ConP n X R0 C0 w e w' := by
 have IX := hide (indexMat ao n cap pb pc b o X R0 C0 hn w hm hp h0 h1)
 clear hm hp h0 h1
 go_enter Tryz.func122, Tryz.ntmps122
 go_wp2_with fail
 refine (unhide IX).mono ?_
 intro e w2 hI
 obtain ⟨r, rfl, g2, hr⟩ := hI
 have G2 := hide (And.intro g2 hr)
 clear IX
 rcases hr with ⟨rfl, _⟩ | ⟨hr, _⟩
 ·clear g2
  go_wp2
  go_ret
  exact (show ConP _ _ _ _ _ _ _ from ⟨_, rfl, (unhide G2).1, ((unhide G2).2.imp (fun h => ⟨rfl, h.2⟩) (fun h => absurd h.1 (by omega)))⟩)
 ·have d0 : decide ((0 : Int) ≤ r) = true := decide_eq_true hr
  have HR := hide hr
  clear g2 hr
  go_wp2
  go_ret
  exact (show ConP _ _ _ _ _ _ _ from ⟨_, rfl, (unhide G2).1, ((unhide G2).2.imp (fun h => absurd h.1 (by have := unhide HR; omega)) (fun h => ⟨rfl, h.2⟩))⟩)
def okP (n : Nat) (X : Nat → MV) : Prop := (1 ≤ n ∧ n ≤ 25) ∧ ∀ i, i < n → likeM (X i).R (X i).C (X i).len (X 0).R (X 0).C
open Classical in
noncomputable def okPB (n : Nat) (X : Nat → MV) : Bool := decide (okP n X)
theorem okPB_yes {n : Nat} {X : Nat → MV} (h : okP n X) : okPB n X = true := by classical exact decide_eq_true h
theorem okPB_no {n : Nat} {X : Nat → MV} (h : ¬ okP n X) : okPB n X = false := by classical exact decide_eq_false h
set_option maxRecDepth 20000 in
set_option maxHeartbeats 4000000 in
theorem polyPolynomial (ao : Option Addr) (n cap : Nat) (X : Nat → MV) (hl : n ≤ 9223372036854775807) (w : World) (hm : Mats w ao n X) :
  Calls Tryz.prog 87 #[.slice ao n cap] w fun e w' => e = .returned (.bool (okPB n X)) ∧ Grown w w' := by
 have g1 : Grown w (w.alloc (.cells #[.slice ao n cap] 73)) := (Grown.refl _).alloc _ _
 have b1 := Blk.new w #[.slice ao n cap] 73
 have x0 : (w.alloc (.cells #[.slice ao n cap] 73)).cell? ⟨w.heap.size, 0, none⟩ = some (.slice ao n cap) := Blk.cell b1 0
 have HG := hide g1
 have HM := hide (hm.grown g1)
 clear g1 hm b1
 by_cases h1 : 1 ≤ n
 ·have d1 : decide ((1 : Int) ≤ (n : Int)) = true := decide_eq_true (by omega)
  by_cases h2 : n ≤ 25
  ·have d2 : decide ((n : Int) ≤ 25) = true := decide_eq_true (by omega)
   obtain ⟨b, o, rfl, hc⟩ := (unhide HM).resolve_left (by omega)
   have CT := hide (containsMat (some ⟨b, o, none⟩) n cap w.heap.size cap b o X (X 0).R (X 0).C ⟨h1, h2⟩ _ (unhide HM) x0 (hc 0 (by omega) 0 (by omega)) (hc 0 (by omega) 1 (by omega)))
   clear hc HM
   go_enter Tryz.func87, Tryz.ntmps87
   go_wp2_with fail
   generalize w.alloc (.cells #[.slice (some ⟨b, o, none⟩) n cap] 73) = w1 at *
   refine (unhide CT).mono ?_
   intro e w2 hI
   obtain ⟨r, rfl, g2, hr⟩ := hI
   have G2 := hide (gtrans (unhide HG) g2)
   have HR := hide hr
   clear CT g2 hr x0 HG
   have E : Hid (okPB n X = !r) := by
    rcases unhide HR with ⟨rfl, h⟩ | ⟨rfl, i, hi, h⟩
    ·exact okPB_yes ⟨⟨h1, h2⟩, h⟩
    ·exact okPB_no (fun k => h (k.2 i hi))
   clear HR
   cases r
   ·go_wp2
    go_ret
    exact ⟨by rw [unhide E]; rfl, unhide G2⟩
   ·go_wp2
    go_ret
    exact ⟨by rw [unhide E]; rfl, unhide G2⟩
  ·have d2 : decide ((n : Int) ≤ 25) = false := decide_eq_false (by omega)
   have E := hide (okPB_no (X := X) (fun h => h2 h.1.2))
   clear h1 h2
   go_enter Tryz.func87, Tryz.ntmps87
   go_wp2
   go_ret
   exact ⟨by rw [unhide E]; rfl, unhide HG⟩
 ·have d1 : decide ((1 : Int) ≤ (n : Int)) = false := decide_eq_false (by omega)
  have E := hide (okPB_no (X := X) (fun h => h1 h.1.1))
  clear h1
  go_enter Tryz.func87, Tryz.ntmps87
  go_wp2
  go_ret
  exact ⟨by rw [unhide E]; rfl, unhide HG⟩
def KC (D : Nat → Prop) (W W' : World) : Prop := (∀ k cs t fr, ¬ D k → W.heap[k]? = some (.cells cs t fr) → W'.heap[k]? = some (.cells cs t fr)) ∧ W.heap.size ≤ W'.heap.size
theorem KC.refl (D : Nat → Prop) (W : World) : KC D W W := ⟨fun _ _ _ _ _ h => h, Nat.le_refl _⟩
theorem KC.trans {D : Nat → Prop} {A B C : World} (h : KC D A B) (k : KC D B C) : KC D A C := ⟨fun i cs t fr hi e => k.1 i cs t fr hi (h.1 i cs t fr hi e), Nat.le_trans h.2 k.2⟩
theorem KC.putObj {D : Nat → Prop} {W : World} {l : Nat} {o o' : Obj} (hl : W.heap[l]? = some o) (ho : o.isCells = false) : KC D W (W.putObj l o') := by
 refine ⟨fun k cs t fr _ h => (World.putObj_heap_other (fun e => ?_)).trans h, by simp⟩
 subst e
 rw [hl] at h
 cases h
 cases ho
theorem KC.blk {D : Nat → Prop} {W W' : World} {U : Nat} {cs : Array Value} {T : TypeId} (h : KC D W W') (hb : Blk U cs T W) (hU : ¬ D U) : Blk U cs T W' := h.1 U cs T (0, 0) hU hb
theorem KC.of {D : Nat → Prop} {W W' : World} (h : ∀ k, k < W.heap.size → ¬ D k → W'.heap[k]? = W.heap[k]?) (hs : W.heap.size ≤ W'.heap.size) : KC D W W' :=
 ⟨fun k cs t fr hk e => (h k (Array.getElem?_eq_some_iff.1 e).1 hk).trans e, hs⟩
def ownPostD {α : Type} (B : Nat) (D : Nat → Prop) (I : List α → World → Prop) (Ix : Code → List α → World → Prop) (xs : List α) (W : World) : Exit → Act → World → Prop
 | .normal, _, W' => KeepsFrom B W W' ∧ KC D W W' ∧ I xs W'
 | .ret, _, W' => KeepsFrom B W W' ∧ KC D W W' ∧ Ix .ret xs W'
 | .exit id, _, W' => KeepsFrom B W W' ∧ KC D W W' ∧ Ix (.exit id) xs W'
 | .goto t, _, W' => KeepsFrom B W W' ∧ KC D W W' ∧ Ix (.goto t) xs W'
 | .panic _, _, _ => False
 | .outgrown, _, _ => False
def SeqD {α : Type} (F : Fence) (n : Nat) (P : Program) (gf : Nat) (lb : Array Value) (encs : α → Array Value) (D : Nat → Prop) (St : World → World → Prop) (Px : List α → α → Prop) (Pp : List α → Prop) (S Sp : List α → World → Prop) (w : World) : Prop :=
 ∀ (l : Nat) (J Jx : List α → World → Prop) (W : World), w.grownBy W none → (∀ s A B, J s A → St A B → J s B) →
  (∀ pre x W1, J pre W1 → Px pre x → YieldAt F (n - 1) P l (encs x) W1 fun e W' =>
   KC D W1 W' ∧ ((e = .returned (.bool true) ∧ J (pre ++ [x]) W' ∧ Pp (pre ++ [x])) ∨ (e = .returned (.bool false) ∧ Jx (pre ++ [x]) W'))) →
  J [] W → CallsIn F n P gf (#[.func (.yield l) #[] #[]] ++ lb) W fun e W' => (∃ v, e = .returned v) ∧ ((∃ xs, S xs W' ∧ J xs W') ∨ (∃ pre, Sp pre W' ∧ Jx pre W'))
theorem range_own {F : Fence} {n : Nat} {P : Program} {α : Type} {g : Operand} {ps : Array Tmp} {assign body : Code} {Q : Exit → Act → World → Prop} {a : Act} {w : World}
  (hro : F.round = none) (h1 : 1 ≤ n) {gf : Nat} {lb : Array Value} (hg : a.eval g = .func (.func gf) #[] lb) (hFg : F.fn gf) (eg : ∀ args w, (callFunc gf args).run P w = .ok (.enter gf args) w)
  {encs : α → Array Value} (hps : ∀ x, (encs x).size = ps.size) {D : Nat → Prop} {St : World → World → Prop} {Px : List α → α → Prop} {Pp : List α → Prop} {S Sp : List α → World → Prop}
  (hSt : ∀ A B k o, St A B → w.heap.size ≤ k → A.heap[k]? = some o → o.isCells = false → B.heap[k]? = some o)
  (hseq : SeqD F (n - 1) P gf lb encs D St Px Pp S Sp w)
  (I : List α → World → Prop) (Ix : Code → List α → World → Prop) (hI : OwnFrom w.heap.size I) (hIx : ∀ c, OwnFrom w.heap.size (Ix c)) (hS : OwnFrom w.heap.size S) (hSp : OwnFrom w.heap.size Sp)
  (hIS : ∀ s A B, I s A → St A B → I s B) (hIp : ∀ s W, I s W → Pp s) (h0 : I [] w) (Ax : α → Act → World → Prop) (hAx : ∀ x a', OwnFrom w.heap.size (fun (_ : Unit) W => Ax x a' W))
  (hassign : ∀ (l : Nat) (pre : List α) (x : α) (W : World) (K : Act → World → Prop), I pre W → (∀ a' W', KeepsFrom w.heap.size W W' → KC D W W' → I pre W' → Ax x a' W' → K a' W') →
   assign.wpIn (F.inRound l) (n - 1 - 1) P (Exit.then K (fun _ _ _ => False)) { tmps := (ps.zip (encs x)).foldl (fun t (p, v) => t.setIfInBounds p v) a.tmps, defers := [] } W)
  (hbody : ∀ (l : Nat) (pre : List α) (x : α) (a' : Act) (W : World), I pre W → Ax x a' W → Px pre x → body.wpIn (F.inRound l) (n - 1 - 1) P (ownPostD w.heap.size D I Ix (pre ++ [x]) W) a' W)
  (hdone : ∀ (d : Nat) (xs : List α) (W : World), w.heap.size ≤ d → S xs W → I xs W → W.heap[d]? = some (.deferred (some [])) → Q .normal { a with defers := { target := .collected d, args := #[] } :: a.defers } W)
  (hstop : ∀ (d : Nat) (c : Code) (pre : List α) (W : World), w.heap.size ≤ d → Sp pre W → Ix c pre W → W.heap[d]? = some (.deferred (some [])) → c.wpIn F n P Q { a with defers := { target := .collected d, args := #[] } :: a.defers } W) :
  (Code.rangeFunc g ps assign body).wpIn F n P Q a w := by
 refine wpIn_rangeFunc fun fn hfn => ?_
 rw [hro]
 obtain ⟨d, hd⟩ : ∃ d, w.heap.size = d := ⟨_, rfl⟩
 obtain ⟨mk, hmk⟩ : ∃ mk : LoopState → Option Code → Loop, mk = fun st pe => { state := st, pending := pe, fn, tmps := a.tmps, params := ps, assign, body, defers := d } := ⟨_, rfl⟩
 have es : ∀ st st' pe, { mk st pe with state := st' } = mk st' pe := fun st st' pe => by rw [hmk]
 obtain ⟨wl, hwl⟩ : ∃ wl, (w.alloc (.deferred (some []))).alloc (.loop (mk .ready none)) = wl := ⟨_, rfl⟩
 have kl : wl.heap[d + 1]? = some (.loop (mk .ready none)) := by
  have := World.alloc_heap_new (w.alloc (.deferred (some []))) (.loop (mk .ready none))
  rwa [World.size_alloc, hd, hwl] at this
 have kd : wl.heap[d]? = some (.deferred (some [])) := by
  rw [← hwl, Below.heap_alloc _ _ _ (by simp; omega), ← hd]
  exact World.alloc_heap_new w _
 have i0 : I [] wl := by rw [← hwl]; exact hI.alloc _ (hI.alloc _ h0)
 have gl : w.grownBy wl none := by
  rw [← hwl]
  exact (World.grownBy_alloc w _ none).trans (World.grownBy_alloc _ _ none)
 rw [hd] at hSt hI hIx hS hSp hAx hassign hbody hdone hstop
 refine ⟨d + 1, [{ target := .collected d, args := #[] }], wl, { target := .fn (.func gf) lb, args := #[.func (.yield (d + 1)) #[] #[]] }, wl, gf, #[.func (.yield (d + 1)) #[] #[]] ++ lb, wl, ?_, ?_, ?_, ?_, fun _ => h1, ?_⟩
 ·rw [← hwl, hmk, ← hd]; exact run_enterLoop_outer _ _ _ _ _
 ·simp only [resolve, hg]
  simp [go_sem]
 ·intro f' hf'; simp [Target.leads] at hf'; subst hf'; exact hFg
 ·simp [invoke, go_sem, eg]
 ·refine (hseq (d + 1)
   (fun pre W => I pre W ∧ W.heap[d + 1]? = some (.loop (mk .ready none)) ∧ W.heap[d]? = some (.deferred (some [])))
   (fun pre W => ∃ c, Ix c pre W ∧ W.heap[d + 1]? = some (.loop (mk .done (some c))) ∧ W.heap[d]? = some (.deferred (some [])))
   wl gl (fun s A B hs hst => ⟨hIS s A B hs.1 hst, hSt _ _ _ _ hst (by omega) hs.2.1 rfl, hSt _ _ _ _ hst (by omega) hs.2.2 rfl⟩) ?_ ⟨i0, kl, kd⟩).mono ?_
  ·rintro pre x W ⟨hi, hl, hk⟩ hpx
   have hy := run_yield (P := P) (args := encs x) hl (by rw [hmk]; exact hps x)
   rw [hmk] at hy
   refine ⟨fn, _, assign, body, hy, roundIn_of_wpIn hfn (hassign _ pre x W _ hi fun a' Wa kf kc hia hax => ?_)⟩
   have hla := kf.same _ _ (by omega) hl rfl
   have hka := kf.same _ _ (by omega) hk rfl
   have lta := (Array.getElem?_eq_some_iff.1 hla).1
   refine ⟨_, run_beginRound hla (by rw [hmk]), ?_⟩
   rw [es]
   have hlb : (Wa.putObj (d + 1) (.loop (mk .busy none))).heap[d + 1]? = some (.loop (mk .busy none)) := World.putObj_heap_same lta
   have hkb : (Wa.putObj (d + 1) (.loop (mk .busy none))).heap[d]? = some (.deferred (some [])) := (World.putObj_heap_other (by omega)).trans hka
   have kcb : KC D W (Wa.putObj (d + 1) (.loop (mk .busy none))) := kc.trans (KC.putObj hla rfl)
   refine wpIn_mono (hbody _ pre x a' _ (hI.putObj _ hia (by omega) hla rfl) ((hAx x a').putObj (s := ()) _ hax (by omega) hla rfl) hpx) fun e a3 W3 hp => ?_
   have fin : ∀ (jump : Option Code), KeepsFrom d (Wa.putObj (d + 1) (.loop (mk .busy none))) W3 → KC D (Wa.putObj (d + 1) (.loop (mk .busy none))) W3 →
     ∃ W4, (Instr.endRound (d + 1) jump).run P W3 = .ok (.bool jump.isNone) W4 ∧ W4 = W3.putObj (d + 1) (.loop (mk (if jump.isNone then .ready else .done) jump)) ∧ W3.heap[d + 1]? = some (.loop (mk .busy none)) ∧
      W4.heap[d + 1]? = some (.loop (mk (if jump.isNone then .ready else .done) jump)) ∧ W4.heap[d]? = some (.deferred (some [])) ∧ KC D W W4 := fun jump k1 k2 => by
    have hl3 := k1.same _ _ (by omega) hlb rfl
    have hk3 := k1.same _ _ (by omega) hkb rfl
    have e := run_endRound (P := P) jump hl3
    have e2 : { mk .busy none with state := if jump.isNone then .ready else .done, pending := jump } = mk (if jump.isNone then .ready else .done) jump := by rw [hmk]
    rw [e2] at e
    exact ⟨_, e, rfl, hl3, World.putObj_heap_same (Array.getElem?_eq_some_iff.1 hl3).1, (World.putObj_heap_other (by omega)).trans hk3, (kcb.trans k2).trans (KC.putObj hl3 rfl)⟩
   cases e with
   | normal =>
    obtain ⟨k1, k2, k3⟩ := hp
    obtain ⟨W4, r1, rfl, r3, r4, r5, r6⟩ := fin none k1 k2
    have i4 := hI.putObj (.loop (mk .ready none)) k3 (by omega) r3 rfl
    exact ⟨_, _, r1, r6, .inl ⟨rfl, ⟨i4, r4, r5⟩, hIp _ _ i4⟩⟩
   | ret =>
    obtain ⟨k1, k2, k3⟩ := hp
    obtain ⟨W4, r1, rfl, r3, r4, r5, r6⟩ := fin (some .ret) k1 k2
    exact ⟨_, _, r1, r6, .inr ⟨rfl, .ret, (hIx _).putObj _ k3 (by omega) r3 rfl, r4, r5⟩⟩
   | exit id =>
    obtain ⟨k1, k2, k3⟩ := hp
    obtain ⟨W4, r1, rfl, r3, r4, r5, r6⟩ := fin (some (.exit id)) k1 k2
    exact ⟨_, _, r1, r6, .inr ⟨rfl, .exit id, (hIx _).putObj _ k3 (by omega) r3 rfl, r4, r5⟩⟩
   | goto t =>
    obtain ⟨k1, k2, k3⟩ := hp
    obtain ⟨W4, r1, rfl, r3, r4, r5, r6⟩ := fin (some (.goto t)) k1 k2
    exact ⟨_, _, r1, r6, .inr ⟨rfl, .goto t, (hIx _).putObj _ k3 (by omega) r3 rfl, r4, r5⟩⟩
   | panic ch => exact hp.elim
   | outgrown => exact hp.elim
  ·rintro e W2 ⟨⟨v, rfl⟩, (⟨xs, hs, hi, hl, hk⟩ | ⟨pre, hs, c, hi, hl, hk⟩)⟩
   ·have e := run_endLoop (P := P) hl (by rw [hmk]; simp)
    exact ⟨none, _, by rw [e, hmk], hdone d xs _ (Nat.le_refl _) (hS.putObj _ hs (by omega) hl rfl) (hI.putObj _ hi (by omega) hl rfl) ((World.putObj_heap_other (by omega)).trans hk)⟩
   ·have e := run_endLoop (P := P) hl (by rw [hmk]; simp)
    exact ⟨some c, _, by rw [e, hmk], hstop d c pre _ (Nat.le_refl _) (hSp.putObj _ hs (by omega) hl rfl) ((hIx c).putObj _ hi (by omega) hl rfl) ((World.putObj_heap_other (by omega)).trans hk)⟩
end Go.Proofs.YtjobgjcfkomhpaaGreat
