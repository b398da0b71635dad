/- MdlKa MdlH MdlJ MatRb MoA MoNx MoMv MoMw MatRc MatRd MatRe PolyRa PolyRb PolyRc MoRb, one after another, as far as MotionTells wants them. -/
import Derived.Test.YtjobgjcfkomhpaaGreatProg
import Derived.Test.YtjobgjcfkomhpaaGreatRows
import Derived.Test.YtjobgjcfkomhpaaGreatMotionTellsT3
set_option linter.unusedVariables false
set_option linter.unusedSimpArgs false
namespace Go.Proofs.YtjobgjcfkomhpaaGreat
open Go.RowKit Go.Shelf Go.Proofs.Wd
set_option maxRecDepth 10000
attribute [local go_sem ↓] Go.wp_at_zero Go.wp_at_succ
def smallM (m : DV) : Prop := m.A.len ≤ 40 ∧ m.Q.len ≤ 12 ∧ m.rl ≤ 30 ∧ ∀ i, i < m.rl → (m.X i).h.len ≤ 12
def LongMP (m : DV) (w : World) (e : Ending) (w' : World) : Prop := ∃ r : Bool, e = .returned (.bool r) ∧ Grown w w' ∧ (r = false → smallM m)
def smallC (al ql rl : Nat) (X : Nat → RV) : Prop := al ≤ 40 ∧ ql ≤ 12 ∧ rl ≤ 30 ∧ ∀ i, i < rl → (X i).h.len ≤ 12
def LongMC (al ql rl : Nat) (X : Nat → RV) (w : World) (e : Ending) (w' : World) : Prop := ∃ r : Bool, e = .returned (.bool r) ∧ Grown w w' ∧ (r = false → smallC al ql rl X)
set_option maxRecDepth 20000 in
set_option maxHeartbeats 4000000 in
theorem kitLongC (N : Int) (aa qa ro : Option Addr) (al ac ql qc rl rc : Nat) (tick gate rmin : Int) (X : Nat → RV) (w : World) (hr : RVs w ro rl X) :
  Calls Tryz.prog 10 #[.agg #[.int .i64 N, .slice aa al ac, .slice qa ql qc, .int .i64 tick, .int .i64 gate, .int .i64 rmin, .slice ro rl rc]] w fun e w' => LongMC al ql rl X w e w' := by
 have G1 : Hid (Grown w (w.alloc (.cells #[.int .i64 N, .slice aa al ac, .slice qa ql qc, .int .i64 tick, .int .i64 gate, .int .i64 rmin, .slice ro rl rc] 25))) := (Grown.refl _).alloc _ _
 have bl := Blk.new w #[.int .i64 N, .slice aa al ac, .slice qa ql qc, .int .i64 tick, .int .i64 gate, .int .i64 rmin, .slice ro rl rc] 25
 have y1 : (w.alloc (.cells #[.int .i64 N, .slice aa al ac, .slice qa ql qc, .int .i64 tick, .int .i64 gate, .int .i64 rmin, .slice ro rl rc] 25)).cell? ⟨w.heap.size, 1, none⟩ = some (.slice aa al ac) := Blk.cell bl 1
 have y2 : (w.alloc (.cells #[.int .i64 N, .slice aa al ac, .slice qa ql qc, .int .i64 tick, .int .i64 gate, .int .i64 rmin, .slice ro rl rc] 25)).cell? ⟨w.heap.size, 2, none⟩ = some (.slice qa ql qc) := Blk.cell bl 2
 have y6 : (w.alloc (.cells #[.int .i64 N, .slice aa al ac, .slice qa ql qc, .int .i64 tick, .int .i64 gate, .int .i64 rmin, .slice ro rl rc] 25)).cell? ⟨w.heap.size, 6, none⟩ = some (.slice ro rl rc) := Blk.cell bl 6
 have HR := hide (hr.grown (unhide G1))
 clear bl hr
 go_enter Tryz.func10, Tryz.ntmps10
 go_wp2_with fail
 generalize (w.alloc (.cells #[.int .i64 N, .slice aa al ac, .slice qa ql qc, .int .i64 tick, .int .i64 gate, .int .i64 rmin, .slice ro rl rc] 25)) = w1 at *
 go_loop [3] (fun i => ∃ k : Nat, k ≤ 31 ∧ k ≤ rl ∧ i = .int .i64 k ∧ Hid (∀ j, j < k → (X j).h.len ≤ 12)) (fun i => 31 - (intOf i).toNat)
 case atStart => exact ⟨0, Nat.zero_le _, Nat.zero_le _, rfl, fun j hj => absurd hj (Nat.not_lt_zero _)⟩
 case round =>
  obtain ⟨k, hk31, hk, rfl, HK⟩ := hrel
  by_cases hlt : k < rl
  ·have dk : decide ((k : Int) < (rl : Int)) = true := decide_eq_true (by omega)
   by_cases h31 : k < 31
   ·have dk2 : decide ((k : Int) < 31) = true := decide_eq_true (by omega)
    obtain ⟨b, o, rfl, c0, c1, c2⟩ := (unhide HR).at hlt
    have i0 : (0 : Int) ≤ (k : Int) := Int.natCast_nonneg _
    have i1 : (k : Int) < (rl : Int) := Int.ofNat_lt.2 hlt
    have B1 : Hid (k + 1 ≤ 31 ∧ k + 1 ≤ rl) := ⟨h31, hlt⟩
    by_cases hh : 12 < (X k).h.len
    ·have dh : decide ((12 : Int) < ((X k).h.len : Int)) = true := decide_eq_true (by omega)
     clear hh HK
     have RR2 : Hid (LongMC al ql rl X w (.returned (.bool true)) w1) := ⟨_, rfl, unhide G1, fun h => by cases h⟩
     go_wp2
     go_ret
     exact unhide RR2
    ·have dh : decide ((12 : Int) < ((X k).h.len : Int)) = false := decide_eq_false (by omega)
     have HK2 : Hid (∀ j, j < k + 1 → (X j).h.len ≤ 12) := fun j hj => by
      by_cases e : j = k
      ·subst e; omega
      ·exact unhide HK j (by omega)
     clear hh HK
     go_wp2
     go_round
     case rel => exact ⟨k + 1, (unhide B1).1, (unhide B1).2, by go_num, HK2⟩
     case measure => have := unhide B1; simp [intOf]; omega
   ·obtain rfl : k = 31 := by omega
    have dr : decide ((30 : Int) < (rl : Int)) = true := decide_eq_true (by omega)
    have di : decide ((31 : Int) < (rl : Int)) = true := decide_eq_true (by omega)
    clear h31 HK dk
    by_cases ha : 40 < al
    ·have da : decide ((40 : Int) < (al : Int)) = true := decide_eq_true (by omega)
     clear ha
     have RR2 : Hid (LongMC al ql rl X w (.returned (.bool true)) w1) := ⟨_, rfl, unhide G1, fun h => by cases h⟩
     go_wp2
     go_ret
     exact unhide RR2
    ·have da : decide ((40 : Int) < (al : Int)) = false := decide_eq_false (by omega)
     clear ha
     by_cases hq : 12 < ql
     ·have dq : decide ((12 : Int) < (ql : Int)) = true := decide_eq_true (by omega)
      clear hq
      have RR2 : Hid (LongMC al ql rl X w (.returned (.bool true)) w1) := ⟨_, rfl, unhide G1, fun h => by cases h⟩
      go_wp2
      go_ret
      exact unhide RR2
     ·have dq : decide ((12 : Int) < (ql : Int)) = false := decide_eq_false (by omega)
      clear hq
      have RR2 : Hid (LongMC al ql rl X w (.returned (.bool true)) w1) := ⟨_, rfl, unhide G1, fun h => by cases h⟩
      go_wp2
      go_ret
      exact unhide RR2
  ·obtain rfl : k = rl := by omega
   have dk : decide ((k : Int) < (k : Int)) = false := decide_eq_false (by omega)
   by_cases ha : 40 < al
   ·have da : decide ((40 : Int) < (al : Int)) = true := decide_eq_true (by omega)
    clear ha
    have RR2 : Hid (LongMC al ql k X w (.returned (.bool true)) w1) := ⟨_, rfl, unhide G1, fun h => by cases h⟩
    go_wp2
    go_ret
    exact unhide RR2
   ·have da : decide ((40 : Int) < (al : Int)) = false := decide_eq_false (by omega)
    by_cases hq : 12 < ql
    ·have dq : decide ((12 : Int) < (ql : Int)) = true := decide_eq_true (by omega)
     clear ha hq
     have RR2 : Hid (LongMC al ql k X w (.returned (.bool true)) w1) := ⟨_, rfl, unhide G1, fun h => by cases h⟩
     go_wp2
     go_ret
     exact unhide RR2
    ·have dq : decide ((12 : Int) < (ql : Int)) = false := decide_eq_false (by omega)
     by_cases hr : 30 < k
     ·have dr : decide ((30 : Int) < (k : Int)) = true := decide_eq_true (by omega)
      clear ha hq hr
      have RR2 : Hid (LongMC al ql k X w (.returned (.bool true)) w1) := ⟨_, rfl, unhide G1, fun h => by cases h⟩
      go_wp2
      go_ret
      exact unhide RR2
     ·have dr : decide ((30 : Int) < (k : Int)) = false := decide_eq_false (by omega)
      have SM : Hid (smallC al ql k X) := ⟨by omega, by omega, by omega, unhide HK⟩
      clear ha hq hr
      have RR2 : Hid (LongMC al ql k X w (.returned (.bool false)) w1) := ⟨_, rfl, unhide G1, fun _ => unhide SM⟩
      go_wp2
      go_ret
      exact unhide RR2
theorem kitLongM (m : DV) (w : World) (h : RVs w m.ro m.rl m.X) : Calls Tryz.prog 10 #[.agg m.cells] w fun e w' => LongMP m w e w' :=
 kitLongC m.N m.A.ao m.Q.ao m.ro m.A.len m.A.cap m.Q.len m.Q.cap m.rl m.rc m.tick m.gate m.rmin m.X w h
def eqRV (x y : RV) : Prop := x.s = y.s ∧ x.r = y.r ∧ x.h.len = y.h.len ∧ ∀ p, p < x.h.len → x.h.Z p = y.h.Z p
theorem rowCongrR {w : World} {ao : Option Addr} {len : Nat} {Z Y : Nat → Int} (h : Row w ao len Z) (e : ∀ i, i < len → Z i = Y i) : Row w ao len Y := by
 rcases h with h | ⟨b, o, rfl, hc⟩
 ·exact Or.inl h
 ·exact Or.inr ⟨b, o, rfl, fun i hi => by rw [hc i hi, e i hi]⟩
theorem kitSameK (ao bo : Option Addr) (len c1 c2 : Nat) (X : Nat → Int) (hl : len ≤ 1000000) (w : World) (hr : Row w ao len X) (ht : Row w bo len X) :
  Calls Tryz.prog 48 #[.slice ao len c1, .slice bo len c2] w fun e w' => e = .returned (.bool true) ∧ Kp w w' :=
 (kitSameQ ao bo len c1 c2 X hl w hr ht).mono (fun e w' ⟨h1, n, h2⟩ => ⟨h1, by subst h2; exact (show Kp w (w.drewN n) from Kp.refl w)⟩)
def sameRs (n : Nat) (X Y : Nat → RV) (ao bo : Option Addr) (w : World) : Prop := RVs w ao n X ∧ RVs w bo n Y ∧ ∀ i, i < n → eqRV (X i) (Y i) ∧ (X i).h.len ≤ 1000000 ∧ Row w (X i).h.ao (X i).h.len (X i).h.Z ∧ Row w (Y i).h.ao (Y i).h.len (Y i).h.Z
theorem sameRs.one {n : Nat} {X Y : Nat → RV} {ao bo : Option Addr} {w : World} (h : sameRs n X Y ao bo w) {k : Nat} (hk : k < n) (W : World) (g : Kp w W) : Calls Tryz.prog 48 #[.slice (X k).h.ao (X k).h.len (X k).h.cap, .slice (Y k).h.ao (X k).h.len (Y k).h.cap] W fun e w' => e = .returned (.bool true) ∧ Kp W w' := by
 obtain ⟨⟨e1, e2, e3, e4⟩, hl, r1, r2⟩ := h.2.2 k hk
 rw [← e3] at r2
 exact kitSameK _ _ _ _ _ _ hl W (r1.kp g) (rowCongrR (r2.kp g) (fun i hi => (e4 i hi).symm))
set_option maxRecDepth 20000 in
set_option maxHeartbeats 8000000 in
theorem kitSameMc (N tick gate rmin : Int) (aa ab qa qb ro rp : Option Addr) (al ac ad ql qc qd rl rc rd : Nat) (A Q : Nat → Int) (X Y : Nat → RV) (h1 : al ≤ 1000000) (h2 : ql ≤ 1000000) (h3 : rl ≤ 1000) (w : World) (r1 : Row w aa al A) (r2 : Row w ab al A) (r3 : Row w qa ql Q) (r4 : Row w qb ql Q) (hs : sameRs rl X Y ro rp w) :
  Calls Tryz.prog 23 #[.agg #[.int .i64 N, .slice aa al ac, .slice qa ql qc, .int .i64 tick, .int .i64 gate, .int .i64 rmin, .slice ro rl rc], .agg #[.int .i64 N, .slice ab al ad, .slice qb ql qd, .int .i64 tick, .int .i64 gate, .int .i64 rmin, .slice rp rl rd]] w fun e w' => e = .returned (.bool true) ∧ Kp w w' := by
 have G1 : Hid (Kp w ((w.alloc (.cells #[.int .i64 N, .slice aa al ac, .slice qa ql qc, .int .i64 tick, .int .i64 gate, .int .i64 rmin, .slice ro rl rc] 25)).alloc (.cells #[.int .i64 N, .slice ab al ad, .slice qb ql qd, .int .i64 tick, .int .i64 gate, .int .i64 rmin, .slice rp rl rd] 25)) ∧ Blk w.heap.size #[.int .i64 N, .slice aa al ac, .slice qa ql qc, .int .i64 tick, .int .i64 gate, .int .i64 rmin, .slice ro rl rc] 25 ((w.alloc (.cells #[.int .i64 N, .slice aa al ac, .slice qa ql qc, .int .i64 tick, .int .i64 gate, .int .i64 rmin, .slice ro rl rc] 25)).alloc (.cells #[.int .i64 N, .slice ab al ad, .slice qb ql qd, .int .i64 tick, .int .i64 gate, .int .i64 rmin, .slice rp rl rd] 25)) ∧ Blk (w.heap.size + 1) #[.int .i64 N, .slice ab al ad, .slice qb ql qd, .int .i64 tick, .int .i64 gate, .int .i64 rmin, .slice rp rl rd] 25 ((w.alloc (.cells #[.int .i64 N, .slice aa al ac, .slice qa ql qc, .int .i64 tick, .int .i64 gate, .int .i64 rmin, .slice ro rl rc] 25)).alloc (.cells #[.int .i64 N, .slice ab al ad, .slice qb ql qd, .int .i64 tick, .int .i64 gate, .int .i64 rmin, .slice rp rl rd] 25))) := ⟨((Kp.refl _).alloc _ _).alloc _ _, Blk.grown (Blk.new w _ _) ((Grown.refl _).alloc _ _), blk_new2 w _ _ _⟩
 have SX := hide (fun W (g : Kp w W) => kitSameK aa ab al ac ad A h1 W (r1.kp g) (r2.kp g))
 have SP := hide (fun W (g : Kp w W) => kitSameK qa qb ql qc qd Q h2 W (r3.kp g) (r4.kp g))
 have H0 := hide hs
 have y0 : ((w.alloc (.cells #[.int .i64 N, .slice aa al ac, .slice qa ql qc, .int .i64 tick, .int .i64 gate, .int .i64 rmin, .slice ro rl rc] 25)).alloc (.cells #[.int .i64 N, .slice ab al ad, .slice qb ql qd, .int .i64 tick, .int .i64 gate, .int .i64 rmin, .slice rp rl rd] 25)).cell? ⟨w.heap.size, 0, none⟩ = some (.int .i64 N) := Blk.cell (unhide G1).2.1 0
 have y1 : ((w.alloc (.cells #[.int .i64 N, .slice aa al ac, .slice qa ql qc, .int .i64 tick, .int .i64 gate, .int .i64 rmin, .slice ro rl rc] 25)).alloc (.cells #[.int .i64 N, .slice ab al ad, .slice qb ql qd, .int .i64 tick, .int .i64 gate, .int .i64 rmin, .slice rp rl rd] 25)).cell? ⟨w.heap.size, 1, none⟩ = some (.slice aa al ac) := Blk.cell (unhide G1).2.1 1
 have y2 : ((w.alloc (.cells #[.int .i64 N, .slice aa al ac, .slice qa ql qc, .int .i64 tick, .int .i64 gate, .int .i64 rmin, .slice ro rl rc] 25)).alloc (.cells #[.int .i64 N, .slice ab al ad, .slice qb ql qd, .int .i64 tick, .int .i64 gate, .int .i64 rmin, .slice rp rl rd] 25)).cell? ⟨w.heap.size, 2, none⟩ = some (.slice qa ql qc) := Blk.cell (unhide G1).2.1 2
 have y3 : ((w.alloc (.cells #[.int .i64 N, .slice aa al ac, .slice qa ql qc, .int .i64 tick, .int .i64 gate, .int .i64 rmin, .slice ro rl rc] 25)).alloc (.cells #[.int .i64 N, .slice ab al ad, .slice qb ql qd, .int .i64 tick, .int .i64 gate, .int .i64 rmin, .slice rp rl rd] 25)).cell? ⟨w.heap.size, 3, none⟩ = some (.int .i64 tick) := Blk.cell (unhide G1).2.1 3
 have y4 : ((w.alloc (.cells #[.int .i64 N, .slice aa al ac, .slice qa ql qc, .int .i64 tick, .int .i64 gate, .int .i64 rmin, .slice ro rl rc] 25)).alloc (.cells #[.int .i64 N, .slice ab al ad, .slice qb ql qd, .int .i64 tick, .int .i64 gate, .int .i64 rmin, .slice rp rl rd] 25)).cell? ⟨w.heap.size, 4, none⟩ = some (.int .i64 gate) := Blk.cell (unhide G1).2.1 4
 have y5 : ((w.alloc (.cells #[.int .i64 N, .slice aa al ac, .slice qa ql qc, .int .i64 tick, .int .i64 gate, .int .i64 rmin, .slice ro rl rc] 25)).alloc (.cells #[.int .i64 N, .slice ab al ad, .slice qb ql qd, .int .i64 tick, .int .i64 gate, .int .i64 rmin, .slice rp rl rd] 25)).cell? ⟨w.heap.size, 5, none⟩ = some (.int .i64 rmin) := Blk.cell (unhide G1).2.1 5
 have y6 : ((w.alloc (.cells #[.int .i64 N, .slice aa al ac, .slice qa ql qc, .int .i64 tick, .int .i64 gate, .int .i64 rmin, .slice ro rl rc] 25)).alloc (.cells #[.int .i64 N, .slice ab al ad, .slice qb ql qd, .int .i64 tick, .int .i64 gate, .int .i64 rmin, .slice rp rl rd] 25)).cell? ⟨w.heap.size, 6, none⟩ = some (.slice ro rl rc) := Blk.cell (unhide G1).2.1 6
 have z0 : ((w.alloc (.cells #[.int .i64 N, .slice aa al ac, .slice qa ql qc, .int .i64 tick, .int .i64 gate, .int .i64 rmin, .slice ro rl rc] 25)).alloc (.cells #[.int .i64 N, .slice ab al ad, .slice qb ql qd, .int .i64 tick, .int .i64 gate, .int .i64 rmin, .slice rp rl rd] 25)).cell? ⟨w.heap.size + 1, 0, none⟩ = some (.int .i64 N) := Blk.cell (unhide G1).2.2 0
 have z1 : ((w.alloc (.cells #[.int .i64 N, .slice aa al ac, .slice qa ql qc, .int .i64 tick, .int .i64 gate, .int .i64 rmin, .slice ro rl rc] 25)).alloc (.cells #[.int .i64 N, .slice ab al ad, .slice qb ql qd, .int .i64 tick, .int .i64 gate, .int .i64 rmin, .slice rp rl rd] 25)).cell? ⟨w.heap.size + 1, 1, none⟩ = some (.slice ab al ad) := Blk.cell (unhide G1).2.2 1
 have z2 : ((w.alloc (.cells #[.int .i64 N, .slice aa al ac, .slice qa ql qc, .int .i64 tick, .int .i64 gate, .int .i64 rmin, .slice ro rl rc] 25)).alloc (.cells #[.int .i64 N, .slice ab al ad, .slice qb ql qd, .int .i64 tick, .int .i64 gate, .int .i64 rmin, .slice rp rl rd] 25)).cell? ⟨w.heap.size + 1, 2, none⟩ = some (.slice qb ql qd) := Blk.cell (unhide G1).2.2 2
 have z3 : ((w.alloc (.cells #[.int .i64 N, .slice aa al ac, .slice qa ql qc, .int .i64 tick, .int .i64 gate, .int .i64 rmin, .slice ro rl rc] 25)).alloc (.cells #[.int .i64 N, .slice ab al ad, .slice qb ql qd, .int .i64 tick, .int .i64 gate, .int .i64 rmin, .slice rp rl rd] 25)).cell? ⟨w.heap.size + 1, 3, none⟩ = some (.int .i64 tick) := Blk.cell (unhide G1).2.2 3
 have z4 : ((w.alloc (.cells #[.int .i64 N, .slice aa al ac, .slice qa ql qc, .int .i64 tick, .int .i64 gate, .int .i64 rmin, .slice ro rl rc] 25)).alloc (.cells #[.int .i64 N, .slice ab al ad, .slice qb ql qd, .int .i64 tick, .int .i64 gate, .int .i64 rmin, .slice rp rl rd] 25)).cell? ⟨w.heap.size + 1, 4, none⟩ = some (.int .i64 gate) := Blk.cell (unhide G1).2.2 4
 have z5 : ((w.alloc (.cells #[.int .i64 N, .slice aa al ac, .slice qa ql qc, .int .i64 tick, .int .i64 gate, .int .i64 rmin, .slice ro rl rc] 25)).alloc (.cells #[.int .i64 N, .slice ab al ad, .slice qb ql qd, .int .i64 tick, .int .i64 gate, .int .i64 rmin, .slice rp rl rd] 25)).cell? ⟨w.heap.size + 1, 5, none⟩ = some (.int .i64 rmin) := Blk.cell (unhide G1).2.2 5
 have z6 : ((w.alloc (.cells #[.int .i64 N, .slice aa al ac, .slice qa ql qc, .int .i64 tick, .int .i64 gate, .int .i64 rmin, .slice ro rl rc] 25)).alloc (.cells #[.int .i64 N, .slice ab al ad, .slice qb ql qd, .int .i64 tick, .int .i64 gate, .int .i64 rmin, .slice rp rl rd] 25)).cell? ⟨w.heap.size + 1, 6, none⟩ = some (.slice rp rl rd) := Blk.cell (unhide G1).2.2 6
 clear h1 h2 r1 r2 r3 r4 hs
 go_enter Tryz.func23, Tryz.ntmps23
 go_wp2_with fail
 generalize ((w.alloc (.cells #[.int .i64 N, .slice aa al ac, .slice qa ql qc, .int .i64 tick, .int .i64 gate, .int .i64 rmin, .slice ro rl rc] 25)).alloc (.cells #[.int .i64 N, .slice ab al ad, .slice qb ql qd, .int .i64 tick, .int .i64 gate, .int .i64 rmin, .slice rp rl rd] 25)) = w1 at *
 refine (unhide SX _ (unhide G1).1).mono ?_
 rintro e w2 ⟨rfl, k2⟩
 have G2 := hide (And.intro ((unhide G1).1.trans k2) (And.intro (Blk.kp (unhide G1).2.1 k2) (Blk.kp (unhide G1).2.2 k2)))
 clear k2 G1 SX y0 y1 y2 y3 y4 y5 y6 z0 z1 z2 z3 z4 z5 z6
 have y0 : w2.cell? ⟨w.heap.size, 0, none⟩ = some (.int .i64 N) := Blk.cell (unhide G2).2.1 0
 have y1 : w2.cell? ⟨w.heap.size, 1, none⟩ = some (.slice aa al ac) := Blk.cell (unhide G2).2.1 1
 have y2 : w2.cell? ⟨w.heap.size, 2, none⟩ = some (.slice qa ql qc) := Blk.cell (unhide G2).2.1 2
 have y3 : w2.cell? ⟨w.heap.size, 3, none⟩ = some (.int .i64 tick) := Blk.cell (unhide G2).2.1 3
 have y4 : w2.cell? ⟨w.heap.size, 4, none⟩ = some (.int .i64 gate) := Blk.cell (unhide G2).2.1 4
 have y5 : w2.cell? ⟨w.heap.size, 5, none⟩ = some (.int .i64 rmin) := Blk.cell (unhide G2).2.1 5
 have y6 : w2.cell? ⟨w.heap.size, 6, none⟩ = some (.slice ro rl rc) := Blk.cell (unhide G2).2.1 6
 have z0 : w2.cell? ⟨w.heap.size + 1, 0, none⟩ = some (.int .i64 N) := Blk.cell (unhide G2).2.2 0
 have z1 : w2.cell? ⟨w.heap.size + 1, 1, none⟩ = some (.slice ab al ad) := Blk.cell (unhide G2).2.2 1
 have z2 : w2.cell? ⟨w.heap.size + 1, 2, none⟩ = some (.slice qb ql qd) := Blk.cell (unhide G2).2.2 2
 have z3 : w2.cell? ⟨w.heap.size + 1, 3, none⟩ = some (.int .i64 tick) := Blk.cell (unhide G2).2.2 3
 have z4 : w2.cell? ⟨w.heap.size + 1, 4, none⟩ = some (.int .i64 gate) := Blk.cell (unhide G2).2.2 4
 have z5 : w2.cell? ⟨w.heap.size + 1, 5, none⟩ = some (.int .i64 rmin) := Blk.cell (unhide G2).2.2 5
 have z6 : w2.cell? ⟨w.heap.size + 1, 6, none⟩ = some (.slice rp rl rd) := Blk.cell (unhide G2).2.2 6
 go_wp2_with fail
 refine (unhide SP _ (unhide G2).1).mono ?_
 rintro e w3 ⟨rfl, k3⟩
 have G3 := hide (And.intro ((unhide G2).1.trans k3) (And.intro (Blk.kp (unhide G2).2.1 k3) (Blk.kp (unhide G2).2.2 k3)))
 clear k3 G2 SP y0 y1 y2 y3 y4 y5 y6 z0 z1 z2 z3 z4 z5 z6
 have y0 : w3.cell? ⟨w.heap.size, 0, none⟩ = some (.int .i64 N) := Blk.cell (unhide G3).2.1 0
 have y1 : w3.cell? ⟨w.heap.size, 1, none⟩ = some (.slice aa al ac) := Blk.cell (unhide G3).2.1 1
 have y2 : w3.cell? ⟨w.heap.size, 2, none⟩ = some (.slice qa ql qc) := Blk.cell (unhide G3).2.1 2
 have y3 : w3.cell? ⟨w.heap.size, 3, none⟩ = some (.int .i64 tick) := Blk.cell (unhide G3).2.1 3
 have y4 : w3.cell? ⟨w.heap.size, 4, none⟩ = some (.int .i64 gate) := Blk.cell (unhide G3).2.1 4
 have y5 : w3.cell? ⟨w.heap.size, 5, none⟩ = some (.int .i64 rmin) := Blk.cell (unhide G3).2.1 5
 have y6 : w3.cell? ⟨w.heap.size, 6, none⟩ = some (.slice ro rl rc) := Blk.cell (unhide G3).2.1 6
 have z0 : w3.cell? ⟨w.heap.size + 1, 0, none⟩ = some (.int .i64 N) := Blk.cell (unhide G3).2.2 0
 have z1 : w3.cell? ⟨w.heap.size + 1, 1, none⟩ = some (.slice ab al ad) := Blk.cell (unhide G3).2.2 1
 have z2 : w3.cell? ⟨w.heap.size + 1, 2, none⟩ = some (.slice qb ql qd) := Blk.cell (unhide G3).2.2 2
 have z3 : w3.cell? ⟨w.heap.size + 1, 3, none⟩ = some (.int .i64 tick) := Blk.cell (unhide G3).2.2 3
 have z4 : w3.cell? ⟨w.heap.size + 1, 4, none⟩ = some (.int .i64 gate) := Blk.cell (unhide G3).2.2 4
 have z5 : w3.cell? ⟨w.heap.size + 1, 5, none⟩ = some (.int .i64 rmin) := Blk.cell (unhide G3).2.2 5
 have z6 : w3.cell? ⟨w.heap.size + 1, 6, none⟩ = some (.slice rp rl rd) := Blk.cell (unhide G3).2.2 6
 go_wp2_with fail
 clear y0 y1 y2 y3 y4 y5 y6 z0 z1 z2 z3 z4 z5 z6
 go_loopw [5] (fun i wr => ∃ k : Nat, k ≤ rl ∧ i = .int .i64 k ∧ Hid (Kp w wr ∧ Blk w.heap.size #[.int .i64 N, .slice aa al ac, .slice qa ql qc, .int .i64 tick, .int .i64 gate, .int .i64 rmin, .slice ro rl rc] 25 wr ∧ Blk (w.heap.size + 1) #[.int .i64 N, .slice ab al ad, .slice qb ql qd, .int .i64 tick, .int .i64 gate, .int .i64 rmin, .slice rp rl rd] 25 wr)) (fun i _ => rl - (intOf i).toNat)
 case atStart => exact ⟨0, Nat.zero_le _, rfl, unhide G3⟩
 case round =>
  obtain ⟨k, hk, rfl, HI⟩ := hrel
  clear G3
  by_cases hlt : k < rl
  ·have S1 := hide (fun W (g : Kp wr W) => (unhide H0).one hlt W ((unhide HI).1.trans g))
   obtain ⟨b, o, rfl, c0, c1, c2⟩ := ((unhide H0).1.kp (unhide HI).1).at hlt
   obtain ⟨b2, o2, rfl, d0, d1, d2⟩ := ((unhide H0).2.1.kp (unhide HI).1).at hlt
   obtain ⟨e1, e2, e3, _⟩ := ((unhide H0).2.2 k hlt).1
   rw [← e1] at d0
   rw [← e3] at d1
   rw [← e2] at d2
   clear e1 e2 e3
   have i0 : (0 : Int) ≤ (k : Int) := Int.natCast_nonneg _
   have i1 : (k : Int) < (rl : Int) := Int.ofNat_lt.2 hlt
   have BB1 : Hid (k + 1 ≤ rl) := hlt
   generalize (X k).s = s at *
   generalize (X k).r = r at *
   generalize (X k).h.ao = a1 at *
   generalize (X k).h.len = len at *
   generalize (X k).h.cap = p1 at *
   generalize (Y k).h.ao = a2 at *
   generalize (Y k).h.cap = p2 at *
   have y6 : wr.cell? ⟨w.heap.size, 6, none⟩ = some (.slice (some ⟨b, o, none⟩) rl rc) := Blk.cell (unhide HI).2.1 6
   have z6 : wr.cell? ⟨w.heap.size + 1, 6, none⟩ = some (.slice (some ⟨b2, o2, none⟩) rl rd) := Blk.cell (unhide HI).2.2 6
   have CW : Hid (∀ W, Kp wr W → (W.cell? ⟨w.heap.size, 6, none⟩ = some (.slice (some ⟨b, o, none⟩) rl rc) ∧ W.cell? ⟨w.heap.size + 1, 6, none⟩ = some (.slice (some ⟨b2, o2, none⟩) rl rd)) ∧ (W.cell? ⟨b, o + k * 3, none⟩ = some (.int .i64 s) ∧ W.cell? ⟨b, o + k * 3 + 1, none⟩ = some (.slice a1 len p1) ∧ W.cell? ⟨b, o + k * 3 + 2, none⟩ = some (.int .i64 r)) ∧ (W.cell? ⟨b2, o2 + k * 3, none⟩ = some (.int .i64 s) ∧ W.cell? ⟨b2, o2 + k * 3 + 1, none⟩ = some (.slice a2 len p2) ∧ W.cell? ⟨b2, o2 + k * 3 + 2, none⟩ = some (.int .i64 r))) := fun W g => ⟨⟨g.cell y6, g.cell z6⟩, ⟨g.cell c0, g.cell c1, g.cell c2⟩, ⟨g.cell d0, g.cell d1, g.cell d2⟩⟩
   have gx := heap_gt c0
   have gy := heap_gt d0
   have gz := heap_gt y6
   have gv := heap_gt z6
   go_wp2_with fail
   go_region_held3 (fun w' => w'.cell? ⟨w.heap.size, 6, none⟩ = some (.slice (some ⟨b, o, none⟩) rl rc) ∧ w'.cell? ⟨w.heap.size + 1, 6, none⟩ = some (.slice (some ⟨b2, o2, none⟩) rl rd) ∧ w'.cell? ⟨b, o + k * 3, none⟩ = some (.int .i64 s) ∧ w'.cell? ⟨b, o + k * 3 + 1, none⟩ = some (.slice a1 len p1) ∧ w'.cell? ⟨b, o + k * 3 + 2, none⟩ = some (.int .i64 r) ∧ w'.cell? ⟨b2, o2 + k * 3, none⟩ = some (.int .i64 s) ∧ w'.cell? ⟨b2, o2 + k * 3 + 1, none⟩ = some (.slice a2 len p2) ∧ w'.cell? ⟨b2, o2 + k * 3 + 2, none⟩ = some (.int .i64 r))
     (simp [go_sem, *])
     (first
      | (go_at_call 48; refine (unhide S1 _ (show Kp wr wr.drew from Kp.refl _)).mono ?_; clear S1; rintro e w5 ⟨rfl, k5⟩; have K5 : Hid (Kp wr w5) := k5; obtain ⟨⟨x6, x7⟩, ⟨x0, x1, x2⟩, ⟨x3, x4, x5⟩⟩ := unhide CW w5 (unhide K5); have gy1 := heap_gt x0; have gy2 := heap_gt x3; have gy3 := heap_gt x6; have gy4 := heap_gt x7; clear k5))
   have K6 : Hid (Kp w w5 ∧ Blk w.heap.size #[.int .i64 N, .slice aa al ac, .slice qa ql qc, .int .i64 tick, .int .i64 gate, .int .i64 rmin, .slice (some ⟨b, o, none⟩) rl rc] 25 w5 ∧ Blk (w.heap.size + 1) #[.int .i64 N, .slice ab al ad, .slice qb ql qd, .int .i64 tick, .int .i64 gate, .int .i64 rmin, .slice (some ⟨b2, o2, none⟩) rl rd] 25 w5) := ⟨(unhide HI).1.trans (unhide K5), Blk.kp (unhide HI).2.1 (unhide K5), Blk.kp (unhide HI).2.2 (unhide K5)⟩
   clear CW HI
   go_wp2
   go_roundw
   case rel => exact ⟨k + 1, unhide BB1, by go_num, K6⟩
   case measure => have := unhide BB1; simp [intOf]; omega
  ·obtain rfl : k = rl := by omega
   have y6 : wr.cell? ⟨w.heap.size, 6, none⟩ = some (.slice ro k rc) := Blk.cell (unhide HI).2.1 6
   have z6 : wr.cell? ⟨w.heap.size + 1, 6, none⟩ = some (.slice rp k rd) := Blk.cell (unhide HI).2.2 6
   go_wp2
   go_ret
   exact ⟨rfl, (unhide HI).1⟩
end Go.Proofs.YtjobgjcfkomhpaaGreat
namespace Go.Proofs.YtjobgjcfkomhpaaGreat
open Go.RowKit Go.Shelf Go.Proofs.Wd
set_option maxRecDepth 10000
def PCheck : Prop := ∀ (m : DV) (w : World), m.good w → Calls Tryz.prog 26 #[.agg m.cells] w fun e w' => e = .returned (.int .i64 (chkD m)) ∧ Kp w w'
theorem pCheck : PCheck := fun m w h => (mCheckD m w h).mono (fun e w' h => ⟨h.1, Kp.of h.2⟩)
end Go.Proofs.YtjobgjcfkomhpaaGreat
namespace Go.Proofs.YtjobgjcfkomhpaaGreat
open Go.RowKit Go.Shelf Go.Proofs.Wd
set_option maxRecDepth 10000
theorem refAddTwoM (R : Nat) (a b : Int) (c : Bool) (n : Int) (bo cap : Nat) (w : World) (ha : I64 a) (hb : I64 b) (hn : 0 ≤ n ∧ n < 2305843009213693952) (h : RC R c n w) (hr : Row w (some ⟨bo, 0, none⟩) 2 (pairZ a b)) (ho : bo ≠ R) :
  Calls Tryz.prog 127 #[.pointer (some ⟨R, 0, none⟩), .slice (some ⟨bo, 0, none⟩) 2 cap] w fun e w' => e = .returned (.int .i64 (s2N a b)) ∧ RC R (c || s2C a b) (n + 2) w' ∧ Mod R w w' := by
 have := refUAdd R c n (some ⟨bo, 0, none⟩) 2 cap (pairZ a b) hn (by omega) (pairZ_I64 ha hb) w h hr (off_blk ho)
 rw [s2N_th, s2C_th] at this
 exact this
theorem refMulTwoM (R : Nat) (a b : Int) (c : Bool) (n : Int) (bo cap : Nat) (w : World) (ha : I64 a) (hb : I64 b) (hn : 0 ≤ n ∧ n < 2305843009213693952) (h : RC R c n w) (hr : Row w (some ⟨bo, 0, none⟩) 2 (pairZ a b)) (ho : bo ≠ R) :
  Calls Tryz.prog 36 #[.pointer (some ⟨R, 0, none⟩), .slice (some ⟨bo, 0, none⟩) 2 cap] w fun e w' => e = .returned (.int .i64 (m2N a b)) ∧ RC R (c || m2C a b) (n + 2) w' ∧ Mod R w w' := by
 have := refUMul R c n (some ⟨bo, 0, none⟩) 2 cap (pairZ a b) hn (by omega) (pairZ_I64 ha hb) w h hr (off_blk ho)
 rw [m2N_th, m2C_th] at this
 exact this
theorem wp_append {o : Oper} {a : Act} {w : World} {K : Act → World → Prop} {Q : Exit → Act → World → Prop} (hgd : o.guard = none) (s x : Operand) (ho : o.op = .call { callee := .builtin .append, args := #[s, x], argTypes := #[22, 22] })
  (base n : Nat) (v : Value) (Z : Nat → Int) (z : Int) (hz : Z n = z) (b : Nat) (hs : a.eval s = v) (hx : a.eval x = .slice (some ⟨b, 0, none⟩) 1 1) (hown : w.ownsRow base 3 1 v n (intL n Z)) (hc : w.cell? ⟨b, 0, none⟩ = some (.int .i64 z)) (hn : n ≤ 1000000) (hb : base ≤ w.heap.size)
  (h : ∀ v' w', Hid (w'.ownsRow base 3 1 v' (n + 1) (intL (n + 1) Z) ∧ w.grownBy w' v.ownBlock) → K (a.put o.dst v') w') : Oper.wp Tryz.prog o a w K Q := by
 have h := step_append_one (ops := #[]) (E := True) (Q := Q) hgd s x ho base n v Z z hz b hs hx hown hc hn hb h
 rwa [if_pos (by simp [Region.wanted, hgd])] at h
theorem noPanic_normal {Q : Exit → Act → World → Prop} {a : Act} {w : World} (h : Q .normal a w) : NoPanic Q .normal a w := h
def DA (w : World) (R Ba Bb Br L : Nat) (ca cb : Array Value) (r c : Int) (v : Value) (cut : Bool) (n : Int) (wr : World) : Prop :=
 Blk Ba ca 38 wr ∧ Blk Bb cb 38 wr ∧ Blk Br #[.int .i64 0, .int .i64 0, .slice none 0 0] 38 wr ∧ Blk L #[.int .i64 r, .int .i64 c, v] 38 wr ∧ RC R cut n wr ∧ Mk R w wr ∧ (R < w.heap.size ∧ w.heap.size ≤ Ba ∧ w.heap.size ≤ Bb ∧ w.heap.size ≤ Br ∧ Ba < L ∧ Bb < L ∧ Br < L)
def DI (w : World) (R Ba Bb Br L : Nat) (ca cb : Array Value) (r c : Int) (Z : Nat → Int) (cut : Bool) (n : Int) (k : Nat) (v : Value) (wr : World) : Prop :=
 wr.ownsRow (L + 1) 3 1 v k (intL k Z) ∧ DA w R Ba Bb Br L ca cb r c v cut n wr
section
variable {w wr w' : World} {R Ba Bb Br L : Nat} {ca cb : Array Value} {r c : Int} {Z : Nat → Int} {cut cut' : Bool} {n n' : Int} {k : Nat} {v v' : Value}
theorem DA.grown (h : DA w R Ba Bb Br L ca cb r c v cut n wr) (g : Grown wr w') : DA w R Ba Bb Br L ca cb r c v cut n w' := by
 obtain ⟨h1, h2, h3, h4, h5, h6, h7⟩ := h
 exact ⟨Blk.grown h1 g, Blk.grown h2 g, Blk.grown h3 g, Blk.grown h4 g, Blk.grown h5 g, h6.grown g, h7⟩
theorem DA.mod (h : DA w R Ba Bb Br L ca cb r c v cut n wr) (m : Mod R wr w') (u : RC R cut' n' w') : DA w R Ba Bb Br L ca cb r c v cut' n' w' := by
 obtain ⟨h1, h2, h3, h4, h5, h6, h7⟩ := h
 exact ⟨Blk.keep h1 m (by omega), Blk.keep h2 m (by omega), Blk.keep h3 m (by omega), Blk.keep h4 m (by omega), u, h6.trans (Mk.of m), h7⟩
theorem DI.grown (h : DI w R Ba Bb Br L ca cb r c Z cut n k v wr) (cs : Array Value) (t : TypeId) : DI w R Ba Bb Br L ca cb r c Z cut n k v (wr.alloc (.cells cs t)) :=
 ⟨h.1.alloc _, h.2.grown ((Grown.refl _).alloc _ _)⟩
theorem DI.mod (h : DI w R Ba Bb Br L ca cb r c Z cut n k v wr) (m : Mod R wr w') (u : RC R cut' n' w') : DI w R Ba Bb Br L ca cb r c Z cut' n' k v w' :=
 ⟨owns_mod h.1 m (by have := h.2.2.2.2.2.2.2; omega), h.2.mod m u⟩
theorem DI.app {w4 : World} (h : DI w R Ba Bb Br L ca cb r c Z cut n k v wr) (hg : w4.ownsRow (L + 1) 3 1 v' (k + 1) (intL (k + 1) Z) ∧ wr.grownBy w4 v.ownBlock) :
  DA w R Ba Bb Br L ca cb r c v cut n w4 ∧ DI w R Ba Bb Br L ca cb r c Z cut n (k + 1) v' (w4.setCell ⟨L, 2, none⟩ v') := by
 obtain ⟨h1, h2, h3, h4, h5, h6, h7, h8⟩ := h
 have lt := h1.lt
 have far : ∀ j, j < L + 1 → some j ≠ v.ownBlock := fun j hj e => by have := (lt _ e.symm).1; omega
 have q : Mod L w4 (w4.setCell ⟨L, 2, none⟩ v') := (Mod.refl _ _).setCell 2 _
 have b2 := Blk.by h2 hg.2 (far _ (by omega))
 have b3 := Blk.by h3 hg.2 (far _ (by omega))
 have b4 := Blk.by h4 hg.2 (far _ (by omega))
 have b5 := Blk.by h5 hg.2 (far _ (by omega))
 have b6 : RC R cut n w4 := Blk.by h6 hg.2 (far _ (by omega))
 have m := h7.by hg.2 (fun i e => by have := (lt i e).1; omega)
 exact ⟨⟨b2, b3, b4, b5, b6, m, h8⟩, owns_mod hg.1 q (by omega), Blk.keep b2 q (by omega), Blk.keep b3 q (by omega), Blk.keep b4 q (by omega), Blk.set b5 2 _, Blk.keep b6 q (by omega), m.new q (by omega), h8⟩
end
set_option maxRecDepth 20000 in
set_option maxHeartbeats 8000000 in
theorem refSum_ok (R : Nat) (c0 : Bool) (n : Int) (r c : Int) (a1 a2 : Option Addr) (len p1 p2 : Nat) (X Y : Nat → Int) (hok : okM r c len) (hn : 0 ≤ n ∧ n < 1152921504606846976) (hX : Hid (∀ i, i < len → I64 (X i))) (hY : Hid (∀ i, i < len → I64 (Y i))) (w : World) (h : RC R c0 n w)
  (hr : Row w a1 len X) (ho : Off R len a1) (ht : Row w a2 len Y) (hp : Off R len a2) :
  Calls Tryz.prog 95 #[.pointer (some ⟨R, 0, none⟩), .agg #[.int .i64 r, .int .i64 c, .slice a1 len p1], .agg #[.int .i64 r, .int .i64 c, .slice a2 len p2]] w fun e w' => DocP r c len (fun p => s2N (X p) (Y p)) 0 (fun w' => RC R (c0 || orC (fun p => s2C (X p) (Y p)) len) (n + 2 * len) w' ∧ Mk R w w') w e w' := by
 have hlen : len ≤ 144 := by have := mul12 r c hok.1 hok.2.1; have := hok.2.2; omega
 have AL := hide (fun w => refAlike_ok r c r c a1 a2 len p1 len p2 ⟨hok, hok, rfl, rfl⟩ w)
 have lR := Blk.lt h
 obtain ⟨G, s3, x0, x1, x2⟩ := alloc3 w #[.int .i64 r, .int .i64 c, .slice a1 len p1] 38 #[.int .i64 r, .int .i64 c, .slice a2 len p2] 38 #[.int .i64 0, .int .i64 0, .slice none 0 0] 38
 have HB := hide (And.intro x0 (And.intro x1 x2))
 have HG := hide (And.intro G (And.intro s3 lR))
 have HU := hide h
 have HR := hide hr
 have HO := hide ho
 have HT := hide ht
 have HP := hide hp
 have HN := hide hn
 clear h hr ho ht hp hn hok G s3 x0 x1 x2
 obtain ⟨Z, hZ⟩ : ∃ Z, Z = fun p => s2N (X p) (Y p) := ⟨_, rfl⟩
 rw [← hZ]
 have EZ : Hid (∀ i, Z i = s2N (X i) (Y i)) := fun i => by rw [hZ]
 clear hZ
 have lR' := hide lR
 clear lR
 go_enter Tryz.func95, Tryz.ntmps95
 go_wp2_with fail
 generalize (((w.alloc (.cells #[.int .i64 r, .int .i64 c, .slice a1 len p1] 38)).alloc (.cells #[.int .i64 r, .int .i64 c, .slice a2 len p2] 38)).alloc (.cells #[.int .i64 0, .int .i64 0, .slice none 0 0] 38)) = w1 at *
 refine (unhide AL _).mono ?_
 rintro e w2 ⟨rfl, g2⟩
 have B0 := Blk.grown (unhide HB).1 g2
 have B1 := Blk.grown (unhide HB).2.1 g2
 have y0 : w2.cell? ⟨w.heap.size, 0, none⟩ = some (.int .i64 r) := Blk.cell B0 0
 have y1 : w2.cell? ⟨w.heap.size, 1, none⟩ = some (.int .i64 c) := Blk.cell B0 1
 have ST : Hid (DI w R w.heap.size (w.heap.size + 1) (w.heap.size + 1 + 1) w2.heap.size #[.int .i64 r, .int .i64 c, .slice a1 len p1] #[.int .i64 r, .int .i64 c, .slice a2 len p2] r c Z (c0 || orC (fun p => s2C (X p) (Y p)) 0) (n + 2 * (0 : Nat)) 0 (.slice none 0 0) (w2.alloc (.cells #[.int .i64 r, .int .i64 c, .slice none 0 0] 38))) := by
  have G3 : Grown w2 (w2.alloc (.cells #[.int .i64 r, .int .i64 c, .slice none 0 0] 38)) := (Grown.refl _).alloc _ _
  have gg := gtrans (unhide HG).1 g2
  have s := (unhide HG).2.1
  have s2 := g2.2.2
  refine ⟨World.ownsRow_nil _ _ _ _, Blk.grown B0 G3, Blk.grown B1 G3, Blk.grown (Blk.grown (unhide HB).2.2 g2) G3, Blk.new w2 _ _, ?_, (Mk.of (Mod.of gg)).grown G3, unhide lR', Nat.le_refl _, by omega, by omega, by omega, by omega, by omega⟩
  show RC _ (c0 || false) (n + 2 * 0) _
  rw [Bool.or_false, Int.mul_zero, Int.add_zero]
  exact Blk.grown (Blk.grown (unhide HU) gg) G3
 clear B0 B1 AL HU HB HG g2
 go_wp2_with fail
 generalize w2.alloc (.cells #[.int .i64 r, .int .i64 c, .slice none 0 0] 38) = w3 at *
 generalize w2.heap.size = L at *
 clear y0 y1
 go_loopw [9] (fun i wr => ∃ k : Nat, k ≤ len ∧ i = .int .i64 k ∧ Hid (∃ v, DI w R w.heap.size (w.heap.size + 1) (w.heap.size + 1 + 1) L #[.int .i64 r, .int .i64 c, .slice a1 len p1] #[.int .i64 r, .int .i64 c, .slice a2 len p2] r c Z (c0 || orC (fun p => s2C (X p) (Y p)) k) (n + 2 * k) k v wr)) (fun i _ => len - (intOf i).toNat)
 case atStart => exact ⟨0, Nat.zero_le _, rfl, _, unhide ST⟩
 case round =>
  obtain ⟨k, hk, rfl, HI⟩ := hrel
  clear ST
  by_cases hlt : k < len
  ·obtain ⟨v, hI⟩ := unhide HI
   obtain ⟨b1, o1, rfl, hw1⟩ := (unhide HR).at hlt
   obtain ⟨b2, o2, rfl, hw2⟩ := (unhide HT).at hlt
   obtain ⟨x, ex⟩ : ∃ x, X k = x := ⟨_, rfl⟩
   obtain ⟨y, ey⟩ : ∃ y, Y k = y := ⟨_, rfl⟩
   obtain ⟨z, ez⟩ : ∃ z, s2N x y = z := ⟨_, rfl⟩
   rw [ex] at hw1
   rw [ey] at hw2
   have RA := hide (fun b cap W h hr ho => refAddTwoM R x y (c0 || orC (fun p => s2C (X p) (Y p)) k) (n + 2 * k) b cap W (by rw [← ex]; exact unhide hX k hlt) (by rw [← ey]; exact unhide hY k hlt) (by have := unhide HN; omega) h hr ho)
   rw [ez] at RA
   have EK : Hid (Z k = z ∧ (c0 || orC (fun p => s2C (X p) (Y p)) (k + 1)) = (c0 || orC (fun p => s2C (X p) (Y p)) k || s2C x y) ∧ n + 2 * ((k + 1 : Nat) : Int) = n + 2 * k + 2) := by
    refine ⟨by rw [unhide EZ, ex, ey, ez], ?_, by omega⟩
    show (c0 || (orC (fun p => s2C (X p) (Y p)) k || s2C (X k) (Y k))) = _
    rw [ex, ey, Bool.or_assoc]
   have CW : Hid (∀ wx v cut n, DA w R w.heap.size (w.heap.size + 1) (w.heap.size + 1 + 1) L #[.int .i64 r, .int .i64 c, .slice (some ⟨b1, o1, none⟩) len p1] #[.int .i64 r, .int .i64 c, .slice (some ⟨b2, o2, none⟩) len p2] r c v cut n wx → wx.cell? ⟨b1, o1 + k, none⟩ = some (.int .i64 x) ∧ wx.cell? ⟨b2, o2 + k, none⟩ = some (.int .i64 y) ∧ wx.cell? ⟨w.heap.size, 2, none⟩ = some (.slice (some ⟨b1, o1, none⟩) len p1) ∧ wx.cell? ⟨w.heap.size + 1, 2, none⟩ = some (.slice (some ⟨b2, o2, none⟩) len p2) ∧ wx.cell? ⟨L, 2, none⟩ = some v) := fun wx v cut n m => ⟨m.2.2.2.2.2.1.cell hw1 (unhide HO (by omega) _ rfl), m.2.2.2.2.2.1.cell hw2 (unhide HP (by omega) _ rfl), Blk.cell m.1 2, Blk.cell m.2.1 2, Blk.cell m.2.2.2.1 2⟩
   obtain ⟨hc1, hc2, hc3, hc4, hc5⟩ := unhide CW wr _ _ _ hI.2
   have hz1 : b1 < wr.heap.size := heap_gt hc1
   have hz2 : b2 < wr.heap.size := heap_gt hc2
   have hz3 : w.heap.size < wr.heap.size := heap_gt hc3
   have hz4 : w.heap.size + 1 < wr.heap.size := heap_gt hc4
   have hz5 : L < wr.heap.size := heap_gt hc5
   have i0 : (0 : Int) ≤ (k : Int) := by omega
   have i1 : (k : Int) < (len : Int) := by omega
   have hk1 : k ≤ 1000000 := by omega
   have A0 : Hid (DI w R w.heap.size (w.heap.size + 1) (w.heap.size + 1 + 1) L #[.int .i64 r, .int .i64 c, .slice (some ⟨b1, o1, none⟩) len p1] #[.int .i64 r, .int .i64 c, .slice (some ⟨b2, o2, none⟩) len p2] r c Z (c0 || orC (fun p => s2C (X p) (Y p)) k) (n + 2 * k) k v (wr.alloc (.cells #[.int .i64 x, .int .i64 y] 3)).drew ∧ Row (wr.alloc (.cells #[.int .i64 x, .int .i64 y] 3)).drew (some ⟨wr.heap.size, 0, none⟩) 2 (pairZ x y) ∧ wr.heap.size ≠ R) := ⟨hI.grown _ _, pair_rowM wr x y, by have := hI.2.2.2.2.2.1.lt; omega⟩
   clear ex ey ez HI hI hw1 hw2
   go_wp2
   refine region_G (fun w' => w'.cell? ⟨b1, o1 + k, none⟩ = some (.int .i64 x) ∧ w'.cell? ⟨b2, o2 + k, none⟩ = some (.int .i64 y) ∧ w'.cell? ⟨w.heap.size, 2, none⟩ = some (.slice (some ⟨b1, o1, none⟩) len p1) ∧ w'.cell? ⟨w.heap.size + 1, 2, none⟩ = some (.slice (some ⟨b2, o2, none⟩) len p2) ∧ w'.cell? ⟨L, 2, none⟩ = some v) 18 (by kernel_rfl) ⟨hc1, hc2, hc3, hc4, hc5⟩ (fun hHeld => ?_)
   refine take_G (i := 0) (d := 27) (v := .pointer (some ⟨L, 2, none⟩)) rfl rfl (by kernel_rfl) (by kernel_rfl) (by kernel_rfl) (by kernel_rfl) (by kernel_rfl) (Or.inl ⟨by rfl, ?_⟩) (by assumption) ?_
   ·intro w hSw
    (try dsimp only at hSw)
    go_simp
   (try simp only [Act.put, List.setIfInBounds_toArray, List.set_cons_zero, List.set_cons_succ])
   refine take_G (i := 1) (d := 28) (v := v) rfl rfl (by kernel_rfl) (by kernel_rfl) (by kernel_rfl) (by kernel_rfl) (by kernel_rfl) (Or.inl ⟨by rfl, ?_⟩) (by assumption) ?_
   ·intro w hSw
    (try dsimp only at hSw)
    go_simp
   (try simp only [Act.put, List.setIfInBounds_toArray, List.set_cons_zero, List.set_cons_succ])
   refine take_G (i := 2) (d := 29) (v := .pointer (some ⟨R, 0, none⟩)) rfl rfl (by kernel_rfl) (by kernel_rfl) (by kernel_rfl) (by kernel_rfl) (by kernel_rfl) (Or.inl ⟨by rfl, ?_⟩) (by assumption) ?_
   ·intro w hSw
    (try dsimp only at hSw)
    go_simp
   (try simp only [Act.put, List.setIfInBounds_toArray, List.set_cons_zero, List.set_cons_succ])
   refine take_G (i := 3) (d := 30) (v := .pointer (some ⟨w.heap.size, 2, none⟩)) rfl rfl (by kernel_rfl) (by kernel_rfl) (by kernel_rfl) (by kernel_rfl) (by kernel_rfl) (Or.inl ⟨by rfl, ?_⟩) (by assumption) ?_
   ·intro w hSw
    (try dsimp only at hSw)
    go_simp
   (try simp only [Act.put, List.setIfInBounds_toArray, List.set_cons_zero, List.set_cons_succ])
   refine take_G (i := 4) (d := 31) (v := .slice (some ⟨b1, o1, none⟩) len p1) rfl rfl (by kernel_rfl) (by kernel_rfl) (by kernel_rfl) (by kernel_rfl) (by kernel_rfl) (Or.inl ⟨by rfl, ?_⟩) (by assumption) ?_
   ·intro w hSw
    (try dsimp only at hSw)
    go_simp
   (try simp only [Act.put, List.setIfInBounds_toArray, List.set_cons_zero, List.set_cons_succ])
   refine take_G (i := 5) (d := 32) (v := .int .i64 (k : Int)) rfl rfl (by kernel_rfl) (by kernel_rfl) (by kernel_rfl) (by kernel_rfl) (by kernel_rfl) (Or.inl ⟨by rfl, ?_⟩) (by assumption) ?_
   ·intro w hSw
    (try dsimp only at hSw)
    go_simp
   (try simp only [Act.put, List.setIfInBounds_toArray, List.set_cons_zero, List.set_cons_succ])
   refine take_G (i := 6) (d := 33) (v := .pointer (some ⟨b1, o1 + k, none⟩)) rfl rfl (by kernel_rfl) (by kernel_rfl) (by kernel_rfl) (by kernel_rfl) (by kernel_rfl) (Or.inl ⟨by rfl, ?_⟩) (by assumption) ?_
   ·intro w hSw
    (try dsimp only at hSw)
    go_simp
   (try simp only [Act.put, List.setIfInBounds_toArray, List.set_cons_zero, List.set_cons_succ])
   refine take_G (i := 7) (d := 34) (v := .int .i64 x) rfl rfl (by kernel_rfl) (by kernel_rfl) (by kernel_rfl) (by kernel_rfl) (by kernel_rfl) (Or.inl ⟨by rfl, ?_⟩) (by assumption) ?_
   ·intro w hSw
    (try dsimp only at hSw)
    go_simp
   (try simp only [Act.put, List.setIfInBounds_toArray, List.set_cons_zero, List.set_cons_succ])
   refine take_G (i := 8) (d := 35) (v := .pointer (some ⟨w.heap.size + 1, 2, none⟩)) rfl rfl (by kernel_rfl) (by kernel_rfl) (by kernel_rfl) (by kernel_rfl) (by kernel_rfl) (Or.inl ⟨by rfl, ?_⟩) (by assumption) ?_
   ·intro w hSw
    (try dsimp only at hSw)
    go_simp
   (try simp only [Act.put, List.setIfInBounds_toArray, List.set_cons_zero, List.set_cons_succ])
   refine take_G (i := 9) (d := 36) (v := .slice (some ⟨b2, o2, none⟩) len p2) rfl rfl (by kernel_rfl) (by kernel_rfl) (by kernel_rfl) (by kernel_rfl) (by kernel_rfl) (Or.inl ⟨by rfl, ?_⟩) (by assumption) ?_
   ·intro w hSw
    (try dsimp only at hSw)
    go_simp
   (try simp only [Act.put, List.setIfInBounds_toArray, List.set_cons_zero, List.set_cons_succ])
   refine take_G (i := 10) (d := 37) (v := .int .i64 (k : Int)) rfl rfl (by kernel_rfl) (by kernel_rfl) (by kernel_rfl) (by kernel_rfl) (by kernel_rfl) (Or.inl ⟨by rfl, ?_⟩) (by assumption) ?_
   ·intro w hSw
    (try dsimp only at hSw)
    go_simp
   (try simp only [Act.put, List.setIfInBounds_toArray, List.set_cons_zero, List.set_cons_succ])
   refine take_G (i := 11) (d := 38) (v := .pointer (some ⟨b2, o2 + k, none⟩)) rfl rfl (by kernel_rfl) (by kernel_rfl) (by kernel_rfl) (by kernel_rfl) (by kernel_rfl) (Or.inl ⟨by rfl, ?_⟩) (by assumption) ?_
   ·intro w hSw
    (try dsimp only at hSw)
    go_simp
   (try simp only [Act.put, List.setIfInBounds_toArray, List.set_cons_zero, List.set_cons_succ])
   refine take_G (i := 12) (d := 39) (v := .int .i64 y) rfl rfl (by kernel_rfl) (by kernel_rfl) (by kernel_rfl) (by kernel_rfl) (by kernel_rfl) (Or.inl ⟨by rfl, ?_⟩) (by assumption) ?_
   ·intro w hSw
    (try dsimp only at hSw)
    go_simp
   (try simp only [Act.put, List.setIfInBounds_toArray, List.set_cons_zero, List.set_cons_succ])
   refine step_G (i := 13) (by kernel_rfl) (fun K hK => ?_)
   refine wpOp_of rfl rfl ?_
   unfold Oper.wp
   go_simp
   refine hK _ _ (fun _ => ⟨by simp [go_sem, *], by simp [go_sem, *], by simp [go_sem, *], by simp [go_sem, *], by simp [go_sem, *]⟩) ?_
   clear hK K
   (try simp only [Act.put, List.setIfInBounds_toArray, List.set_cons_zero, List.set_cons_succ])
   refine step_G (i := 14) (by kernel_rfl) (fun K hK => ?_)
   refine wpOp_of rfl rfl ?_
   unfold Oper.wp
   go_simp
   refine (unhide RA _ _ _ (unhide A0).1.2.2.2.2.2.1 (unhide A0).2.1 (unhide A0).2.2).mono ?_
   rintro e w4 ⟨rfl, h4, m4⟩
   have I4 := (unhide A0).1.mod m4 h4
   obtain ⟨c21, c22, c23, c24, c25⟩ := unhide CW w4 _ _ _ I4.2
   have z21 := heap_gt c21
   have z22 := heap_gt c22
   have z23 := heap_gt c23
   have z24 := heap_gt c24
   have z25 := heap_gt c25
   have A2 := hide (I4.grown #[.int .i64 z] 3)
   clear h4 m4 A0 I4 hHeld hc1 hc2 hc3 hc4 hc5 hz1 hz2 hz3 hz4 hz5
   refine hK _ _ (fun _ => ⟨c21, c22, c23, c24, c25⟩) ?_
   clear hK K
   (try simp only [Act.put, List.setIfInBounds_toArray, List.set_cons_zero, List.set_cons_succ])
   refine step_G (i := 15) (by kernel_rfl) (fun K hK => ?_)
   refine wpOp_of rfl rfl ?_
   unfold Oper.wp
   go_simp
   refine hK _ _ (fun _ => ⟨by simp [go_sem, *], by simp [go_sem, *], by simp [go_sem, *], by simp [go_sem, *], by simp [go_sem, *]⟩) ?_
   clear hK K
   (try simp only [Act.put, List.setIfInBounds_toArray, List.set_cons_zero, List.set_cons_succ])
   refine step_G (i := 16) (by kernel_rfl) (fun K hK => ?_)
   refine wpOp_of rfl rfl ?_
   refine wp_append rfl (.tmp 28) (.tmp 42) rfl (L + 1) k v Z z (unhide EK).1 w4.heap.size (by first | rfl | simp [Act.eval, Act.put]) (by first | rfl | simp [Act.eval, Act.put]) (unhide A2).1 (Blk.cell (Blk.new w4 _ _) 0) hk1 (by have := Blk.lt (unhide A2).2.2.2.2.1; omega) ?_
   intro v' w5 hg5
   obtain ⟨g', cap', rfl⟩ := ownsRow_succ (unhide hg5).1
   have P := DI.app (unhide A2) (unhide hg5)
   obtain ⟨d1, d2, d3, d4, d5⟩ := unhide CW w5 _ _ _ P.1
   have q3 := Blk.free P.1.2.2.2.1 2
   have HP5 := hide P.2
   clear P hg5 A2 c21 c22 c23 c24 c25 z21 z22 z23 z24 z25
   refine hK _ _ (fun _ => ⟨d1, d2, d3, d4, d5⟩) ?_
   clear hK K
   (try simp only [Act.put, List.setIfInBounds_toArray, List.set_cons_zero, List.set_cons_succ])
   have hHeld := (And.intro d1 (And.intro d2 (And.intro d3 (And.intro d4 d5))))
   refine take_G (i := 17) (d := 44) (v := .pointer (some ⟨L, 2, none⟩)) rfl rfl (by kernel_rfl) (by kernel_rfl) (by kernel_rfl) (by kernel_rfl) (by kernel_rfl) (Or.inl ⟨by rfl, ?_⟩) (by assumption) ?_
   ·intro w hSw
    (try dsimp only at hSw)
    go_simp
   (try simp only [Act.put, List.setIfInBounds_toArray, List.set_cons_zero, List.set_cons_succ])
   refine step_G (i := 18) (by kernel_rfl) (fun K hK => ?_)
   refine wpOp_of rfl rfl ?_
   unfold Oper.wp
   go_simp
   refine hK _ _ (fun h => absurd rfl h) ?_
   clear hK K
   (try simp only [Act.put, List.setIfInBounds_toArray, List.set_cons_zero, List.set_cons_succ])
   refine done_G (by kernel_rfl) ?_
   have R5 : Hid (∃ v, DI w R w.heap.size (w.heap.size + 1) (w.heap.size + 1 + 1) L #[.int .i64 r, .int .i64 c, .slice (some ⟨b1, o1, none⟩) len p1] #[.int .i64 r, .int .i64 c, .slice (some ⟨b2, o2, none⟩) len p2] r c Z (c0 || orC (fun p => s2C (X p) (Y p)) (k + 1)) (n + 2 * ((k + 1 : Nat) : Int)) (k + 1) v (w5.setCell ⟨L, 2, none⟩ (.slice (some ⟨g', 0, none⟩) (k + 1) cap'))) := by
    show ∃ v, _
    rw [(unhide EK).2.1, (unhide EK).2.2]
    exact ⟨_, unhide HP5⟩
   clear HP5 EK RA CW d1 d2 d3 d4 d5 q3 hHeld
   refine noPanic_normal ?_
   go_wp2
   go_roundw
   case rel => exact ⟨k + 1, by omega, by go_num, R5⟩
   case measure => simp [intOf]; omega
  ·obtain rfl : k = len := by omega
   obtain ⟨v, h0, b0, b1, b2, hM, hu, hm, hl⟩ := unhide HI
   obtain ⟨ao2, cap2, rfl, h1, h3, h4⟩ := owns_rowC h0
   have y0 : wr.cell? ⟨L, 0, none⟩ = some (.int .i64 r) := Blk.cell hM 0
   have y1 : wr.cell? ⟨L, 1, none⟩ = some (.int .i64 c) := Blk.cell hM 1
   have y2 : wr.cell? ⟨L, 2, none⟩ = some (.slice ao2 k cap2) := Blk.cell hM 2
   have t2 : wr.cell? ⟨w.heap.size, 2, none⟩ = some (.slice a1 k p1) := Blk.cell b0 2
   have e0 : wr.cell? ⟨w.heap.size + 1 + 1, 0, none⟩ = some (.int .i64 0) := Blk.cell b2 0
   have e1 : wr.cell? ⟨w.heap.size + 1 + 1, 1, none⟩ = some (.int .i64 0) := Blk.cell b2 1
   have e2 : wr.cell? ⟨w.heap.size + 1 + 1, 2, none⟩ = some (.slice none 0 0) := Blk.cell b2 2
   have f := Blk.free b2
   have R6 := hide (And.intro b2 (And.intro h1 (And.intro h3 (And.intro h4 (And.intro hu (And.intro hm hl))))))
   clear h0 b0 b1 b2 hM hu hm hl h1 h3 h4 HI
   go_wp2
   obtain ⟨b2, h1, h3, h4, hu, hm, hl⟩ := unhide R6
   have P := putM b2 (.int .i64 r) (.int .i64 c) (.slice ao2 k cap2)
   generalize (((wr.setCell ⟨w.heap.size + 1 + 1, 0, none⟩ (.int .i64 r)).setCell ⟨w.heap.size + 1 + 1, 1, none⟩ (.int .i64 c)).setCell ⟨w.heap.size + 1 + 1, 2, none⟩ (.slice ao2 k cap2)) = wE at *
   have c0 : wE.cell? ⟨w.heap.size + 1 + 1, 0, none⟩ = some (.int .i64 r) := Blk.cell P.1 0
   have c1 : wE.cell? ⟨w.heap.size + 1 + 1, 1, none⟩ = some (.int .i64 c) := Blk.cell P.1 1
   have c2 : wE.cell? ⟨w.heap.size + 1 + 1, 2, none⟩ = some (.slice ao2 k cap2) := Blk.cell P.1 2
   refine bodyPost_ret (v := .tuple #[.agg #[.int .i64 r, .int .i64 c, .slice ao2 k cap2], .int .i64 0]) (by simp [results, Tryz.results95, go_sem, c0, c1, c2]) rfl ?_
   exact ⟨_, _, rfl, h1, h3.mod P.2 (h4 _ (by omega)), fun U hU => h4 U (by omega), Blk.keep hu P.2 (by omega), hm.new P.2 (by omega)⟩
set_option maxRecDepth 20000 in
set_option maxHeartbeats 8000000 in
theorem refScale_ok (R : Nat) (c0 : Bool) (n : Int) (r c s : Int) (hs : I64 s) (a1 : Option Addr) (len p1 : Nat) (X : Nat → Int) (hok : okM r c len) (hn : 0 ≤ n ∧ n < 1152921504606846976) (hX : Hid (∀ i, i < len → I64 (X i))) (w : World) (h : RC R c0 n w)
  (hr : Row w a1 len X) (ho : Off R len a1) :
  Calls Tryz.prog 47 #[.pointer (some ⟨R, 0, none⟩), .agg #[.int .i64 r, .int .i64 c, .slice a1 len p1], .int .i64 s] w fun e w' => DocP r c len (fun p => m2N (X p) s) 0 (fun w' => RC R (c0 || orC (fun p => m2C (X p) s) len) (n + 2 * len) w' ∧ Mk R w w') w e w' := by
 have hlen : len ≤ 144 := by have := mul12 r c hok.1 hok.2.1; have := hok.2.2; omega
 have AL := hide (fun w => refMCheck r c a1 len p1 w)
 rw [chk_ok hok] at AL
 have lR := Blk.lt h
 have HB : Hid (Blk w.heap.size #[.int .i64 r, .int .i64 c, .slice a1 len p1] 38 ((w.alloc (.cells #[.int .i64 r, .int .i64 c, .slice a1 len p1] 38)).alloc (.cells #[.int .i64 0, .int .i64 0, .slice none 0 0] 38)) ∧ Blk (w.heap.size + 1) #[.int .i64 0, .int .i64 0, .slice none 0 0] 38 ((w.alloc (.cells #[.int .i64 r, .int .i64 c, .slice a1 len p1] 38)).alloc (.cells #[.int .i64 0, .int .i64 0, .slice none 0 0] 38))) := ⟨Blk.grown (Blk.new w _ _) ((Grown.refl _).alloc _ _), blk_new2 w _ _ _⟩
 have HG : Hid (Grown w ((w.alloc (.cells #[.int .i64 r, .int .i64 c, .slice a1 len p1] 38)).alloc (.cells #[.int .i64 0, .int .i64 0, .slice none 0 0] 38)) ∧ w.heap.size + 1 < ((w.alloc (.cells #[.int .i64 r, .int .i64 c, .slice a1 len p1] 38)).alloc (.cells #[.int .i64 0, .int .i64 0, .slice none 0 0] 38)).heap.size ∧ R < w.heap.size) := ⟨((Grown.refl _).alloc _ _).alloc _ _, by simp, lR⟩
 have HU := hide h
 have HR := hide hr
 have HO := hide ho
 have HN := hide hn
 have HS := hide hs
 clear h hr ho hn hok hs
 obtain ⟨Z, hZ⟩ : ∃ Z, Z = fun p => m2N (X p) s := ⟨_, rfl⟩
 rw [← hZ]
 have EZ : Hid (∀ i, Z i = m2N (X i) s) := fun i => by rw [hZ]
 clear hZ
 have lR' := hide lR
 clear lR
 go_enter Tryz.func47, Tryz.ntmps47
 go_wp2_with fail
 generalize ((w.alloc (.cells #[.int .i64 r, .int .i64 c, .slice a1 len p1] 38)).alloc (.cells #[.int .i64 0, .int .i64 0, .slice none 0 0] 38)) = w1 at *
 refine (unhide AL _).mono ?_
 rintro e w2 ⟨rfl, g2⟩
 have B0 := Blk.grown (unhide HB).1 g2
 have y0 : w2.cell? ⟨w.heap.size, 0, none⟩ = some (.int .i64 r) := Blk.cell B0 0
 have y1 : w2.cell? ⟨w.heap.size, 1, none⟩ = some (.int .i64 c) := Blk.cell B0 1
 have ST : Hid (DI w R w.heap.size w.heap.size (w.heap.size + 1) w2.heap.size #[.int .i64 r, .int .i64 c, .slice a1 len p1] #[.int .i64 r, .int .i64 c, .slice a1 len p1] r c Z (c0 || orC (fun p => m2C (X p) s) 0) (n + 2 * (0 : Nat)) 0 (.slice none 0 0) (w2.alloc (.cells #[.int .i64 r, .int .i64 c, .slice none 0 0] 38))) := by
  have G3 : Grown w2 (w2.alloc (.cells #[.int .i64 r, .int .i64 c, .slice none 0 0] 38)) := (Grown.refl _).alloc _ _
  have gg := gtrans (unhide HG).1 g2
  have s := (unhide HG).2.1
  have s2 := g2.2.2
  refine ⟨World.ownsRow_nil _ _ _ _, Blk.grown B0 G3, Blk.grown B0 G3, Blk.grown (Blk.grown (unhide HB).2 g2) G3, Blk.new w2 _ _, ?_, (Mk.of (Mod.of gg)).grown G3, unhide lR', Nat.le_refl _, by omega, by omega, by omega, by omega, by omega⟩
  show RC _ (c0 || false) (n + 2 * 0) _
  rw [Bool.or_false, Int.mul_zero, Int.add_zero]
  exact Blk.grown (Blk.grown (unhide HU) gg) G3
 clear B0 AL HU HB HG g2
 go_wp2_with fail
 generalize w2.alloc (.cells #[.int .i64 r, .int .i64 c, .slice none 0 0] 38) = w3 at *
 generalize w2.heap.size = L at *
 clear y0 y1
 go_loopw [9] (fun i wr => ∃ k : Nat, k ≤ len ∧ i = .int .i64 k ∧ Hid (∃ v, DI w R w.heap.size w.heap.size (w.heap.size + 1) L #[.int .i64 r, .int .i64 c, .slice a1 len p1] #[.int .i64 r, .int .i64 c, .slice a1 len p1] r c Z (c0 || orC (fun p => m2C (X p) s) k) (n + 2 * k) k v wr)) (fun i _ => len - (intOf i).toNat)
 case atStart => exact ⟨0, Nat.zero_le _, rfl, _, unhide ST⟩
 case round =>
  obtain ⟨k, hk, rfl, HI⟩ := hrel
  clear ST
  by_cases hlt : k < len
  ·obtain ⟨v, hI⟩ := unhide HI
   obtain ⟨b1, o1, rfl, hw1⟩ := (unhide HR).at hlt
   obtain ⟨x, ex⟩ : ∃ x, X k = x := ⟨_, rfl⟩
   obtain ⟨z, ez⟩ : ∃ z, m2N x s = z := ⟨_, rfl⟩
   rw [ex] at hw1
   have RA := hide (fun b cap W h hr ho => refMulTwoM R x s (c0 || orC (fun p => m2C (X p) s) k) (n + 2 * k) b cap W (by rw [← ex]; exact unhide hX k hlt) (unhide HS) (by have := unhide HN; omega) h hr ho)
   rw [ez] at RA
   have EK : Hid (Z k = z ∧ (c0 || orC (fun p => m2C (X p) s) (k + 1)) = (c0 || orC (fun p => m2C (X p) s) k || m2C x s) ∧ n + 2 * ((k + 1 : Nat) : Int) = n + 2 * k + 2) := by
    refine ⟨by rw [unhide EZ, ex, ez], ?_, by omega⟩
    show (c0 || (orC (fun p => m2C (X p) s) k || m2C (X k) s)) = _
    rw [ex, Bool.or_assoc]
   have CW : Hid (∀ wx v cut n, DA w R w.heap.size w.heap.size (w.heap.size + 1) L #[.int .i64 r, .int .i64 c, .slice (some ⟨b1, o1, none⟩) len p1] #[.int .i64 r, .int .i64 c, .slice (some ⟨b1, o1, none⟩) len p1] r c v cut n wx → wx.cell? ⟨b1, o1 + k, none⟩ = some (.int .i64 x) ∧ wx.cell? ⟨w.heap.size, 2, none⟩ = some (.slice (some ⟨b1, o1, none⟩) len p1) ∧ wx.cell? ⟨L, 2, none⟩ = some v) := fun wx v cut n m => ⟨m.2.2.2.2.2.1.cell hw1 (unhide HO (by omega) _ rfl), Blk.cell m.1 2, Blk.cell m.2.2.2.1 2⟩
   obtain ⟨hc1, hc2, hc3⟩ := unhide CW wr _ _ _ hI.2
   have hz1 : b1 < wr.heap.size := heap_gt hc1
   have hz2 : w.heap.size < wr.heap.size := heap_gt hc2
   have hz3 : L < wr.heap.size := heap_gt hc3
   have i0 : (0 : Int) ≤ (k : Int) := by omega
   have i1 : (k : Int) < (len : Int) := by omega
   have hk1 : k ≤ 1000000 := by omega
   have A0 : Hid (DI w R w.heap.size w.heap.size (w.heap.size + 1) L #[.int .i64 r, .int .i64 c, .slice (some ⟨b1, o1, none⟩) len p1] #[.int .i64 r, .int .i64 c, .slice (some ⟨b1, o1, none⟩) len p1] r c Z (c0 || orC (fun p => m2C (X p) s) k) (n + 2 * k) k v (wr.alloc (.cells #[.int .i64 x, .int .i64 s] 3)).drew ∧ Row (wr.alloc (.cells #[.int .i64 x, .int .i64 s] 3)).drew (some ⟨wr.heap.size, 0, none⟩) 2 (pairZ x s) ∧ wr.heap.size ≠ R) := ⟨hI.grown _ _, pair_rowM wr x s, by have := hI.2.2.2.2.2.1.lt; omega⟩
   clear ex ez HI hI hw1
   go_wp2
   refine region_G (fun w' => w'.cell? ⟨b1, o1 + k, none⟩ = some (.int .i64 x) ∧ w'.cell? ⟨w.heap.size, 2, none⟩ = some (.slice (some ⟨b1, o1, none⟩) len p1) ∧ w'.cell? ⟨L, 2, none⟩ = some v) 14 (by kernel_rfl) ⟨hc1, hc2, hc3⟩ (fun hHeld => ?_)
   refine take_G (i := 0) (d := 26) (v := .pointer (some ⟨L, 2, none⟩)) rfl rfl (by kernel_rfl) (by kernel_rfl) (by kernel_rfl) (by kernel_rfl) (by kernel_rfl) (Or.inl ⟨by rfl, ?_⟩) (by assumption) ?_
   ·intro w hSw
    (try dsimp only at hSw)
    go_simp
   (try simp only [Act.put, List.setIfInBounds_toArray, List.set_cons_zero, List.set_cons_succ])
   refine take_G (i := 1) (d := 27) (v := v) rfl rfl (by kernel_rfl) (by kernel_rfl) (by kernel_rfl) (by kernel_rfl) (by kernel_rfl) (Or.inl ⟨by rfl, ?_⟩) (by assumption) ?_
   ·intro w hSw
    (try dsimp only at hSw)
    go_simp
   (try simp only [Act.put, List.setIfInBounds_toArray, List.set_cons_zero, List.set_cons_succ])
   refine take_G (i := 2) (d := 28) (v := .pointer (some ⟨R, 0, none⟩)) rfl rfl (by kernel_rfl) (by kernel_rfl) (by kernel_rfl) (by kernel_rfl) (by kernel_rfl) (Or.inl ⟨by rfl, ?_⟩) (by assumption) ?_
   ·intro w hSw
    (try dsimp only at hSw)
    go_simp
   (try simp only [Act.put, List.setIfInBounds_toArray, List.set_cons_zero, List.set_cons_succ])
   refine take_G (i := 3) (d := 29) (v := .pointer (some ⟨w.heap.size, 2, none⟩)) rfl rfl (by kernel_rfl) (by kernel_rfl) (by kernel_rfl) (by kernel_rfl) (by kernel_rfl) (Or.inl ⟨by rfl, ?_⟩) (by assumption) ?_
   ·intro w hSw
    (try dsimp only at hSw)
    go_simp
   (try simp only [Act.put, List.setIfInBounds_toArray, List.set_cons_zero, List.set_cons_succ])
   refine take_G (i := 4) (d := 30) (v := .slice (some ⟨b1, o1, none⟩) len p1) rfl rfl (by kernel_rfl) (by kernel_rfl) (by kernel_rfl) (by kernel_rfl) (by kernel_rfl) (Or.inl ⟨by rfl, ?_⟩) (by assumption) ?_
   ·intro w hSw
    (try dsimp only at hSw)
    go_simp
   (try simp only [Act.put, List.setIfInBounds_toArray, List.set_cons_zero, List.set_cons_succ])
   refine take_G (i := 5) (d := 31) (v := .int .i64 (k : Int)) rfl rfl (by kernel_rfl) (by kernel_rfl) (by kernel_rfl) (by kernel_rfl) (by kernel_rfl) (Or.inl ⟨by rfl, ?_⟩) (by assumption) ?_
   ·intro w hSw
    (try dsimp only at hSw)
    go_simp
   (try simp only [Act.put, List.setIfInBounds_toArray, List.set_cons_zero, List.set_cons_succ])
   refine take_G (i := 6) (d := 32) (v := .pointer (some ⟨b1, o1 + k, none⟩)) rfl rfl (by kernel_rfl) (by kernel_rfl) (by kernel_rfl) (by kernel_rfl) (by kernel_rfl) (Or.inl ⟨by rfl, ?_⟩) (by assumption) ?_
   ·intro w hSw
    (try dsimp only at hSw)
    go_simp
   (try simp only [Act.put, List.setIfInBounds_toArray, List.set_cons_zero, List.set_cons_succ])
   refine take_G (i := 7) (d := 33) (v := .int .i64 x) rfl rfl (by kernel_rfl) (by kernel_rfl) (by kernel_rfl) (by kernel_rfl) (by kernel_rfl) (Or.inl ⟨by rfl, ?_⟩) (by assumption) ?_
   ·intro w hSw
    (try dsimp only at hSw)
    go_simp
   (try simp only [Act.put, List.setIfInBounds_toArray, List.set_cons_zero, List.set_cons_succ])
   refine take_G (i := 8) (d := 34) (v := .int .i64 s) rfl rfl (by kernel_rfl) (by kernel_rfl) (by kernel_rfl) (by kernel_rfl) (by kernel_rfl) (Or.inl ⟨by rfl, ?_⟩) (by assumption) ?_
   ·intro w hSw
    (try dsimp only at hSw)
    go_simp
   (try simp only [Act.put, List.setIfInBounds_toArray, List.set_cons_zero, List.set_cons_succ])
   refine step_G (i := 9) (by kernel_rfl) (fun K hK => ?_)
   refine wpOp_of rfl rfl ?_
   unfold Oper.wp
   go_simp
   refine hK _ _ (fun _ => ⟨by simp [go_sem, *], by simp [go_sem, *], by simp [go_sem, *]⟩) ?_
   clear hK K
   (try simp only [Act.put, List.setIfInBounds_toArray, List.set_cons_zero, List.set_cons_succ])
   refine step_G (i := 10) (by kernel_rfl) (fun K hK => ?_)
   refine wpOp_of rfl rfl ?_
   unfold Oper.wp
   go_simp
   refine (unhide RA _ _ _ (unhide A0).1.2.2.2.2.2.1 (unhide A0).2.1 (unhide A0).2.2).mono ?_
   rintro e w4 ⟨rfl, h4, m4⟩
   have I4 := (unhide A0).1.mod m4 h4
   obtain ⟨c21, c22, c23⟩ := unhide CW w4 _ _ _ I4.2
   have z21 := heap_gt c21
   have z22 := heap_gt c22
   have z23 := heap_gt c23
   have A2 := hide (I4.grown #[.int .i64 z] 3)
   clear h4 m4 A0 I4 hHeld hc1 hc2 hc3 hz1 hz2 hz3
   refine hK _ _ (fun _ => ⟨c21, c22, c23⟩) ?_
   clear hK K
   (try simp only [Act.put, List.setIfInBounds_toArray, List.set_cons_zero, List.set_cons_succ])
   refine step_G (i := 11) (by kernel_rfl) (fun K hK => ?_)
   refine wpOp_of rfl rfl ?_
   unfold Oper.wp
   go_simp
   refine hK _ _ (fun _ => ⟨by simp [go_sem, *], by simp [go_sem, *], by simp [go_sem, *]⟩) ?_
   clear hK K
   (try simp only [Act.put, List.setIfInBounds_toArray, List.set_cons_zero, List.set_cons_succ])
   refine step_G (i := 12) (by kernel_rfl) (fun K hK => ?_)
   refine wpOp_of rfl rfl ?_
   refine wp_append rfl (.tmp 27) (.tmp 37) rfl (L + 1) k v Z z (unhide EK).1 w4.heap.size (by first | rfl | simp [Act.eval, Act.put]) (by first | rfl | simp [Act.eval, Act.put]) (unhide A2).1 (Blk.cell (Blk.new w4 _ _) 0) hk1 (by have := Blk.lt (unhide A2).2.2.2.2.1; omega) ?_
   intro v' w5 hg5
   obtain ⟨g', cap', rfl⟩ := ownsRow_succ (unhide hg5).1
   have P := DI.app (unhide A2) (unhide hg5)
   obtain ⟨d1, d2, d3⟩ := unhide CW w5 _ _ _ P.1
   have q3 := Blk.free P.1.2.2.2.1 2
   have HP5 := hide P.2
   clear P hg5 A2 c21 c22 c23 z21 z22 z23
   refine hK _ _ (fun _ => ⟨d1, d2, d3⟩) ?_
   clear hK K
   (try simp only [Act.put, List.setIfInBounds_toArray, List.set_cons_zero, List.set_cons_succ])
   have hHeld := (And.intro d1 (And.intro d2 d3))
   refine take_G (i := 13) (d := 39) (v := .pointer (some ⟨L, 2, none⟩)) rfl rfl (by kernel_rfl) (by kernel_rfl) (by kernel_rfl) (by kernel_rfl) (by kernel_rfl) (Or.inl ⟨by rfl, ?_⟩) (by assumption) ?_
   ·intro w hSw
    (try dsimp only at hSw)
    go_simp
   (try simp only [Act.put, List.setIfInBounds_toArray, List.set_cons_zero, List.set_cons_succ])
   refine step_G (i := 14) (by kernel_rfl) (fun K hK => ?_)
   refine wpOp_of rfl rfl ?_
   unfold Oper.wp
   go_simp
   refine hK _ _ (fun h => absurd rfl h) ?_
   clear hK K
   (try simp only [Act.put, List.setIfInBounds_toArray, List.set_cons_zero, List.set_cons_succ])
   refine done_G (by kernel_rfl) ?_
   have R5 : Hid (∃ v, DI w R w.heap.size w.heap.size (w.heap.size + 1) L #[.int .i64 r, .int .i64 c, .slice (some ⟨b1, o1, none⟩) len p1] #[.int .i64 r, .int .i64 c, .slice (some ⟨b1, o1, none⟩) len p1] r c Z (c0 || orC (fun p => m2C (X p) s) (k + 1)) (n + 2 * ((k + 1 : Nat) : Int)) (k + 1) v (w5.setCell ⟨L, 2, none⟩ (.slice (some ⟨g', 0, none⟩) (k + 1) cap'))) := by
    show ∃ v, _
    rw [(unhide EK).2.1, (unhide EK).2.2]
    exact ⟨_, unhide HP5⟩
   clear HP5 EK RA CW d1 d2 d3 q3 hHeld
   refine noPanic_normal ?_
   go_wp2
   go_roundw
   case rel => exact ⟨k + 1, by omega, by go_num, R5⟩
   case measure => simp [intOf]; omega
  ·obtain rfl : k = len := by omega
   obtain ⟨v, h0, b0, b1, b2, hM, hu, hm, hl⟩ := unhide HI
   obtain ⟨ao2, cap2, rfl, h1, h3, h4⟩ := owns_rowC h0
   have y0 : wr.cell? ⟨L, 0, none⟩ = some (.int .i64 r) := Blk.cell hM 0
   have y1 : wr.cell? ⟨L, 1, none⟩ = some (.int .i64 c) := Blk.cell hM 1
   have y2 : wr.cell? ⟨L, 2, none⟩ = some (.slice ao2 k cap2) := Blk.cell hM 2
   have t2 : wr.cell? ⟨w.heap.size, 2, none⟩ = some (.slice a1 k p1) := Blk.cell b0 2
   have e0 : wr.cell? ⟨w.heap.size + 1, 0, none⟩ = some (.int .i64 0) := Blk.cell b2 0
   have e1 : wr.cell? ⟨w.heap.size + 1, 1, none⟩ = some (.int .i64 0) := Blk.cell b2 1
   have e2 : wr.cell? ⟨w.heap.size + 1, 2, none⟩ = some (.slice none 0 0) := Blk.cell b2 2
   have f := Blk.free b2
   have R6 := hide (And.intro b2 (And.intro h1 (And.intro h3 (And.intro h4 (And.intro hu (And.intro hm hl))))))
   clear h0 b0 b1 b2 hM hu hm hl h1 h3 h4 HI
   go_wp2
   obtain ⟨b2, h1, h3, h4, hu, hm, hl⟩ := unhide R6
   have P := putM b2 (.int .i64 r) (.int .i64 c) (.slice ao2 k cap2)
   generalize (((wr.setCell ⟨w.heap.size + 1, 0, none⟩ (.int .i64 r)).setCell ⟨w.heap.size + 1, 1, none⟩ (.int .i64 c)).setCell ⟨w.heap.size + 1, 2, none⟩ (.slice ao2 k cap2)) = wE at *
   have c0 : wE.cell? ⟨w.heap.size + 1, 0, none⟩ = some (.int .i64 r) := Blk.cell P.1 0
   have c1 : wE.cell? ⟨w.heap.size + 1, 1, none⟩ = some (.int .i64 c) := Blk.cell P.1 1
   have c2 : wE.cell? ⟨w.heap.size + 1, 2, none⟩ = some (.slice ao2 k cap2) := Blk.cell P.1 2
   refine bodyPost_ret (v := .tuple #[.agg #[.int .i64 r, .int .i64 c, .slice ao2 k cap2], .int .i64 0]) (by simp [results, Tryz.results47, go_sem, c0, c1, c2]) rfl ?_
   exact ⟨_, _, rfl, h1, h3.mod P.2 (h4 _ (by omega)), fun U hU => h4 U (by omega), Blk.keep hu P.2 (by omega), hm.new P.2 (by omega)⟩
end Go.Proofs.YtjobgjcfkomhpaaGreat
namespace Go.Proofs.YtjobgjcfkomhpaaGreat
open Go.RowKit Go.Shelf Go.Proofs.Wd
set_option maxRecDepth 10000
open Classical in
noncomputable def rfL (m : DV) (ticks least : Int) : Int := if okD m then (if least ≤ ticks ∧ ticks ≤ 1099511627776 then 0 else 4) else 2
theorem rfL_time {m : DV} {ticks least : Int} (h : okD m) (h2 : least ≤ ticks ∧ ticks ≤ 1099511627776) : rfL m ticks least = 0 := by unfold rfL; rw [if_pos h, if_pos h2]
theorem rfL_late {m : DV} {ticks least : Int} (h : okD m) (h2 : ¬ (least ≤ ticks ∧ ticks ≤ 1099511627776)) : rfL m ticks least = 4 := by unfold rfL; rw [if_pos h, if_neg h2]
theorem rfL_no {m : DV} {ticks least : Int} (h : ¬ okD m) : rfL m ticks least = 2 := by unfold rfL; rw [if_neg h]
theorem rfL_D (m : DV) (ticks : Int) : rfL m ticks (-1099511627776) = rfD m ticks := by
 by_cases h : okD m
 ·by_cases h2 : inTime ticks
  ·rw [rfL_time h h2, rfD_time h h2]
  ·rw [rfL_late h h2, rfD_late h h2]
 ·rw [rfL_no h, rfD_no h]
theorem rfL_ok {m : DV} {ticks least : Int} (h : rfL m ticks least = 0) : okD m ∧ least ≤ ticks ∧ ticks ≤ 1099511627776 := by
 unfold rfL at h
 by_cases h1 : okD m
 ·rw [if_pos h1] at h
  by_cases h2 : least ≤ ticks ∧ ticks ≤ 1099511627776
  ·exact ⟨h1, h2⟩
  ·rw [if_neg h2] at h; exact absurd h (by decide)
 ·rw [if_neg h1] at h; exact absurd h (by decide)
set_option maxRecDepth 20000 in
set_option maxHeartbeats 8000000 in
theorem moSpan (U : Nat) (c0 : Bool) (n0 : Int) (hn0 : 0 ≤ n0 ∧ n0 < 1000000000000000000) (m : DV) (ticks : Int) (hI : I64 ticks) (hT : I64 m.tick) (w : World) (h : UC U c0 n0 w) :
  Calls Tryz.prog 34 #[.pointer (some ⟨U, 0, none⟩), .agg m.cells, .int .i64 ticks] w fun e w' => e = .returned (.int .i64 (spanZ ticks m.tick)) ∧ UC U (c0 || spanC ticks m.tick) (n0 + 3) w' ∧ Mod U w w' := by
 have S2 : Hid (Grown w (w.alloc (.cells #[.int .i64 m.N, .slice m.A.ao m.A.len m.A.cap, .slice m.Q.ao m.Q.len m.Q.cap, .int .i64 m.tick, .int .i64 m.gate, .int .i64 m.rmin, .slice m.ro m.rl m.rc] 25)) ∧ Blk w.heap.size m.cells 25 (w.alloc (.cells #[.int .i64 m.N, .slice m.A.ao m.A.len m.A.cap, .slice m.Q.ao m.Q.len m.Q.cap, .int .i64 m.tick, .int .i64 m.gate, .int .i64 m.rmin, .slice m.ro m.rl m.rc] 25))) := ⟨(Grown.refl _).alloc _ _, Blk.new w _ _⟩
 have lR : Hid (U < w.heap.size) := Blk.lt h
 have HT := hide hT
 have HH := hide h
 have HN := hide hn0
 have HI := hide hI
 clear h hn0 hI hT
 unfold DV.cells
 have z3 : ((w.alloc (.cells #[.int .i64 m.N, .slice m.A.ao m.A.len m.A.cap, .slice m.Q.ao m.Q.len m.Q.cap, .int .i64 m.tick, .int .i64 m.gate, .int .i64 m.rmin, .slice m.ro m.rl m.rc] 25))).cell? ⟨w.heap.size, 3, none⟩ = some (.int .i64 m.tick) := (unhide S2).2.cellsM.2.2.2.1
 go_enter Tryz.func34, Tryz.ntmps34
 go_wp2_with fail
 generalize (w.alloc (.cells #[.int .i64 m.N, .slice m.A.ao m.A.len m.A.cap, .slice m.Q.ao m.Q.len m.Q.cap, .int .i64 m.tick, .int .i64 m.gate, .int .i64 m.rmin, .slice m.ro m.rl m.rc] 25)) = w2 at *
 refine wp_region_noPanic ?_
 refine wp_region_held_drew (S := fun w' => w'.cell? ⟨w.heap.size, 3, none⟩ = some (.int .i64 m.tick)) (by kernel_rfl) z3 (fun hHeld => ?_)
 clear z3
 have U2 : Hid (UC U c0 n0 w2.drew ∧ Mod U w w2.drew) := ⟨Blk.grown (unhide HH) (unhide S2).1, Mod.of (unhide S2).1⟩
 refine take_slotP (i := 0) (d := 7) (v := .pointer (some ⟨U, 0, none⟩)) rfl rfl (by kernel_rfl) (by kernel_rfl) (by kernel_rfl) (fun _ _ _ h => h) (Or.inl ⟨by rfl, ?_⟩) hHeld ?_
 ·intro wS hSw
  have z3 := hSw
  clear hHeld
  go_simp
 (try simp only [Act.put, List.setIfInBounds_toArray, List.set_cons_zero, List.set_cons_succ])
 refine take_slotP (i := 1) (d := 8) (v := .pointer (some ⟨U, 0, none⟩)) rfl rfl (by kernel_rfl) (by kernel_rfl) (by kernel_rfl) (fun _ _ _ h => h) (Or.inl ⟨by rfl, ?_⟩) hHeld ?_
 ·intro wS hSw
  have z3 := hSw
  clear hHeld
  go_simp
 (try simp only [Act.put, List.setIfInBounds_toArray, List.set_cons_zero, List.set_cons_succ])
 refine take_slotP (i := 2) (d := 9) (v := .int .i64 ticks) rfl rfl (by kernel_rfl) (by kernel_rfl) (by kernel_rfl) (fun _ _ _ h => h) (Or.inl ⟨by rfl, ?_⟩) hHeld ?_
 ·intro wS hSw
  have z3 := hSw
  clear hHeld
  go_simp
 (try simp only [Act.put, List.setIfInBounds_toArray, List.set_cons_zero, List.set_cons_succ])
 refine take_slotP (i := 4) (d := 11) (v := .pointer (some ⟨w.heap.size, 3, none⟩)) rfl rfl (by kernel_rfl) (by kernel_rfl) (by kernel_rfl) (fun _ _ _ h => h) (Or.inl ⟨by rfl, ?_⟩) hHeld ?_
 ·intro wS hSw
  have z3 := hSw
  clear hHeld
  go_simp
 (try simp only [Act.put, List.setIfInBounds_toArray, List.set_cons_zero, List.set_cons_succ])
 refine take_slotP (i := 5) (d := 12) (v := .int .i64 m.tick) rfl rfl (by kernel_rfl) (by kernel_rfl) (by kernel_rfl) (fun _ _ _ h => h) (Or.inl ⟨by rfl, ?_⟩) hHeld ?_
 ·intro wS hSw
  have z3 := hSw
  clear hHeld
  go_simp
 (try simp only [Act.put, List.setIfInBounds_toArray, List.set_cons_zero, List.set_cons_succ])
 have HS := hide hHeld
 clear hHeld
 refine wpAnyH_ready (rs := [3]) (by kernel_rfl) (by simp) ?_
 refine AllReadyH.cons rfl (fun K hK => ?_) AllReadyH.nil
 go_simp
 refine (unitWhole U c0 n0 ticks (unhide HI) (by have := unhide HN; omega) w2.drew (unhide U2).1).mono ?_
 rintro e w3 ⟨rfl, u3, m3⟩
 have U3 : Hid (UC U (c0 || whoC ticks) (n0 + 1) w3 ∧ Mod U w w3) := ⟨u3, (unhide U2).2.trans m3⟩
 have HS3 : Hid (w3.cell? ⟨w.heap.size, 3, none⟩ = some (.int .i64 m.tick)) := (Mk.of m3).cell (unhide HS) (by have := unhide lR; omega)
 clear u3 m3 U2 HS
 refine hK.out _ _ (unhide HS3) (fun hHeld => ?_)
 clear hK K hHeld
 (try simp only [Act.put, List.setIfInBounds_toArray, List.set_cons_zero, List.set_cons_succ])
 refine wpAnyH_ready (rs := [6]) (by kernel_rfl) (by simp) ?_
 refine AllReadyH.cons rfl (fun K hK => ?_) AllReadyH.nil
 go_simp
 have G4 : Grown w3 (w3.alloc (.cells #[.int .i64 (whoN ticks), .int .i64 m.tick] 3)) := (Grown.refl _).alloc _ _
 have U4 : Hid (UC U (c0 || whoC ticks) (n0 + 1) (w3.alloc (.cells #[.int .i64 (whoN ticks), .int .i64 m.tick] 3)) ∧ Mod U w (w3.alloc (.cells #[.int .i64 (whoN ticks), .int .i64 m.tick] 3)) ∧ Blk w3.heap.size #[.int .i64 (whoN ticks), .int .i64 m.tick] 3 (w3.alloc (.cells #[.int .i64 (whoN ticks), .int .i64 m.tick] 3)) ∧ U < w3.heap.size) := ⟨Blk.grown (unhide U3).1 G4, (unhide U3).2.trans (Mod.of G4), Blk.new _ _ _, Nat.lt_of_lt_of_le (unhide lR) (unhide U3).2.2.2.2.2⟩
 have HS4 : Hid ((w3.alloc (.cells #[.int .i64 (whoN ticks), .int .i64 m.tick] 3)).cell? ⟨w.heap.size, 3, none⟩ = some (.int .i64 m.tick)) := gat G4 (unhide HS3)
 clear G4 U3 HS3
 generalize w3.alloc (.cells #[.int .i64 (whoN ticks), .int .i64 m.tick] 3) = w4 at *
 generalize w3.heap.size = L at *
 refine hK.out _ _ (unhide HS4) (fun hHeld => ?_)
 clear hK K hHeld
 (try simp only [Act.put, List.setIfInBounds_toArray, List.set_cons_zero, List.set_cons_succ])
 refine wpAnyH_ready (rs := [7]) (by kernel_rfl) (by simp) ?_
 refine AllReadyH.cons rfl (fun K hK => ?_) AllReadyH.nil
 go_simp
 obtain ⟨Zp, hZp⟩ : ∃ Z : Nat → Int, Z = fun i => if i = 0 then whoN ticks else m.tick := ⟨_, rfl⟩
 have MU := unitMul U (c0 || whoC ticks) (n0 + 1) (some ⟨L, 0, none⟩) 2 2 Zp (by have := unhide HN; omega) (by omega) (fun i hi => by
  rw [hZp]
  rcases (show i = 0 ∨ i = 1 by omega) with rfl | rfl
  ·exact fitI_I64 _
  ·exact unhide HT) w4 (unhide U4).1 (Or.inr ⟨L, 0, rfl, fun i hi => by
  rw [Nat.zero_add, Blk.cell (unhide U4).2.2.1, hZp]
  rcases (show i = 0 ∨ i = 1 by omega) with rfl | rfl <;> rfl⟩) (fun _ a ha => by cases ha; have := (unhide U4).2.2.2; show L ≠ U; omega)
 have eZ : thN mulN 4294967296 Zp 2 = spanZ ticks m.tick ∧ thC mulN mulC 4294967296 Zp 2 = m2C (whoN ticks) m.tick := by
  rw [hZp]
  exact ⟨rfl, rfl⟩
 rw [eZ.1, eZ.2] at MU
 clear eZ hZp Zp
 refine MU.mono ?_
 rintro e w5 ⟨rfl, u5, m5⟩
 have HS5 : Hid (w5.cell? ⟨w.heap.size, 3, none⟩ = some (.int .i64 m.tick)) := (Mk.of m5).cell (unhide HS4) (by have := unhide lR; omega)
 have U5 : Hid (UC U (c0 || spanC ticks m.tick) (n0 + 3) w5 ∧ Mod U w w5) := by
  refine ⟨?_, (unhide U4).2.1.trans m5⟩
  unfold spanC
  rw [← Bool.or_assoc, show n0 + 3 = n0 + 1 + ((2 : Nat) : Int) by omega]
  exact u5
 clear MU u5 m5 U4 HS4
 refine hK.out _ _ (unhide HS5) (fun hHeld => ?_)
 clear hK K HS5
 (try simp only [Act.put, List.setIfInBounds_toArray, List.set_cons_zero, List.set_cons_succ])
 refine take_slotP (i := 8) (d := 6) (v := .int .i64 (spanZ ticks m.tick)) rfl rfl (by kernel_rfl) (by kernel_rfl) (by kernel_rfl) (fun _ _ _ h => h) (Or.inl ⟨by rfl, ?_⟩) hHeld ?_
 ·intro wS hSw
  have z3 := hSw
  clear hHeld
  go_simp
 (try simp only [Act.put, List.setIfInBounds_toArray, List.set_cons_zero, List.set_cons_succ])
 refine wpAnyH_done (by kernel_rfl) (NoPanic.normal ?_) _
 clear hHeld
 go_wp2
 go_ret
 exact ⟨rfl, (unhide U5).1, (unhide U5).2⟩
set_option maxRecDepth 20000 in
set_option maxHeartbeats 4000000 in
theorem moRefuse (U : Nat) (c0 : Bool) (n0 : Int) (hn0 : 0 ≤ n0 ∧ n0 < 1000000000000000000) (m : DV) (ticks least : Int) (w : World) (hm : ∀ W, Mk U w W → m.good W) (h : UC U c0 n0 w) :
  Calls Tryz.prog 33 #[.pointer (some ⟨U, 0, none⟩), .agg m.cells, .int .i64 ticks, .int .i64 least] w fun e w' => e = .returned (.int .i64 (rfL m ticks least)) ∧ UC U c0 n0 w' ∧ Mk U w w' := by
 have S0 : Hid (Grown w (w.alloc (.cells #[.int .i64 m.N, .slice m.A.ao m.A.len m.A.cap, .slice m.Q.ao m.Q.len m.Q.cap, .int .i64 m.tick, .int .i64 m.gate, .int .i64 m.rmin, .slice m.ro m.rl m.rc] 25)) ∧ Blk w.heap.size m.cells 25 (w.alloc (.cells #[.int .i64 m.N, .slice m.A.ao m.A.len m.A.cap, .slice m.Q.ao m.Q.len m.Q.cap, .int .i64 m.tick, .int .i64 m.gate, .int .i64 m.rmin, .slice m.ro m.rl m.rc] 25))) := ⟨(Grown.refl _).alloc _ _, Blk.new w _ _⟩
 have CK : Hid (∀ W, Mk U w W → Calls Tryz.prog 26 #[.agg #[.int .i64 m.N, .slice m.A.ao m.A.len m.A.cap, .slice m.Q.ao m.Q.len m.Q.cap, .int .i64 m.tick, .int .i64 m.gate, .int .i64 m.rmin, .slice m.ro m.rl m.rc]] W fun e w' => e = .returned (.int .i64 (chkD m)) ∧ Kp W w') := fun W g => pCheck m W (hm W g)
 have DT := hide (refuseDot U c0 n0 ⟨by omega, by omega⟩ (w.alloc (.cells #[.int .i64 m.N, .slice m.A.ao m.A.len m.A.cap, .slice m.Q.ao m.Q.len m.Q.cap, .int .i64 m.tick, .int .i64 m.gate, .int .i64 m.rmin, .slice m.ro m.rl m.rc] 25)) (Blk.grown h (unhide S0).1))
 have lU : Hid (U < w.heap.size) := Blk.lt h
 clear hm h hn0
 unfold DV.cells
 by_cases hok : okD m
 ·have E1 : Hid (chkD m = 0) := if_pos hok
  rw [unhide E1] at CK
  clear E1
  by_cases h1 : ticks < least
  ·have d1 : decide (ticks < least) = true := decide_eq_true h1
   rw [rfL_late hok (fun h => by have := h.1; omega)]
   clear h1 hok
   go_enter Tryz.func33, Tryz.ntmps33
   go_wp2_with fail
   generalize (w.alloc (.cells #[.int .i64 m.N, .slice m.A.ao m.A.len m.A.cap, .slice m.Q.ao m.Q.len m.Q.cap, .int .i64 m.tick, .int .i64 m.gate, .int .i64 m.rmin, .slice m.ro m.rl m.rc] 25)) = w1 at *
   refine (unhide DT).mono ?_
   rintro e w2 ⟨rfl, u2, m2⟩
   have S2 : Hid (UC U c0 n0 w2 ∧ Mk U w w2 ∧ Blk w.heap.size m.cells 25 w2) := ⟨u2, (Mk.of (Mod.of (unhide S0).1)).trans (Mk.of m2), Blk.keep (unhide S0).2 m2 (by have := unhide lU; omega)⟩
   clear u2 m2 S0 DT
   obtain ⟨y0, y1, y2, y3, y4, y5, y6⟩ := ((unhide S2).2.2).cellsM
   go_wp2_with fail
   refine (unhide CK w2 (unhide S2).2.1).mono ?_
   rintro e w3 ⟨rfl, k3⟩
   have S3 : Hid (UC U c0 n0 w3 ∧ Mk U w w3) := ⟨Blk.kp (unhide S2).1 k3, (unhide S2).2.1.trans (Mk.kp k3)⟩
   clear k3 S2 CK y0 y1 y2 y3 y4 y5 y6
   go_wp2
   go_ret
   exact ⟨rfl, (unhide S3).1, (unhide S3).2⟩
  ·have d1 : decide (ticks < least) = false := decide_eq_false h1
   by_cases h2 : 1099511627776 < ticks
   ·have d2 : decide (1099511627776 < ticks) = true := decide_eq_true h2
    rw [rfL_late hok (fun h => by have := h.2; omega)]
    clear h1 h2 hok
    go_enter Tryz.func33, Tryz.ntmps33
    go_wp2_with fail
    generalize (w.alloc (.cells #[.int .i64 m.N, .slice m.A.ao m.A.len m.A.cap, .slice m.Q.ao m.Q.len m.Q.cap, .int .i64 m.tick, .int .i64 m.gate, .int .i64 m.rmin, .slice m.ro m.rl m.rc] 25)) = w1 at *
    refine (unhide DT).mono ?_
    rintro e w2 ⟨rfl, u2, m2⟩
    have S2 : Hid (UC U c0 n0 w2 ∧ Mk U w w2 ∧ Blk w.heap.size m.cells 25 w2) := ⟨u2, (Mk.of (Mod.of (unhide S0).1)).trans (Mk.of m2), Blk.keep (unhide S0).2 m2 (by have := unhide lU; omega)⟩
    clear u2 m2 S0 DT
    obtain ⟨y0, y1, y2, y3, y4, y5, y6⟩ := ((unhide S2).2.2).cellsM
    go_wp2_with fail
    refine (unhide CK w2 (unhide S2).2.1).mono ?_
    rintro e w3 ⟨rfl, k3⟩
    have S3 : Hid (UC U c0 n0 w3 ∧ Mk U w w3) := ⟨Blk.kp (unhide S2).1 k3, (unhide S2).2.1.trans (Mk.kp k3)⟩
    clear k3 S2 CK y0 y1 y2 y3 y4 y5 y6
    go_wp2
    go_ret
    exact ⟨rfl, (unhide S3).1, (unhide S3).2⟩
   ·have d2 : decide (1099511627776 < ticks) = false := decide_eq_false h2
    rw [rfL_time hok ⟨by omega, by omega⟩]
    clear h1 h2 hok
    go_enter Tryz.func33, Tryz.ntmps33
    go_wp2_with fail
    generalize (w.alloc (.cells #[.int .i64 m.N, .slice m.A.ao m.A.len m.A.cap, .slice m.Q.ao m.Q.len m.Q.cap, .int .i64 m.tick, .int .i64 m.gate, .int .i64 m.rmin, .slice m.ro m.rl m.rc] 25)) = w1 at *
    refine (unhide DT).mono ?_
    rintro e w2 ⟨rfl, u2, m2⟩
    have S2 : Hid (UC U c0 n0 w2 ∧ Mk U w w2 ∧ Blk w.heap.size m.cells 25 w2) := ⟨u2, (Mk.of (Mod.of (unhide S0).1)).trans (Mk.of m2), Blk.keep (unhide S0).2 m2 (by have := unhide lU; omega)⟩
    clear u2 m2 S0 DT
    obtain ⟨y0, y1, y2, y3, y4, y5, y6⟩ := ((unhide S2).2.2).cellsM
    go_wp2_with fail
    refine (unhide CK w2 (unhide S2).2.1).mono ?_
    rintro e w3 ⟨rfl, k3⟩
    have S3 : Hid (UC U c0 n0 w3 ∧ Mk U w w3) := ⟨Blk.kp (unhide S2).1 k3, (unhide S2).2.1.trans (Mk.kp k3)⟩
    clear k3 S2 CK y0 y1 y2 y3 y4 y5 y6
    go_wp2
    go_ret
    exact ⟨rfl, (unhide S3).1, (unhide S3).2⟩
 ·have E1 : Hid (chkD m = 2) := if_neg hok
  rw [unhide E1] at CK
  rw [rfL_no hok]
  clear hok E1
  go_enter Tryz.func33, Tryz.ntmps33
  go_wp2_with fail
  generalize (w.alloc (.cells #[.int .i64 m.N, .slice m.A.ao m.A.len m.A.cap, .slice m.Q.ao m.Q.len m.Q.cap, .int .i64 m.tick, .int .i64 m.gate, .int .i64 m.rmin, .slice m.ro m.rl m.rc] 25)) = w1 at *
  refine (unhide DT).mono ?_
  rintro e w2 ⟨rfl, u2, m2⟩
  have S2 : Hid (UC U c0 n0 w2 ∧ Mk U w w2 ∧ Blk w.heap.size m.cells 25 w2) := ⟨u2, (Mk.of (Mod.of (unhide S0).1)).trans (Mk.of m2), Blk.keep (unhide S0).2 m2 (by have := unhide lU; omega)⟩
  clear u2 m2 S0 DT
  obtain ⟨y0, y1, y2, y3, y4, y5, y6⟩ := ((unhide S2).2.2).cellsM
  go_wp2_with fail
  refine (unhide CK w2 (unhide S2).2.1).mono ?_
  rintro e w3 ⟨rfl, k3⟩
  have S3 : Hid (UC U c0 n0 w3 ∧ Mk U w w3) := ⟨Blk.kp (unhide S2).1 k3, (unhide S2).2.1.trans (Mk.kp k3)⟩
  clear k3 S2 CK y0 y1 y2 y3 y4 y5 y6
  go_wp2
  go_ret
  exact ⟨rfl, (unhide S3).1, (unhide S3).2⟩
set_option maxRecDepth 20000 in
set_option maxHeartbeats 4000000 in
theorem moSpan_bad (U : Nat) (c0 : Bool) (n0 : Int) (hn0 : 0 ≤ n0 ∧ n0 < 1000000000000000000) (m : DV) (ticks : Int) (w : World) (hm : ∀ W, Mk U w W → m.good W) (e0 : rfD m ticks ≠ 0) (h : UC U c0 n0 w) :
  Calls Tryz.prog 13 #[.pointer (some ⟨U, 0, none⟩), .agg m.cells, .int .i64 ticks] w fun e w' => e = .returned (.tuple #[.int .i64 0, .int .i64 (rfD m ticks)]) ∧ UC U c0 n0 w' ∧ Mk U w w' := by
 have S0 : Hid (Grown w (w.alloc (.cells #[.int .i64 m.N, .slice m.A.ao m.A.len m.A.cap, .slice m.Q.ao m.Q.len m.Q.cap, .int .i64 m.tick, .int .i64 m.gate, .int .i64 m.rmin, .slice m.ro m.rl m.rc] 25)) ∧ Blk w.heap.size m.cells 25 (w.alloc (.cells #[.int .i64 m.N, .slice m.A.ao m.A.len m.A.cap, .slice m.Q.ao m.Q.len m.Q.cap, .int .i64 m.tick, .int .i64 m.gate, .int .i64 m.rmin, .slice m.ro m.rl m.rc] 25))) := ⟨(Grown.refl _).alloc _ _, Blk.new w _ _⟩
 have lU : Hid (U < w.heap.size) := Blk.lt h
 have RF : Hid (∀ W, Grown w W → Calls Tryz.prog 33 #[.pointer (some ⟨U, 0, none⟩), .agg #[.int .i64 m.N, .slice m.A.ao m.A.len m.A.cap, .slice m.Q.ao m.Q.len m.Q.cap, .int .i64 m.tick, .int .i64 m.gate, .int .i64 m.rmin, .slice m.ro m.rl m.rc], .int .i64 ticks, .int .i64 (-1099511627776)] W fun e w' => e = .returned (.int .i64 (rfD m ticks)) ∧ UC U c0 n0 w' ∧ Mk U W w') := fun W g => by
  have := moRefuse U c0 n0 hn0 m ticks (-1099511627776) W (fun W' k => hm W' ((Mk.kp (Kp.of g)).trans k)) (Blk.grown h g)
  rwa [rfL_D] at this
 clear hm h hn0
 have de : (rfD m ticks != 0) = true := by simpa using e0
 generalize rfD m ticks = er at *
 clear e0
 obtain ⟨y0, y1, y2, y3, y4, y5, y6⟩ := (unhide S0).2.cellsM
 unfold DV.cells
 go_enter Tryz.func13, Tryz.ntmps13
 go_wp2_with fail
 generalize (w.alloc (.cells #[.int .i64 m.N, .slice m.A.ao m.A.len m.A.cap, .slice m.Q.ao m.Q.len m.Q.cap, .int .i64 m.tick, .int .i64 m.gate, .int .i64 m.rmin, .slice m.ro m.rl m.rc] 25)) = w1 at *
 refine (unhide RF w1 (unhide S0).1).mono ?_
 rintro e w2 ⟨rfl, u2, m2⟩
 have G : Hid (UC U c0 n0 w2 ∧ Mk U w w2) := ⟨u2, (Mk.kp (Kp.of (unhide S0).1)).trans m2⟩
 clear u2 m2 S0 RF y0 y1 y2 y3 y4 y5 y6
 go_wp2
 refine bodyPost_ret (v := .tuple #[.int .i64 0, .int .i64 er]) (by simp [results, Tryz.results13, go_sem]) rfl ?_
 exact ⟨rfl, unhide G⟩
set_option maxRecDepth 20000 in
set_option maxHeartbeats 4000000 in
theorem moSpan_ok (U : Nat) (c0 : Bool) (n0 : Int) (hn0 : 0 ≤ n0 ∧ n0 < 1000000000000000000) (m : DV) (ticks : Int) (hI : I64 ticks) (hT : I64 m.tick) (w : World) (hm : ∀ W, Mk U w W → m.good W) (e0 : rfD m ticks = 0) (h : UC U c0 n0 w) :
  Calls Tryz.prog 13 #[.pointer (some ⟨U, 0, none⟩), .agg m.cells, .int .i64 ticks] w fun e w' => e = .returned (.tuple #[.int .i64 (spanZ ticks m.tick), .int .i64 0]) ∧ UC U (c0 || spanC ticks m.tick) (n0 + 3) w' ∧ Mk U w w' := by
 have S0 : Hid (Grown w (w.alloc (.cells #[.int .i64 m.N, .slice m.A.ao m.A.len m.A.cap, .slice m.Q.ao m.Q.len m.Q.cap, .int .i64 m.tick, .int .i64 m.gate, .int .i64 m.rmin, .slice m.ro m.rl m.rc] 25)) ∧ Blk w.heap.size m.cells 25 (w.alloc (.cells #[.int .i64 m.N, .slice m.A.ao m.A.len m.A.cap, .slice m.Q.ao m.Q.len m.Q.cap, .int .i64 m.tick, .int .i64 m.gate, .int .i64 m.rmin, .slice m.ro m.rl m.rc] 25))) := ⟨(Grown.refl _).alloc _ _, Blk.new w _ _⟩
 have lU : Hid (U < w.heap.size) := Blk.lt h
 have RF : Hid (∀ W, Grown w W → Calls Tryz.prog 33 #[.pointer (some ⟨U, 0, none⟩), .agg #[.int .i64 m.N, .slice m.A.ao m.A.len m.A.cap, .slice m.Q.ao m.Q.len m.Q.cap, .int .i64 m.tick, .int .i64 m.gate, .int .i64 m.rmin, .slice m.ro m.rl m.rc], .int .i64 ticks, .int .i64 (-1099511627776)] W fun e w' => e = .returned (.int .i64 0) ∧ UC U c0 n0 w' ∧ Mk U W w') := fun W g => by
  have := moRefuse U c0 n0 hn0 m ticks (-1099511627776) W (fun W' k => hm W' ((Mk.kp (Kp.of g)).trans k)) (Blk.grown h g)
  rwa [rfL_D, e0] at this
 have SP : Hid (∀ W, UC U c0 n0 W → Calls Tryz.prog 34 #[.pointer (some ⟨U, 0, none⟩), .agg #[.int .i64 m.N, .slice m.A.ao m.A.len m.A.cap, .slice m.Q.ao m.Q.len m.Q.cap, .int .i64 m.tick, .int .i64 m.gate, .int .i64 m.rmin, .slice m.ro m.rl m.rc], .int .i64 ticks] W fun e w' => e = .returned (.int .i64 (spanZ ticks m.tick)) ∧ UC U (c0 || spanC ticks m.tick) (n0 + 3) w' ∧ Mod U W w') := fun W u => moSpan U c0 n0 hn0 m ticks hI hT W u
 clear hm h hn0 e0 hI hT
 generalize spanZ ticks m.tick = sp at *
 generalize (c0 || spanC ticks m.tick) = c1 at *
 obtain ⟨y0, y1, y2, y3, y4, y5, y6⟩ := (unhide S0).2.cellsM
 unfold DV.cells
 go_enter Tryz.func13, Tryz.ntmps13
 go_wp2_with fail
 generalize (w.alloc (.cells #[.int .i64 m.N, .slice m.A.ao m.A.len m.A.cap, .slice m.Q.ao m.Q.len m.Q.cap, .int .i64 m.tick, .int .i64 m.gate, .int .i64 m.rmin, .slice m.ro m.rl m.rc] 25)) = w1 at *
 refine (unhide RF w1 (unhide S0).1).mono ?_
 rintro e w2 ⟨rfl, u2, m2⟩
 have S2 : Hid (UC U c0 n0 w2 ∧ Mk U w w2 ∧ Blk w.heap.size m.cells 25 w2) := ⟨u2, (Mk.kp (Kp.of (unhide S0).1)).trans m2, Blk.mk (unhide S0).2 m2 (by have := unhide lU; omega)⟩
 clear u2 m2 S0 RF y0 y1 y2 y3 y4 y5 y6
 obtain ⟨y0, y1, y2, y3, y4, y5, y6⟩ := ((unhide S2).2.2).cellsM
 go_wp2_with fail
 refine (unhide SP w2 (unhide S2).1).mono ?_
 rintro e w3 ⟨rfl, u3, m3⟩
 have S3 : Hid (UC U c1 (n0 + 3) w3 ∧ Mk U w w3) := ⟨u3, (unhide S2).2.1.trans (Mk.of m3)⟩
 clear u3 m3 S2 SP y0 y1 y2 y3 y4 y5 y6
 go_wp2
 refine bodyPost_ret (v := .tuple #[.int .i64 sp, .int .i64 0]) (by simp [results, Tryz.results13, go_sem]) rfl ?_
 exact ⟨rfl, unhide S3⟩
def NextP (U n nn : Nat) (c : Bool) (n0 : Int) (Z : Nat → Int) (w : World) (e : Ending) (w' : World) : Prop :=
 ∃ B cp, e = .returned (.agg #[.int .i64 n, .int .i64 n, .slice (some ⟨B, 0, none⟩) nn cp]) ∧ nn ≤ cp ∧ w.heap.size ≤ B ∧ Own B nn Z w' ∧ UW U c n0 1000 w' ∧ Mk U w w'
def NxI (w : World) (U n nn Yb B cp : Nat) (c1 : Bool) (n1 : Int) (Y : Nat → Int) (K k : Nat) (wr : World) : Prop :=
 Blk Yb #[.int .i64 n, .int .i64 n, .slice (some ⟨B, 0, none⟩) nn cp] 38 wr ∧ Blk B (ints nn (mixZ Y K k)) 3 wr ∧ UC U (c1 || orC (dvG Y K) k) (n1 + 2 * k) wr ∧ Mk U w wr ∧ Blk (w.heap.size + 1 + 1) #[.int .i64 0, .int .i64 0, .slice none 0 0] 38 wr
theorem NxI.drew {w wr : World} {U n nn Yb B cp K k : Nat} {c1 : Bool} {n1 : Int} {Y : Nat → Int} (h : NxI w U n nn Yb B cp c1 n1 Y K k wr) : NxI w U n nn Yb B cp c1 n1 Y K k wr.drew := ⟨h.1, h.2.1, h.2.2.1, h.2.2.2.1.trans (Mk.kp (Kp.of ((Grown.refl _).drew))), h.2.2.2.2⟩
theorem NxI.put {w wr w7 : World} {U n nn Yb B cp K k : Nat} {c1 wc qc : Bool} {n1 q : Int} {Y : Nat → Int} (h : NxI w U n nn Yb B cp c1 n1 Y K k wr) (u : UC U (c1 || orC (dvG Y K) k || wc || qc) (n1 + 2 * k + 1 + 1) w7) (m : Mod U wr w7) (hk : k < nn) (e1 : q = dvZ Y K k) (e2 : orC (dvG Y K) (k + 1) = (orC (dvG Y K) k || (wc || qc))) (lU : U < w.heap.size) (hB : w.heap.size ≤ B) :
  NxI w U n nn Yb B cp c1 n1 Y K (k + 1) (w7.setCell ⟨B, k, none⟩ (.int .i64 q)) ∧ Blk Yb #[.int .i64 n, .int .i64 n, .slice (some ⟨B, 0, none⟩) nn cp] 38 w7 ∧ Blk B (ints nn (mixZ Y K k)) 3 w7 := by
 obtain ⟨h1, h2, h3, h4, h5⟩ := h
 have s : Mod B w7 (w7.setCell ⟨B, k, none⟩ (.int .i64 q)) := (Mod.refl _ _).setCell _ _
 have tU : Yb ≠ U := blk_ne h1 h3 (by decide +kernel)
 have bU : B ≠ U := blk_ne h2 h3 (by decide +kernel)
 have tB : Yb ≠ B := blk_ne h1 h2 (by decide +kernel)
 have rB : w.heap.size + 1 + 1 ≠ B := blk_ne h5 h2 (by decide +kernel)
 have t7 := Blk.keep h1 m tU
 have b7 := Blk.keep h2 m bU
 have r7 := Blk.keep h5 m (by omega)
 refine ⟨⟨Blk.keep t7 s tB, ?_, ?_, (h4.trans (Mk.of m)).new s hB, Blk.keep r7 s rB⟩, t7, b7⟩
 ·have := Blk.setI b7 k q
  rw [e1, mix_succ] at this
  rw [e1]
  exact this
 ·rw [e2, ← Bool.or_assoc, ← Bool.or_assoc, show n1 + 2 * ((k + 1 : Nat) : Int) = n1 + 2 * k + 1 + 1 by omega]
  exact Blk.keep u s (Ne.symm bU)
set_option maxRecDepth 50000 in
set_option maxHeartbeats 8000000 in
theorem moNext (U n nn ab ao acap hb ho hcap K : Nat) (c0 : Bool) (n0 : Int) (hn0 : 0 ≤ n0 ∧ n0 < 1000000000000000000) (A H : Nat → Int) (hn : 1 ≤ n ∧ n ≤ 6) (hnn : n * n = nn) (hK : K ≤ 1000) (hc : nn ≤ acap) (hA : ∀ j, j < nn → I64 (A j)) (hH : ∀ j, j < nn → I64 (H j)) (w : World) (h : UC U c0 n0 w)
  (za : ∀ j, j < nn → w.cell? ⟨ab, ao + j, none⟩ = some (.int .i64 (A j))) (zh : ∀ j, j < nn → w.cell? ⟨hb, ho + j, none⟩ = some (.int .i64 (H j))) (nab : ab ≠ U) (nhb : hb ≠ U) :
  Calls Tryz.prog 91 #[.pointer (some ⟨U, 0, none⟩), .agg #[.int .i64 n, .int .i64 n, .slice (some ⟨ab, ao, none⟩) nn acap], .agg #[.int .i64 n, .int .i64 n, .slice (some ⟨hb, ho, none⟩) nn hcap], .int .i64 (K : Int)] w fun e w' => NextP U n nn (c0 || orC (mulG A H n n) nn || orC (evG (mulZ A H n n) n) nn || orC (dvG (evZ (mulZ A H n n) n) K) nn) n0 (dvZ (evZ (mulZ A H n n) n) K) w e w' := by
 have hn12 : 1 ≤ n ∧ n ≤ 12 := ⟨hn.1, by omega⟩
 have k1 : 1 * 1 ≤ n * n := Nat.mul_le_mul hn.1 hn.1
 have k6 : n * n ≤ 6 * 6 := Nat.mul_le_mul hn.2 hn.2
 rw [hnn] at k1 k6
 have kb : 0 ≤ (n : Int) * (nn : Int) ∧ (n : Int) * (nn : Int) ≤ 6 * 36 := ⟨Int.mul_nonneg (by omega) (by omega), Int.mul_le_mul (by omega) (by omega) (by omega) (by omega)⟩
 have lU : Hid (U < w.heap.size ∧ (1 ≤ nn ∧ nn ≤ 36)) := ⟨Blk.lt h, by omega, by omega⟩
 have S0 : Hid (Grown w (((w.alloc (.cells #[.int .i64 n, .int .i64 n, .slice (some ⟨ab, ao, none⟩) nn acap] 38)).alloc (.cells #[.int .i64 n, .int .i64 n, .slice (some ⟨hb, ho, none⟩) nn hcap] 38)).alloc (.cells #[.int .i64 0, .int .i64 0, .slice none 0 0] 38)) ∧ Blk w.heap.size #[.int .i64 n, .int .i64 n, .slice (some ⟨ab, ao, none⟩) nn acap] 38 (((w.alloc (.cells #[.int .i64 n, .int .i64 n, .slice (some ⟨ab, ao, none⟩) nn acap] 38)).alloc (.cells #[.int .i64 n, .int .i64 n, .slice (some ⟨hb, ho, none⟩) nn hcap] 38)).alloc (.cells #[.int .i64 0, .int .i64 0, .slice none 0 0] 38)) ∧ Blk (w.heap.size + 1) #[.int .i64 n, .int .i64 n, .slice (some ⟨hb, ho, none⟩) nn hcap] 38 (((w.alloc (.cells #[.int .i64 n, .int .i64 n, .slice (some ⟨ab, ao, none⟩) nn acap] 38)).alloc (.cells #[.int .i64 n, .int .i64 n, .slice (some ⟨hb, ho, none⟩) nn hcap] 38)).alloc (.cells #[.int .i64 0, .int .i64 0, .slice none 0 0] 38)) ∧ Blk (w.heap.size + 1 + 1) #[.int .i64 0, .int .i64 0, .slice none 0 0] 38 (((w.alloc (.cells #[.int .i64 n, .int .i64 n, .slice (some ⟨ab, ao, none⟩) nn acap] 38)).alloc (.cells #[.int .i64 n, .int .i64 n, .slice (some ⟨hb, ho, none⟩) nn hcap] 38)).alloc (.cells #[.int .i64 0, .int .i64 0, .slice none 0 0] 38))) := by
  refine ⟨(((Grown.refl _).alloc _ _).alloc _ _).alloc _ _, Blk.grown (Blk.grown (Blk.new w _ _) ((Grown.refl _).alloc _ _)) ((Grown.refl _).alloc _ _), Blk.grown (blk_new2 w _ _ _) ((Grown.refl _).alloc _ _), ?_⟩
  have := Blk.new ((w.alloc (.cells #[.int .i64 n, .int .i64 n, .slice (some ⟨ab, ao, none⟩) nn acap] 38)).alloc (.cells #[.int .i64 n, .int .i64 n, .slice (some ⟨hb, ho, none⟩) nn hcap] 38)) #[.int .i64 0, .int .i64 0, .slice none 0 0] 38
  simp only [World.size_alloc] at this
  exact this
 have MU := matMul_ok U c0 n0 ⟨hn0.1, by omega⟩ n n n ab ao acap hb ho hcap A H hn12 hn12 hn12 (by rw [hnn]; exact hc) (by rw [hnn]; exact hA) (by rw [hnn]; exact hH) (((w.alloc (.cells #[.int .i64 n, .int .i64 n, .slice (some ⟨ab, ao, none⟩) nn acap] 38)).alloc (.cells #[.int .i64 n, .int .i64 n, .slice (some ⟨hb, ho, none⟩) nn hcap] 38)).alloc (.cells #[.int .i64 0, .int .i64 0, .slice none 0 0] 38)) (Blk.grown h (unhide S0).1) (by rw [hnn]; exact fun j hj => gat (unhide S0).1 (za j hj)) (by rw [hnn]; exact fun j hj => gat (unhide S0).1 (zh j hj)) nab nhb
 rw [hnn] at MU
 have XI : Hid (∀ p, I64 (mulZ A H n n p)) := fun p => mulZ_I64 _ _ _ _ _
 have HMU := hide MU
 obtain ⟨cnt, hcnt⟩ : ∃ cnt : Int, n0 + 2 * (n : Int) * (nn : Int) = cnt := ⟨_, rfl⟩
 have HC1 : Hid (n0 ≤ cnt ∧ cnt ≤ n0 + 432 ∧ 0 ≤ n0 ∧ n0 < 1000000000000000000) := by
  rw [Int.mul_assoc] at hcnt
  exact ⟨by omega, by omega, hn0⟩
 rw [hcnt] at HMU
 have HN : Hid ((1 ≤ n ∧ n ≤ 12) ∧ n * n = nn) := ⟨hn12, hnn⟩
 have KI : Hid (I64 ((K : Nat) : Int)) := by unfold Hid I64; omega
 generalize mulZ A H n n = X at *
 obtain ⟨c1, hc1⟩ : ∃ c1, (c0 || orC (mulG A H n n) nn) = c1 := ⟨_, rfl⟩
 rw [hc1]
 rw [hc1] at HMU
 obtain ⟨c2, hc2⟩ : ∃ c2, (c1 || orC (evG X n) nn) = c2 := ⟨_, rfl⟩
 obtain ⟨Y, hY⟩ : ∃ Y, evZ X n = Y := ⟨_, rfl⟩
 have YI : Hid (∀ p, I64 (Y p)) := by rw [← hY]; exact fun p => evZ_I64 _ _ _
 rw [hc2, hY]
 have EQ := hide (And.intro hc2 hY)
 have n1 : 1 ≤ nn := by omega
 obtain ⟨x0, x1, x2⟩ := (⟨Blk.cell (unhide S0).2.1 0, Blk.cell (unhide S0).2.1 1, Blk.cell (unhide S0).2.1 2⟩ : _ ∧ _ ∧ _)
 clear MU h za zh hc1 hc2 hY hcnt hn0 kb k1 k6 hA hH hK hc hn hn12 hnn nab nhb x0 x1 x2
 go_enter Tryz.func91, Tryz.ntmps91
 go_wp2_with fail
 generalize (((w.alloc (.cells #[.int .i64 n, .int .i64 n, .slice (some ⟨ab, ao, none⟩) nn acap] 38)).alloc (.cells #[.int .i64 n, .int .i64 n, .slice (some ⟨hb, ho, none⟩) nn hcap] 38)).alloc (.cells #[.int .i64 0, .int .i64 0, .slice none 0 0] 38)) = w1 at *
 refine (unhide HMU).mono ?_
 rintro e w2 ⟨_, cp2, B2, rfl, hB2, hb2, hcp2, hu2, m2⟩
 obtain ⟨rfl, hbn⟩ := hb2.resolve_left (Nat.ne_of_gt n1)
 have g3 : Grown w2 (w2.alloc (.cells #[.int .i64 n, .int .i64 n, .slice (some ⟨B2, 0, none⟩) nn cp2] 38)) := (Grown.refl _).alloc _ _
 have S3 : Hid (Mk U w (w2.alloc (.cells #[.int .i64 n, .int .i64 n, .slice (some ⟨B2, 0, none⟩) nn cp2] 38)) ∧ Blk (w.heap.size + 1 + 1) #[.int .i64 0, .int .i64 0, .slice none 0 0] 38 (w2.alloc (.cells #[.int .i64 n, .int .i64 n, .slice (some ⟨B2, 0, none⟩) nn cp2] 38)) ∧ Blk w2.heap.size #[.int .i64 n, .int .i64 n, .slice (some ⟨B2, 0, none⟩) nn cp2] 38 (w2.alloc (.cells #[.int .i64 n, .int .i64 n, .slice (some ⟨B2, 0, none⟩) nn cp2] 38)) ∧ Blk B2 (ints nn X) 3 (w2.alloc (.cells #[.int .i64 n, .int .i64 n, .slice (some ⟨B2, 0, none⟩) nn cp2] 38)) ∧ UC U c1 cnt (w2.alloc (.cells #[.int .i64 n, .int .i64 n, .slice (some ⟨B2, 0, none⟩) nn cp2] 38)) ∧ w.heap.size ≤ B2 ∧ w.heap.size + 1 + 1 < w2.heap.size) := by
  have := (unhide S0).1.2.2
  have l2 := Blk.lt (unhide S0).2.2.2
  have m22 := m2.2.2.2
  exact ⟨((Mk.kp (Kp.of (unhide S0).1)).trans m2).grown g3, Blk.grown (Blk.mk (unhide S0).2.2.2 m2 (by have := unhide lU; omega)) g3, Blk.new _ _ _, Blk.grown hbn g3, Blk.grown hu2 g3, by omega, by omega⟩
 have TU := matTurn_ok n n B2 0 cp2 X (unhide HN).1 (unhide HN).1 (w2.alloc (.cells #[.int .i64 n, .int .i64 n, .slice (some ⟨B2, 0, none⟩) nn cp2] 38)) (by rw [(unhide HN).2]; exact fun j hj => by rw [Nat.zero_add]; exact (Own.of (unhide S3).2.2.2.1).cellAt j hj)
 rw [(unhide HN).2] at TU
 have HTU := hide TU
 have y0 : (w2.alloc (.cells #[.int .i64 n, .int .i64 n, .slice (some ⟨B2, 0, none⟩) nn cp2] 38)).cell? ⟨w2.heap.size, 0, none⟩ = some (.int .i64 n) := Blk.cell (unhide S3).2.2.1 0
 have y1 : (w2.alloc (.cells #[.int .i64 n, .int .i64 n, .slice (some ⟨B2, 0, none⟩) nn cp2] 38)).cell? ⟨w2.heap.size, 1, none⟩ = some (.int .i64 n) := Blk.cell (unhide S3).2.2.1 1
 have y2 : (w2.alloc (.cells #[.int .i64 n, .int .i64 n, .slice (some ⟨B2, 0, none⟩) nn cp2] 38)).cell? ⟨w2.heap.size, 2, none⟩ = some (.slice (some ⟨B2, 0, none⟩) nn cp2) := Blk.cell (unhide S3).2.2.1 2
 clear TU hB2 hb2 hcp2 hu2 m2 hbn HMU S0 g3
 go_wp2_with fail
 generalize (w2.alloc (.cells #[.int .i64 n, .int .i64 n, .slice (some ⟨B2, 0, none⟩) nn cp2] 38)) = w3 at *
 generalize w2.heap.size = Xb at *
 clear y0 y1 y2
 refine (unhide HTU).mono ?_
 rintro e w4 ⟨_, cp4, B4, rfl, hB4, hb4, hcp4, k4⟩
 obtain ⟨rfl, hbn⟩ := hb4.resolve_left (Nat.ne_of_gt n1)
 have g5 : Grown w4 (w4.alloc (.cells #[.int .i64 n, .int .i64 n, .slice (some ⟨B4, 0, none⟩) nn cp4] 38)) := (Grown.refl _).alloc _ _
 have S5 : Hid (Mk U w (w4.alloc (.cells #[.int .i64 n, .int .i64 n, .slice (some ⟨B4, 0, none⟩) nn cp4] 38)) ∧ Blk (w.heap.size + 1 + 1) #[.int .i64 0, .int .i64 0, .slice none 0 0] 38 (w4.alloc (.cells #[.int .i64 n, .int .i64 n, .slice (some ⟨B4, 0, none⟩) nn cp4] 38)) ∧ Blk Xb #[.int .i64 n, .int .i64 n, .slice (some ⟨B2, 0, none⟩) nn cp2] 38 (w4.alloc (.cells #[.int .i64 n, .int .i64 n, .slice (some ⟨B4, 0, none⟩) nn cp4] 38)) ∧ Blk B2 (ints nn X) 3 (w4.alloc (.cells #[.int .i64 n, .int .i64 n, .slice (some ⟨B4, 0, none⟩) nn cp4] 38)) ∧ UC U c1 cnt (w4.alloc (.cells #[.int .i64 n, .int .i64 n, .slice (some ⟨B4, 0, none⟩) nn cp4] 38)) ∧ w.heap.size ≤ B2 ∧ w.heap.size + 1 + 1 < w4.heap.size ∧ Blk w4.heap.size #[.int .i64 n, .int .i64 n, .slice (some ⟨B4, 0, none⟩) nn cp4] 38 (w4.alloc (.cells #[.int .i64 n, .int .i64 n, .slice (some ⟨B4, 0, none⟩) nn cp4] 38)) ∧ Blk B4 (ints nn (turnZ X n n)) 3 (w4.alloc (.cells #[.int .i64 n, .int .i64 n, .slice (some ⟨B4, 0, none⟩) nn cp4] 38)) ∧ w.heap.size ≤ B4) := by
  obtain ⟨h1, h2, h3, h4, h5, h6, h7⟩ := unhide S3
  have l3 := Blk.lt h3
  have k44 := k4.2.2.2
  exact ⟨(h1.trans (Mk.kp k4)).grown g5, Blk.grown (Blk.kp h2 k4) g5, Blk.grown (Blk.kp h3 k4) g5, Blk.grown (Blk.kp h4 k4) g5, Blk.grown (Blk.kp h5 k4) g5, h6, by omega, Blk.new _ _ _, Blk.grown hbn g5, by omega⟩
 have lw := (unhide lU).1
 have SU := sumR U n n (unhide HN).1 (unhide HN).1 (some ⟨B2, 0, none⟩) (some ⟨B4, 0, none⟩) cp2 cp4 X (turnZ X n n) (fun _ _ => unhide XI _) (fun _ _ => unhide XI _) (w4.alloc (.cells #[.int .i64 n, .int .i64 n, .slice (some ⟨B4, 0, none⟩) nn cp4] 38)) (by rw [(unhide HN).2]; exact ⟨Blk.row (unhide S5).2.2.2.1, off_blk (by have := (unhide S5).2.2.2.2.2.1; omega)⟩) (by rw [(unhide HN).2]; exact ⟨Blk.row (unhide S5).2.2.2.2.2.2.2.2.1, off_blk (by have := (unhide S5).2.2.2.2.2.2.2.2.2; omega)⟩) c1 cnt (by have := unhide HC1; omega) (unhide S5).2.2.2.2.1
 rw [(unhide HN).2] at SU
 have HSU := hide SU
 have y0 : (w4.alloc (.cells #[.int .i64 n, .int .i64 n, .slice (some ⟨B4, 0, none⟩) nn cp4] 38)).cell? ⟨Xb, 0, none⟩ = some (.int .i64 n) := Blk.cell (unhide S5).2.2.1 0
 have y1 : (w4.alloc (.cells #[.int .i64 n, .int .i64 n, .slice (some ⟨B4, 0, none⟩) nn cp4] 38)).cell? ⟨Xb, 1, none⟩ = some (.int .i64 n) := Blk.cell (unhide S5).2.2.1 1
 have y2 : (w4.alloc (.cells #[.int .i64 n, .int .i64 n, .slice (some ⟨B4, 0, none⟩) nn cp4] 38)).cell? ⟨Xb, 2, none⟩ = some (.slice (some ⟨B2, 0, none⟩) nn cp2) := Blk.cell (unhide S5).2.2.1 2
 have z0 : (w4.alloc (.cells #[.int .i64 n, .int .i64 n, .slice (some ⟨B4, 0, none⟩) nn cp4] 38)).cell? ⟨w4.heap.size, 0, none⟩ = some (.int .i64 n) := Blk.cell (unhide S5).2.2.2.2.2.2.2.1 0
 have z1 : (w4.alloc (.cells #[.int .i64 n, .int .i64 n, .slice (some ⟨B4, 0, none⟩) nn cp4] 38)).cell? ⟨w4.heap.size, 1, none⟩ = some (.int .i64 n) := Blk.cell (unhide S5).2.2.2.2.2.2.2.1 1
 have z2 : (w4.alloc (.cells #[.int .i64 n, .int .i64 n, .slice (some ⟨B4, 0, none⟩) nn cp4] 38)).cell? ⟨w4.heap.size, 2, none⟩ = some (.slice (some ⟨B4, 0, none⟩) nn cp4) := Blk.cell (unhide S5).2.2.2.2.2.2.2.1 2
 clear SU hB4 hb4 hcp4 k4 hbn HTU S3 g5 lw
 go_wp2_with fail
 generalize (w4.alloc (.cells #[.int .i64 n, .int .i64 n, .slice (some ⟨B4, 0, none⟩) nn cp4] 38)) = w5 at *
 generalize w4.heap.size = Tb at *
 clear y0 y1 y2 z0 z1 z2
 refine (unhide HSU).mono ?_
 rintro e w6 ⟨_, cp, B, rfl, hB6, hb6, hcp6, hu6, m6⟩
 obtain ⟨rfl, hbn⟩ := hb6.resolve_left (Nat.ne_of_gt n1)
 have g7 : Grown w6 (w6.alloc (.cells #[.int .i64 n, .int .i64 n, .slice (some ⟨B, 0, none⟩) nn cp] 38)) := (Grown.refl _).alloc _ _
 have S7 : Hid (NxI w U n nn w6.heap.size B cp c2 (cnt + 2 * (nn : Int)) Y K 0 (w6.alloc (.cells #[.int .i64 n, .int .i64 n, .slice (some ⟨B, 0, none⟩) nn cp] 38)) ∧ w.heap.size ≤ B ∧ w.heap.size + 1 + 1 < w6.heap.size ∧ nn ≤ cp) := by
  obtain ⟨h1, h2, h3, h4, h5, h6, h7, _⟩ := unhide S5
  obtain ⟨hc2, hY⟩ := unhide EQ
  have lw := (unhide lU).1
  have l2 := Blk.lt h2
  have hs := h1.2.2.2
  have m66 := m6.2.2.2
  refine ⟨⟨Blk.new _ _ _, ?_, ?_, (h1.trans m6).grown g7, Blk.grown (Blk.mk h2 m6 (by omega)) g7⟩, by omega, by omega, hcp6⟩
  ·rw [← mix_zero, ← hY]
   exact Blk.grown hbn g7
  ·show UC U (c2 || false) (_ + 2 * 0) _
   rw [Bool.or_false, Int.mul_zero, Int.add_zero, ← hc2]
   exact Blk.grown hu6 g7
 have y2 : (w6.alloc (.cells #[.int .i64 n, .int .i64 n, .slice (some ⟨B, 0, none⟩) nn cp] 38)).cell? ⟨w6.heap.size, 2, none⟩ = some (.slice (some ⟨B, 0, none⟩) nn cp) := Blk.cell (unhide S7).1.1 2
 clear hB6 hb6 hcp6 hu6 m6 hbn HSU S5 g7 EQ
 go_wp2_with fail
 generalize (w6.alloc (.cells #[.int .i64 n, .int .i64 n, .slice (some ⟨B, 0, none⟩) nn cp] 38)) = w7 at *
 generalize w6.heap.size = Yb at *
 clear y2
 go_loopw [39] (fun i wq => ∃ k : Nat, k ≤ nn ∧ i = .int .i64 k ∧ Hid (NxI w U n nn Yb B cp c2 (cnt + 2 * (nn : Int)) Y K k wq)) (fun i _ => nn - (intOf i).toNat)
 case atStart => exact ⟨0, Nat.zero_le _, rfl, (unhide S7).1⟩
 case round =>
  obtain ⟨k, hk, rfl, HK⟩ := hrel
  by_cases hkn : k < nn
  ·have xk : wr.cell? ⟨B, k, none⟩ = some (.int .i64 (Y k)) := by
    rw [Blk.cell (unhide HK).2.1, ints_at nn _ k hkn]
    simp [mixZ]
   have y0 : wr.cell? ⟨Yb, 2, none⟩ = some (.slice (some ⟨B, 0, none⟩) nn cp) := Blk.cell (unhide HK).1 2
   have k36 : k ≤ 36 := by have := (unhide lU).2; omega
   have i0 : (0 : Int) ≤ (k : Int) := by omega
   have i1 : (k : Int) < (nn : Int) := by omega
   have cb : 0 ≤ cnt + 2 * (nn : Int) + 2 * (k : Int) ∧ cnt + 2 * (nn : Int) + 2 * (k : Int) + 10 < 2305843009213693952 := by
    have := unhide HC1
    have := unhide lU
    omega
   have WH := hide (fun c w h => unitWhole U c (cnt + 2 * (nn : Int) + 2 * (k : Int)) ((K : Nat) : Int) (unhide KI) ⟨cb.1, by omega⟩ w h)
   have DV := hide (fun c w h => unitDiv U c (cnt + 2 * (nn : Int) + 2 * (k : Int) + 1) (Y k) (whoN ((K : Nat) : Int)) (unhide YI _) (whoN_I64 _) ⟨by omega, by omega⟩ w h)
   have ED : Hid (divN (Y k) (whoN ((K : Nat) : Int)) = dvZ Y K k) := rfl
   have EG : Hid (orC (dvG Y K) (k + 1) = (orC (dvG Y K) k || (whoC ((K : Nat) : Int) || divC (Y k) (whoN ((K : Nat) : Int))))) := rfl
   generalize whoN ((K : Nat) : Int) = wm at *
   generalize whoC ((K : Nat) : Int) = wc at *
   generalize Y k = y at *
   generalize divN y wm = q at *
   generalize divC y wm = qc at *
   clear cb
   go_wp2_with fail
   refine region_G (fun w' => w'.cell? ⟨Yb, 2, none⟩ = some (.slice (some ⟨B, 0, none⟩) nn cp)) 10 (by kernel_rfl) y0 (fun hHeld => ?_)
   refine take_G (i := 0) (d := 44) (v := .pointer (some ⟨Yb, 2, none⟩)) rfl rfl (by kernel_rfl) (by kernel_rfl) (by kernel_rfl) (by kernel_rfl) (by kernel_rfl) (Or.inl ⟨by rfl, ?_⟩) hHeld ?_
   ·intro wS hSw
    have z0 := hSw
    clear hHeld
    go_simp
   (try simp only [Act.put, List.setIfInBounds_toArray, List.set_cons_zero, List.set_cons_succ])
   refine take_G (i := 1) (d := 45) (v := .slice (some ⟨B, 0, none⟩) nn cp) rfl rfl (by kernel_rfl) (by kernel_rfl) (by kernel_rfl) (by kernel_rfl) (by kernel_rfl) (Or.inl ⟨by rfl, ?_⟩) hHeld ?_
   ·intro wS hSw
    have z0 := hSw
    clear hHeld
    go_simp
   (try simp only [Act.put, List.setIfInBounds_toArray, List.set_cons_zero, List.set_cons_succ])
   refine take_G (i := 2) (d := 46) (v := .int .i64 (k : Int)) rfl rfl (by kernel_rfl) (by kernel_rfl) (by kernel_rfl) (by kernel_rfl) (by kernel_rfl) (Or.inl ⟨by rfl, ?_⟩) hHeld ?_
   ·intro wS hSw
    have z0 := hSw
    clear hHeld
    go_simp
   (try simp only [Act.put, List.setIfInBounds_toArray, List.set_cons_zero, List.set_cons_succ])
   refine take_G (i := 3) (d := 47) (v := .pointer (some ⟨U, 0, none⟩)) rfl rfl (by kernel_rfl) (by kernel_rfl) (by kernel_rfl) (by kernel_rfl) (by kernel_rfl) (Or.inl ⟨by rfl, ?_⟩) hHeld ?_
   ·intro wS hSw
    have z0 := hSw
    clear hHeld
    go_simp
   (try simp only [Act.put, List.setIfInBounds_toArray, List.set_cons_zero, List.set_cons_succ])
   refine take_G (i := 4) (d := 48) (v := .int .i64 y) rfl rfl (by kernel_rfl) (by kernel_rfl) (by kernel_rfl) (by kernel_rfl) (by kernel_rfl) (Or.inl ⟨by rfl, ?_⟩) hHeld ?_
   ·intro wS hSw
    have z0 := hSw
    clear hHeld
    go_simp
   (try simp only [Act.put, List.setIfInBounds_toArray, List.set_cons_zero, List.set_cons_succ])
   refine take_G (i := 5) (d := 49) (v := .pointer (some ⟨U, 0, none⟩)) rfl rfl (by kernel_rfl) (by kernel_rfl) (by kernel_rfl) (by kernel_rfl) (by kernel_rfl) (Or.inl ⟨by rfl, ?_⟩) hHeld ?_
   ·intro wS hSw
    have z0 := hSw
    clear hHeld
    go_simp
   (try simp only [Act.put, List.setIfInBounds_toArray, List.set_cons_zero, List.set_cons_succ])
   refine take_G (i := 6) (d := 50) (v := .int .i64 ((K : Nat) : Int)) rfl rfl (by kernel_rfl) (by kernel_rfl) (by kernel_rfl) (by kernel_rfl) (by kernel_rfl) (Or.inl ⟨by rfl, ?_⟩) hHeld ?_
   ·intro wS hSw
    have z0 := hSw
    clear hHeld
    go_simp
   (try simp only [Act.put, List.setIfInBounds_toArray, List.set_cons_zero, List.set_cons_succ])
   have HK2 : Hid (NxI w U n nn Yb B cp c2 (cnt + 2 * (nn : Int)) Y K k wr.drew) := (unhide HK).drew
   clear HK xk y0 hHeld
   refine step_G (i := 7) (by kernel_rfl) (fun K1 hK1 => ?_)
   refine wpOp_of rfl rfl ?_
   unfold Oper.wp
   go_simp
   refine (unhide WH _ _ (unhide HK2).2.2.1).mono ?_
   rintro e w6 ⟨rfl, u6, m6⟩
   have b6 := Blk.keep (unhide HK2).1 m6 (blk_ne (unhide HK2).1 (unhide HK2).2.2.1 (by decide +kernel))
   have hHeld : w6.cell? ⟨Yb, 2, none⟩ = some (.slice (some ⟨B, 0, none⟩) nn cp) := Blk.cell b6 2
   have S6 := hide (And.intro u6 (And.intro m6 b6))
   refine hK1 _ _ (fun _ => hHeld) ?_
   clear hK1 K1 u6 m6 b6
   (try simp only [Act.put, List.setIfInBounds_toArray, List.set_cons_zero, List.set_cons_succ])
   refine step_G (i := 8) (by kernel_rfl) (fun K1 hK1 => ?_)
   refine wpOp_of rfl rfl ?_
   unfold Oper.wp
   go_simp
   refine (unhide DV _ _ (unhide S6).1).mono ?_
   rintro e w8 ⟨rfl, u8, m8⟩
   have P7 := hide ((unhide HK2).put u8 ((unhide S6).2.1.trans m8) hkn (unhide ED) (unhide EG) (unhide lU).1 (unhide S7).2.1)
   have k7 := Blk.cell (unhide P7).2.2 k
   rw [ints_at nn _ k hkn] at k7
   have f7 := Blk.free (unhide P7).2.2 k
   have hHeld : w8.cell? ⟨Yb, 2, none⟩ = some (.slice (some ⟨B, 0, none⟩) nn cp) := Blk.cell (unhide P7).2.1 2
   refine hK1 _ _ (fun _ => hHeld) ?_
   clear hK1 K1 u8 m8 S6
   (try simp only [Act.put, List.setIfInBounds_toArray, List.set_cons_zero, List.set_cons_succ])
   refine take_G (i := 9) (d := 53) (v := .pointer (some ⟨B, k, none⟩)) rfl rfl (by kernel_rfl) (by kernel_rfl) (by kernel_rfl) (by kernel_rfl) (by kernel_rfl) (Or.inl ⟨by rfl, ?_⟩) hHeld ?_
   ·intro wS hSw
    have z0 := hSw
    clear hHeld
    go_simp
   (try simp only [Act.put, List.setIfInBounds_toArray, List.set_cons_zero, List.set_cons_succ])
   clear hHeld
   generalize mixZ Y K k k = old at *
   refine step_G (i := 10) (by kernel_rfl) (fun K1 hK1 => ?_)
   refine wpOp_of rfl rfl ?_
   unfold Oper.wp
   go_simp
   refine hK1 _ _ (fun h => absurd rfl h) ?_
   clear hK1 K1
   (try simp only [Act.put, List.setIfInBounds_toArray, List.set_cons_zero, List.set_cons_succ])
   refine done_G (by kernel_rfl) ?_
   refine noPanic_normalE ?_
   have R : Hid (NxI w U n nn Yb B cp c2 (cnt + 2 * (nn : Int)) Y K (k + 1) (w8.setCell ⟨B, k, none⟩ (.int .i64 q))) := (unhide P7).1
   clear P7 k7 f7 WH DV ED EG HK2
   go_wp2
   go_roundw
   case rel => exact ⟨k + 1, by omega, by go_num, R⟩
   case measure => simp [intOf]; omega
  ·obtain rfl : k = nn := by omega
   obtain ⟨h1, h2, h3, h4, h5⟩ := unhide HK
   have y0 : wr.cell? ⟨Yb, 0, none⟩ = some (.int .i64 n) := Blk.cell h1 0
   have y1 : wr.cell? ⟨Yb, 1, none⟩ = some (.int .i64 n) := Blk.cell h1 1
   have y2 : wr.cell? ⟨Yb, 2, none⟩ = some (.slice (some ⟨B, 0, none⟩) k cp) := Blk.cell h1 2
   have e0 : wr.cell? ⟨w.heap.size + 1 + 1, 0, none⟩ = some (.int .i64 0) := Blk.cell h5 0
   have e1 : wr.cell? ⟨w.heap.size + 1 + 1, 1, none⟩ = some (.int .i64 0) := Blk.cell h5 1
   have e2 : wr.cell? ⟨w.heap.size + 1 + 1, 2, none⟩ = some (.slice none 0 0) := Blk.cell h5 2
   have f := Blk.free h5
   clear h1 h2 h3 h4 h5
   go_wp2
   obtain ⟨h1, h2, h3, h4, h5⟩ := unhide HK
   have P := putM h5 (.int .i64 n) (.int .i64 n) (.slice (some ⟨B, 0, none⟩) k cp)
   have rB : w.heap.size + 1 + 1 ≠ B := blk_ne h5 h2 (by decide +kernel)
   have lw := (unhide lU).1
   generalize (((wr.setCell ⟨w.heap.size + 1 + 1, 0, none⟩ (.int .i64 n)).setCell ⟨w.heap.size + 1 + 1, 1, none⟩ (.int .i64 n)).setCell ⟨w.heap.size + 1 + 1, 2, none⟩ (.slice (some ⟨B, 0, none⟩) k cp)) = wE at *
   have c0' : wE.cell? ⟨w.heap.size + 1 + 1, 0, none⟩ = some (.int .i64 n) := Blk.cell P.1 0
   have c1' : wE.cell? ⟨w.heap.size + 1 + 1, 1, none⟩ = some (.int .i64 n) := Blk.cell P.1 1
   have c2' : wE.cell? ⟨w.heap.size + 1 + 1, 2, none⟩ = some (.slice (some ⟨B, 0, none⟩) k cp) := Blk.cell P.1 2
   refine bodyPost_ret (v := .agg #[.int .i64 n, .int .i64 n, .slice (some ⟨B, 0, none⟩) k cp]) (by simp [results, Tryz.results91, go_sem, c0', c1', c2']) rfl ?_
   have hc1 := unhide HC1
   have hl := unhide lU
   rw [mix_all] at h2
   exact ⟨B, cp, rfl, (unhide S7).2.2.2, (unhide S7).2.1, Own.of (Blk.keep h2 P.2 (Ne.symm rB)), ⟨cnt + 2 * (k : Int) + 2 * (k : Int), by omega, by omega, Blk.keep h3 P.2 (by omega)⟩, h4.new P.2 (by omega)⟩
end Go.Proofs.YtjobgjcfkomhpaaGreat
namespace Go.Proofs.YtjobgjcfkomhpaaGreat
open Go.RowKit Go.Shelf Go.Proofs.Wd
set_option maxRecDepth 10000
theorem slice_fromO (b o len cap k : Nat) (h : k < cap) (hl : k ≤ len) (w : World) : (Instr.sliceAt 22 (.slice (some ⟨b, o, none⟩) len cap) (some (.int .i64 k)) none none).run Tryz.prog w = .ok (.slice (some ⟨b, o + k, none⟩) (len - k) (cap - k)) w := by
 have e : Tryz.prog.underlying 22 = some (.slice (Tryz.prog.elem 22)) := by kernel_rfl
 have s1 : (sizeOf (Tryz.prog.elem 22)).run Tryz.prog w = .ok 1 w := by kernel_rfl
 rw [run_sliceAt_slice w 22 _ _ _ _ e, run_slice_l w 22 _ len cap e .i64 k (by omega) (by omega), s1]
 show Result.ok (sliced _ (k : Int).toNat len cap 1) w = _
 unfold sliced
 rw [Int.toNat_natCast, if_neg (by omega)]
 show Result.ok (Value.slice (some ((⟨b, o, none⟩ : Addr).add (k * 1))) _ _) w = _
 rw [Go.WideShapes.add_plain, Nat.mul_one]
set_option maxHeartbeats 1000000 in
theorem chunkMk (ao : Option Addr) (len cap n : Nat) (hn : 1 ≤ n) (w : World) : Calls Tryz.prog 83 #[.slice ao len cap, .int .i64 n] w fun e w' => e = .returned (.func (.func 120) #[] #[.pointer (some ⟨w.heap.size, 0, none⟩), .pointer (some ⟨w.heap.size + 1, 0, none⟩)]) ∧ w' = (w.alloc (.cells #[.slice ao len cap] 22)).alloc (.cells #[.int .i64 n] 3) := by
 have d0 : decide ((n : Int) < 1) = false := decide_eq_false (by omega)
 go_enter Tryz.func83, Tryz.ntmps83
 go_wp2
 go_ret
 exact ⟨rfl, rfl⟩
def encC (b o n x : Nat) : Array Value := #[.slice (some ⟨b, o + x * n, none⟩) n n]
def nextC (r : Nat) (pre : List Nat) (x : Nat) : Prop := x = pre.length ∧ x < r
section
attribute [local go_sem] Oper.semAt_some
set_option maxRecDepth 100000 in
set_option maxHeartbeats 4000000 in
theorem chunk1_in (f l sb nb r n b o cap : Nat) (hf : 1 ≤ f) (hr : r ≤ 12) (hn : 1 ≤ n ∧ n ≤ 12) (hcap : r * n ≤ cap) (D : Nat → Prop) (dsb : ¬ D sb) (dnb : ¬ D nb) (J Jx : List Nat → World → Prop)
  (hJd : ∀ s A, J s A → J s A.drew) (hY : ∀ pre x W1, J pre W1 → nextC r pre x → YieldAt Fence.wide (f - 1) Tryz.prog l (encC b o n x) W1 fun e W' => KC D W1 W' ∧ ((e = .returned (.bool true) ∧ J (pre ++ [x]) W' ∧ True) ∨ (e = .returned (.bool false) ∧ Jx (pre ++ [x]) W')))
  (W : World) (hs : Blk sb #[.slice (some ⟨b, o, none⟩) (r * n) cap] 22 W) (hb : Blk nb #[.int .i64 n] 3 W) (h0 : J [] W) :
  CallsIn Fence.wide f Tryz.prog 120 #[.func (.yield l) #[] #[], .pointer (some ⟨sb, 0, none⟩), .pointer (some ⟨nb, 0, none⟩)] W fun e W' => (∃ v, e = .returned v) ∧ ((∃ xs : List Nat, xs.length = r ∧ J xs W') ∨ (∃ pre : List Nat, True ∧ Jx pre W')) := by
 have d0 : W.cell? ⟨sb, 0, none⟩ = some (.slice (some ⟨b, o, none⟩) (r * n) cap) := Blk.cell hs 0
 have HY := hide hY
 have HJd := hide hJd
 have H0 := hide (And.intro h0 (And.intro hs hb))
 have HB : Hid (r * n ≤ cap ∧ r * n ≤ 144) := ⟨hcap, Nat.mul_le_mul hr hn.2⟩
 have HPL : Hid (∀ k, k < r → k * n + n ≤ r * n) := fun k hk => place_le k r n hk
 obtain ⟨len, hlen⟩ : ∃ len, r * n = len := ⟨_, rfl⟩
 rw [hlen] at d0 H0 HB HPL
 have HLE := hide hlen
 have HN := hide hn
 clear hY hJd h0 hs hb hlen hcap hn
 refine callsIn_of_wp Tryz.func120 rfl trivial ?_ rfl
 simp only [Tryz.ntmps120, List.size_toArray, List.length_cons, List.length_nil, Nat.reduceAdd, Nat.reduceSub, Array.replicate_succ, Array.replicate_zero, List.push_toArray, List.append_toArray, List.nil_append, List.cons_append]
 gi_wp2
 gi_loopw [4] (fun i wr => ∃ k : Nat, k ≤ r ∧ i = .int .i64 ((k * n : Nat) : Int) ∧ Hid ((∃ pre : List Nat, pre.length = k ∧ J pre wr) ∧ Blk sb #[.slice (some ⟨b, o, none⟩) len cap] 22 wr ∧ Blk nb #[.int .i64 n] 3 wr)) (fun i _ => len - (intOf i).toNat)
 case atStart => exact ⟨0, Nat.zero_le _, by simp, ⟨[], rfl, (unhide H0).1⟩, (unhide H0).2⟩
 case round =>
  obtain ⟨k, hk, rfl, HI⟩ := hrel
  clear H0 d0
  by_cases hlt : k < r
  ·obtain ⟨⟨pre, hp, hJ⟩, hs, hb⟩ := unhide HI
   have c0 : wr.cell? ⟨sb, 0, none⟩ = some (.slice (some ⟨b, o, none⟩) len cap) := Blk.cell hs 0
   have c1 : wr.cell? ⟨nb, 0, none⟩ = some (.int .i64 n) := Blk.cell hb 0
   obtain ⟨fn, tmps, assign, body, hy, hR⟩ := unhide HY pre k wr.drew (unhide HJd _ _ hJ) ⟨hp.symm, hlt⟩
   dsimp only [encC] at hy
   have HS : Hid (pre.length = k ∧ Blk sb #[.slice (some ⟨b, o, none⟩) len cap] 22 wr.drew ∧ Blk nb #[.int .i64 n] 3 wr.drew) := ⟨hp, hs, hb⟩
   have pl := unhide HPL k hlt
   obtain ⟨q, hq⟩ : ∃ q, k * n = q := ⟨_, rfl⟩
   rw [hq] at pl hy
   rw [hq]
   have HQ := hide hq
   have hn1 := unhide HN
   have hb1 := unhide HB
   obtain ⟨q2, hq2⟩ : ∃ q2, q + n = q2 := ⟨_, rfl⟩
   have QE : Hid (q2 = (k + 1) * n ∧ k + 1 ≤ r ∧ q2 ≤ len ∧ q < q2) := by
    have e1 : (k + 1) * n = k * n + n := by rw [Nat.add_mul, Nat.one_mul]
    have l1 : q2 ≤ len := by omega
    have l2 : q < q2 := by omega
    exact ⟨by rw [e1, hq, hq2], hlt, l1, l2⟩
   have l3 : q < cap := by omega
   have l4 : q ≤ len := by omega
   have l5 : q < q2 := by omega
   have l6 : q2 ≤ cap := by omega
   have S1 := fun w => slice_fromO b o len cap q l3 l4 w
   have S2 := fun w => slice_part b o len cap q q2 l5 l6 w
   rw [show q2 - q = n by omega] at S2
   obtain ⟨d, hd⟩ : ∃ d : Nat, len - q = d := ⟨_, rfl⟩
   rw [hd] at S1
   have i1 : q < len := by omega
   have l7 : n ≤ d := by omega
   have l8 : q2 ≤ 1000000 := by omega
   have MN : ∀ (ts : Array TypeId) (t : TypeId) (w : World), (Builtin.min_ ts t #[.int .i64 (n : Int), .int .i64 (d : Int)]).run Tryz.prog w = .ok (.int .i64 (n : Int)) w := fun ts t w => by
    rw [Lib.run_min_ints, Int.min_eq_left (Int.ofNat_le.2 l7)]
   have hmin : min (n : Int) (d : Int) = (n : Int) := Int.min_eq_left (Int.ofNat_le.2 l7)
   have wa : wrap64 ((q : Int) + (n : Int)) = (q2 : Int) := wrapA q n q2 hq2 l8
   clear hp hs hb hJ HI hq hn1 hb1 hq2 pl hd hlt hk l3 l4 l5 l6 l7 l8
   gi_wp2
   gi_region
   have c0' : wr.drew.cell? ⟨sb, 0, none⟩ = some (.slice (some ⟨b, o, none⟩) len cap) := c0
   clear c0
   generalize wr.drew = w2 at *
   gi_wp2
   refine hR.mono ?_
   rintro e W3 ⟨hk, (⟨rfl, hJ3, _⟩ | ⟨rfl, hJx⟩)⟩
   ·have R3 : Hid ((∃ pre : List Nat, pre.length = k + 1 ∧ J pre W3) ∧ Blk sb #[.slice (some ⟨b, o, none⟩) len cap] 22 W3 ∧ Blk nb #[.int .i64 n] 3 W3) :=
     ⟨⟨_, by rw [List.length_append, (unhide HS).1]; rfl, hJ3⟩, hk.blk (unhide HS).2.1 dsb, hk.blk (unhide HS).2.2 dnb⟩
    have c3 : W3.cell? ⟨nb, 0, none⟩ = some (.int .i64 n) := Blk.cell (unhide R3).2.2 0
    clear hJ3 hk hR hy HS c1 c0'
    gi_wp2
    go_roundw
    case rel => exact ⟨k + 1, (unhide QE).2.1, by rw [← (unhide QE).1, wa], R3⟩
    case measure =>
     have h1 := (unhide QE).2.2.1
     have h2 := (unhide QE).2.2.2
     rw [wa]
     simp [intOf]
     omega
   ·have R3 : Hid (Jx (pre ++ [k]) W3) := hJx
    clear hJx hk hR hy HS c1 c0'
    gi_wp2
    refine bodyPost_ret (results_none rfl _ _ _) rfl ?_
    exact ⟨⟨_, rfl⟩, .inr ⟨_, trivial, unhide R3⟩⟩
  ·obtain rfl : k = r := by omega
   have HF : Hid (∃ xs : List Nat, xs.length = k ∧ J xs wr) := (unhide HI).1
   have c0 : wr.cell? ⟨sb, 0, none⟩ = some (.slice (some ⟨b, o, none⟩) len cap) := Blk.cell (unhide HI).2.1 0
   rw [unhide HLE]
   clear HI
   gi_wp2
   go_end0
   exact ⟨⟨_, rfl⟩, .inl (unhide HF)⟩
end
end Go.Proofs.YtjobgjcfkomhpaaGreat
namespace Go.Proofs.YtjobgjcfkomhpaaGreat
open Go.RowKit Go.Shelf Go.Proofs.Wd
set_option maxRecDepth 10000
def MovesP (n nn : Nat) (A : Nat → Int) (w : World) (e : Ending) (w' : World) : Prop := ∃ B cp, e = .returned (.agg #[.int .i64 n, .int .i64 n, .slice (some ⟨B, 0, none⟩) nn cp]) ∧ nn ≤ cp ∧ w.heap.size ≤ B ∧ Own B nn A w' ∧ Kp w w'
def lst (A : Nat → Int) (k : Nat) : List Value := (List.range k).map fun i => Value.int .i64 (A i)
def lstF (A : Nat → Int) (k n : Nat) : List Value := (List.range n).map fun i => Value.int .i64 (A (k + i))
theorem lst_add (A : Nat → Int) (k n : Nat) : lst A k ++ lstF A k n = lst A (k + n) := by
 unfold lst lstF
 rw [List.range_add, List.map_append, List.map_map]
 rfl
theorem owns_sl {w : World} {base n : Nat} {v : Value} {xs : List Value} (h : w.ownsRow base 3 1 v n xs) : ∃ ao cap, v = .slice ao n cap := by
 rcases h.2 with ⟨e, rfl⟩ | ⟨g, cap, cur, e, _⟩
 ·exact ⟨none, 0, e⟩
 ·exact ⟨_, cap, e⟩
def MvI (w : World) (n : Nat) (A : Nat → Int) (j : Nat) (W : World) : Prop :=
 ∃ v, Blk (w.heap.size + 1 + 1) #[.int .i64 (j : Int), .int .i64 n, v] 38 W ∧ W.ownsRow (w.heap.size + 1 + 1 + 1 + 1 + 1) 3 1 v (j * n) (lst A (j * n)) ∧ Blk (w.heap.size + 1) #[.int .i64 0, .int .i64 0, .slice none 0 0] 38 W ∧ Kp w W
theorem MvI.drew {w W : World} {n j : Nat} {A : Nat → Int} (h : MvI w n A j W) : MvI w n A j W.drew := by
 obtain ⟨v, h1, h2, h3, h4⟩ := h
 exact ⟨v, h1, h2, h3, h4.trans (Kp.of ((Grown.refl _).drew))⟩
theorem MvI.own {w W W' : World} {n j B : Nat} {A : Nat → Int} {row : Option Nat} (h : MvI w n A j W) (hB : w.heap.size ≤ B) (hg : W.grownBy W' row) (hr : ∀ r, row = some r → B ≤ r ∧ ∃ o : Obj, W.heap[r]? = some o ∧ o.isCells = false) : MvI w n A j W' := by
 have hr' : ∀ r, row = some r → ∃ o : Obj, W.heap[r]? = some o ∧ o.isCells = false := fun r e => (hr r e).2
 obtain ⟨v, h1, h2, h3, h4⟩ := h
 refine ⟨v, blk_own h1 hg hr', h2.kept hg ?_, blk_own h3 hg hr', h4.by hg (fun k e => Nat.le_trans hB (hr k e).1)⟩
 rcases h2.2 with ⟨rfl, _⟩ | ⟨g, cap, cur, rfl, hbg, hg0, _⟩
 ·exact Or.inl rfl
 ·refine Or.inr fun e => ?_
  obtain ⟨o, ho, hc⟩ := hr' g e.symm
  rw [hg0] at ho
  cases ho
  cases hc
theorem MvI.app {w W w5 : World} {n j k : Nat} {A : Nat → Int} {v v' : Value} (h1 : Blk (w.heap.size + 1 + 1) #[.int .i64 (j : Int), .int .i64 n, v] 38 W) (h2 : W.ownsRow (w.heap.size + 1 + 1 + 1 + 1 + 1) 3 1 v k (lst A k)) (h3 : Blk (w.heap.size + 1) #[.int .i64 0, .int .i64 0, .slice none 0 0] 38 W) (h4 : Kp w W) (hk : j * n = k)
  (hown : w5.ownsRow (w.heap.size + 1 + 1 + 1 + 1 + 1) 3 1 v' (k + n) (lst A k ++ lstF A k n)) (hg : W.grownBy w5 v.ownBlock) :
  Blk (w.heap.size + 1 + 1) #[.int .i64 (j : Int), .int .i64 n, v] 38 w5 ∧ KeepsOthers W ((w5.setCell ⟨w.heap.size + 1 + 1, 2, none⟩ v').setCell ⟨w.heap.size + 1 + 1, 0, none⟩ (.int .i64 ((j : Int) + 1))) ∧ KC (fun q => q = w.heap.size + 1 + 1 ∨ w.heap.size + 1 + 1 + 1 + 1 + 1 ≤ q) W ((w5.setCell ⟨w.heap.size + 1 + 1, 2, none⟩ v').setCell ⟨w.heap.size + 1 + 1, 0, none⟩ (.int .i64 ((j : Int) + 1))) ∧ MvI w n A (j + 1) ((w5.setCell ⟨w.heap.size + 1 + 1, 2, none⟩ v').setCell ⟨w.heap.size + 1 + 1, 0, none⟩ (.int .i64 ((j : Int) + 1))) := by
 have gv : ∀ g, v.ownBlock = some g → w.heap.size + 1 + 1 + 1 + 1 + 1 ≤ g ∧ ∃ cur, Blk g cur 3 W := fun g e => by
  rcases h2.2 with ⟨rfl, _⟩ | ⟨g', cap, cur, rfl, hbg, hg0, _⟩
  ·cases e
  ·cases e
   exact ⟨hbg, cur, hg0⟩
 have b1 : Blk (w.heap.size + 1 + 1) #[.int .i64 (j : Int), .int .i64 n, v] 38 w5 := Blk.by h1 hg (fun e => by have := (gv _ e.symm).1; omega)
 have b3 : Blk (w.heap.size + 1) #[.int .i64 0, .int .i64 0, .slice none 0 0] 38 w5 := Blk.by h3 hg (fun e => by have := (gv _ e.symm).1; omega)
 have s : Mod (w.heap.size + 1 + 1) w5 ((w5.setCell ⟨w.heap.size + 1 + 1, 2, none⟩ v').setCell ⟨w.heap.size + 1 + 1, 0, none⟩ (.int .i64 ((j : Int) + 1))) := ((Mod.refl _ _).setCell _ _).setCell _ _
 have b5 := Blk.set (Blk.set b1 2 v') 0 (.int .i64 ((j : Int) + 1))
 have ko : KeepsOthers W ((w5.setCell ⟨w.heap.size + 1 + 1, 2, none⟩ v').setCell ⟨w.heap.size + 1 + 1, 0, none⟩ (.int .i64 ((j : Int) + 1))) := ((KeepsOthers.of_grownBy hg (fun q o e ho => by
  obtain ⟨_, cur, hb⟩ := gv q e
  rw [show W.heap[q]? = _ from hb] at ho
  cases ho
  rfl)).trans (KeepsOthers.setCell _ _ _)).trans (KeepsOthers.setCell _ _ _)
 generalize ((w5.setCell ⟨w.heap.size + 1 + 1, 2, none⟩ v').setCell ⟨w.heap.size + 1 + 1, 0, none⟩ (.int .i64 ((j : Int) + 1))) = WE at *
 have hs := hg.size
 refine ⟨b1, ko, ?_, v', b5, ?_, Blk.keep b3 s (by omega), (h4.by hg (fun q e => by have := (gv q e).1; omega)).mod s (by omega)⟩
 ·refine KC.of (fun i hi hD => ?_) (Nat.le_trans hs s.2.2.2.2)
  rw [s.2.2.1 i (by omega) (fun e => hD (Or.inl e))]
  exact hg.block i hi (fun e => hD (Or.inr (gv i e.symm).1))
 ·have ek : (j + 1) * n = k + n := by rw [Nat.add_mul, Nat.one_mul, hk]
  rw [ek, ← lst_add]
  rcases hown.2 with ⟨e1, e2⟩ | ⟨g, cap, cur, e1, hbg, hg0, r⟩
  ·exact ⟨hown.1, Or.inl ⟨e1, e2⟩⟩
  ·exact ⟨hown.1, Or.inr ⟨g, cap, cur, e1, hbg, (s.2.2.1 g (Array.getElem?_eq_some_iff.1 hg0).1 (by omega)).trans hg0, r⟩⟩
section
attribute [local go_sem] Oper.semAt_some
set_option maxRecDepth 100000 in
set_option maxHeartbeats 8000000 in
theorem moMoves_raw (n nn b o cap ql qc rl rc : Nat) (qa ro : Option Addr) (tick gate rmin : Int) (A : Nat → Int) (hn : 1 ≤ n ∧ n ≤ 6) (hnn : n * n = nn) (hcap : nn ≤ cap) (w : World) (za : ∀ i, i < nn → w.cell? ⟨b, o + i, none⟩ = some (.int .i64 (A i))) :
  Calls Tryz.prog 39 #[.agg #[.int .i64 n, .slice (some ⟨b, o, none⟩) nn cap, .slice qa ql qc, .int .i64 tick, .int .i64 gate, .int .i64 rmin, .slice ro rl rc]] w fun e w' => MovesP n nn A w e w' := by
 have HN : Hid ((1 ≤ n ∧ n ≤ 6) ∧ n * n = nn ∧ nn ≤ cap) := ⟨hn, hnn, hcap⟩
 have HA := hide za
 obtain ⟨i0, hi, hz0, hz1, hz2⟩ := info_parts Tryz.infoInt
 have HI0 := hide (And.intro hi (And.intro hz0 (And.intro hz1 hz2)))
 have B2 : Hid (Grown w (((((w.alloc (.cells #[.int .i64 n, .slice (some ⟨b, o, none⟩) nn cap, .slice qa ql qc, .int .i64 tick, .int .i64 gate, .int .i64 rmin, .slice ro rl rc] 25)).alloc (.cells #[.int .i64 0, .int .i64 0, .slice none 0 0] 38)).alloc (.cells #[.int .i64 0, .int .i64 n, .slice none 0 0] 38)).alloc (.cells #[.slice (some ⟨b, o, none⟩) nn cap] 22)).alloc (.cells #[.int .i64 n] 3)) ∧ Blk (w.heap.size + 1) #[.int .i64 0, .int .i64 0, .slice none 0 0] 38 (((((w.alloc (.cells #[.int .i64 n, .slice (some ⟨b, o, none⟩) nn cap, .slice qa ql qc, .int .i64 tick, .int .i64 gate, .int .i64 rmin, .slice ro rl rc] 25)).alloc (.cells #[.int .i64 0, .int .i64 0, .slice none 0 0] 38)).alloc (.cells #[.int .i64 0, .int .i64 n, .slice none 0 0] 38)).alloc (.cells #[.slice (some ⟨b, o, none⟩) nn cap] 22)).alloc (.cells #[.int .i64 n] 3)) ∧ Blk (w.heap.size + 1 + 1) #[.int .i64 0, .int .i64 n, .slice none 0 0] 38 (((((w.alloc (.cells #[.int .i64 n, .slice (some ⟨b, o, none⟩) nn cap, .slice qa ql qc, .int .i64 tick, .int .i64 gate, .int .i64 rmin, .slice ro rl rc] 25)).alloc (.cells #[.int .i64 0, .int .i64 0, .slice none 0 0] 38)).alloc (.cells #[.int .i64 0, .int .i64 n, .slice none 0 0] 38)).alloc (.cells #[.slice (some ⟨b, o, none⟩) nn cap] 22)).alloc (.cells #[.int .i64 n] 3)) ∧ Blk (w.heap.size + 1 + 1 + 1) #[.slice (some ⟨b, o, none⟩) nn cap] 22 (((((w.alloc (.cells #[.int .i64 n, .slice (some ⟨b, o, none⟩) nn cap, .slice qa ql qc, .int .i64 tick, .int .i64 gate, .int .i64 rmin, .slice ro rl rc] 25)).alloc (.cells #[.int .i64 0, .int .i64 0, .slice none 0 0] 38)).alloc (.cells #[.int .i64 0, .int .i64 n, .slice none 0 0] 38)).alloc (.cells #[.slice (some ⟨b, o, none⟩) nn cap] 22)).alloc (.cells #[.int .i64 n] 3)) ∧ Blk (w.heap.size + 1 + 1 + 1 + 1) #[.int .i64 n] 3 (((((w.alloc (.cells #[.int .i64 n, .slice (some ⟨b, o, none⟩) nn cap, .slice qa ql qc, .int .i64 tick, .int .i64 gate, .int .i64 rmin, .slice ro rl rc] 25)).alloc (.cells #[.int .i64 0, .int .i64 0, .slice none 0 0] 38)).alloc (.cells #[.int .i64 0, .int .i64 n, .slice none 0 0] 38)).alloc (.cells #[.slice (some ⟨b, o, none⟩) nn cap] 22)).alloc (.cells #[.int .i64 n] 3)) ∧ ((((((w.alloc (.cells #[.int .i64 n, .slice (some ⟨b, o, none⟩) nn cap, .slice qa ql qc, .int .i64 tick, .int .i64 gate, .int .i64 rmin, .slice ro rl rc] 25)).alloc (.cells #[.int .i64 0, .int .i64 0, .slice none 0 0] 38)).alloc (.cells #[.int .i64 0, .int .i64 n, .slice none 0 0] 38)).alloc (.cells #[.slice (some ⟨b, o, none⟩) nn cap] 22)).alloc (.cells #[.int .i64 n] 3))).heap.size = w.heap.size + 1 + 1 + 1 + 1 + 1) := by
  obtain ⟨g, hs, _, b2, b3, b4, b5⟩ := alloc5 w #[.int .i64 n, .slice (some ⟨b, o, none⟩) nn cap, .slice qa ql qc, .int .i64 tick, .int .i64 gate, .int .i64 rmin, .slice ro rl rc] 25 #[.int .i64 0, .int .i64 0, .slice none 0 0] 38 #[.int .i64 0, .int .i64 n, .slice none 0 0] 38 #[.slice (some ⟨b, o, none⟩) nn cap] 22 #[.int .i64 n] 3
  exact ⟨g, b2, b3, b4, b5, hs⟩
 have y0 : (w.alloc (.cells #[.int .i64 n, .slice (some ⟨b, o, none⟩) nn cap, .slice qa ql qc, .int .i64 tick, .int .i64 gate, .int .i64 rmin, .slice ro rl rc] 25)).cell? ⟨w.heap.size, 0, none⟩ = some (.int .i64 n) := Blk.cell (Blk.new w _ _) 0
 have n1 := hn.1
 clear hn hnn hcap za hi hz0 hz1 hz2 y0
 refine (callsIn_wide (n := 6)).1 ?_
 refine callsIn_of_wp_marks Tryz.func39 rfl trivial ?_ rfl
 simp only [Tryz.ntmps39, List.size_toArray, List.length_cons, List.length_nil, Nat.reduceAdd, Nat.reduceSub, Array.replicate_succ, Array.replicate_zero, List.push_toArray, List.append_toArray, List.nil_append, List.cons_append]
 gi_wp2_with (refine ⟨trivial, ?_⟩; gi_at_call 83; refine (callsIn_wide.2 (chunkMk _ _ _ _ n1 _)).mono ?_; rintro e w' ⟨rfl, rfl⟩)
 obtain ⟨W0, hW0⟩ : ∃ W0, (((((w.alloc (.cells #[.int .i64 n, .slice (some ⟨b, o, none⟩) nn cap, .slice qa ql qc, .int .i64 tick, .int .i64 gate, .int .i64 rmin, .slice ro rl rc] 25)).alloc (.cells #[.int .i64 0, .int .i64 0, .slice none 0 0] 38)).alloc (.cells #[.int .i64 0, .int .i64 n, .slice none 0 0] 38)).alloc (.cells #[.slice (some ⟨b, o, none⟩) nn cap] 22)).alloc (.cells #[.int .i64 n] 3)) = W0 := ⟨_, rfl⟩
 rw [hW0]
 rw [hW0] at B2
 have ST : Hid (MvI w n A 0 W0) := by
  obtain ⟨g, b2, b3, _⟩ := unhide B2
  refine ⟨.slice none 0 0, b3, ?_, b2, Kp.of g⟩
  rw [Nat.zero_mul]
  exact World.ownsRow_nil _ _ _ _
 clear hW0
 refine range_own (P := Tryz.prog) (encs := encC b o n) (St := fun A B => B = A.drew) (D := fun q => q = w.heap.size + 1 + 1 ∨ w.heap.size + 1 + 1 + 1 + 1 + 1 ≤ q) (Px := nextC n) (Pp := fun _ => True) (S := fun xs _ => xs.length = n) (Sp := fun _ _ => True) rfl (by omega) (gf := 120) (lb := #[.pointer (some ⟨w.heap.size + 1 + 1 + 1, 0, none⟩), .pointer (some ⟨w.heap.size + 1 + 1 + 1 + 1, 0, none⟩)]) rfl trivial (enters_of Tryz.func120 (by kernel_rfl) rfl) (fun _ => rfl)
  (fun _ _ _ _ h _ hA _ => by subst h; exact hA)
  (fun l J Jx W hg hJ hY h0 => ?seq)
  (fun pre W => pre.length ≤ n ∧ W0.heap.size ≤ W.heap.size ∧ MvI w n A pre.length W)
  (fun _ _ _ => False)
  (fun pre W W' row h hg hr => let ⟨h1, hs, h2⟩ := h; ⟨h1, Nat.le_trans hs hg.size, h2.own (by have := (unhide B2).2.2.2.2.2; omega) hg hr⟩)
  (fun c pre W W' row h hg hr => h.elim)
  (fun _ _ _ _ h _ _ => h)
  (fun _ _ _ _ h _ _ => h)
  (fun pre X Y h s => by subst s; exact ⟨h.1, h.2.1, h.2.2.drew⟩)
  (fun pre W h => trivial)
  ⟨Nat.zero_le _, Nat.le_refl _, unhide ST⟩
  (fun x a' W => a' = { tmps := #[.agg #[.int .i64 n, .slice (some ⟨b, o, none⟩) nn cap, .slice qa ql qc, .int .i64 tick, .int .i64 gate, .int .i64 rmin, .slice ro rl rc], .pointer (some ⟨w.heap.size, 0, none⟩), .pointer (some ⟨w.heap.size + 1, 0, none⟩), .pointer (some ⟨w.heap.size + 1 + 1, 0, none⟩), .slice (some ⟨b, o + x * n, none⟩) n n, .pointer (some ⟨w.heap.size, 0, none⟩), .int .i64 n, .agg #[.int .i64 0, .int .i64 n, .slice none 0 0], .pointer (some ⟨w.heap.size, 1, none⟩), .slice (some ⟨b, o, none⟩) nn cap, .pointer (some ⟨w.heap.size, 0, none⟩), .int .i64 n, .func (.func 120) #[] #[.pointer (some ⟨w.heap.size + 1 + 1 + 1, 0, none⟩), .pointer (some ⟨w.heap.size + 1 + 1 + 1 + 1, 0, none⟩)], .slice (some ⟨b, o + x * n, none⟩) n n, undef, undef, undef, undef, undef, undef, undef, undef, undef, undef], defers := [] })
  (fun x a' _ W W' row h hg hr => h)
  ?assign ?body ?done ?stop
 case seq =>
  obtain ⟨g, b2, b3, b4, b5, hs⟩ := unhide B2
  obtain ⟨hn, hnn, hcap⟩ := unhide HN
  have gk : ∀ c cs T, Blk c cs T W0 → Blk c cs T W := fun c cs T h => (hg.block c (Blk.lt h) (by simp)).trans h
  refine chunk1_in _ l (w.heap.size + 1 + 1 + 1) (w.heap.size + 1 + 1 + 1 + 1) n n b o cap (by omega) (by omega) ⟨by omega, by omega⟩ (by omega) _ (by omega) (by omega) J Jx (fun s A h => hJ s A _ h rfl) hY W ?_ (gk _ _ _ b5) h0
  rw [hnn]
  exact gk _ _ _ b4
 case assign =>
  intro l pre x W K hI2 hK
  dsimp only [encC]
  gi_wp2
  exact hK _ _ (KeepsFrom.refl _ _) (KC.refl _ _) hI2 rfl
 case body =>
  rintro l pre x a' W ⟨hle, hs, v, h1, h2, h3, h4⟩ rfl ⟨hx, hxn⟩
  obtain ⟨j, hj⟩ : ∃ j, pre.length = j := ⟨_, rfl⟩
  rw [hj] at hx hle h1 h2
  subst hx
  obtain ⟨k, hk⟩ : ∃ k, x * n = k := ⟨_, rfl⟩
  rw [hk] at h2
  obtain ⟨⟨m1, m2⟩, hnn, hcap⟩ := unhide HN
  obtain ⟨hi, hz0, hz1, hz2⟩ := unhide HI0
  have kb : k + n ≤ 36 := by
   have q1 := place_le x n n hxn
   have q2 : n * n ≤ 6 * 6 := Nat.mul_le_mul m2 m2
   rw [hk] at q1
   omega
  have knn : k + n ≤ nn := by
   have q1 := place_le x n n hxn
   rw [hk] at q1
   omega
  have NW : Hid (∀ q u, (lstF A k n)[q]? = some u → W.cell? ((⟨b, o + k, none⟩ : Addr).add q) = some u) := by
   intro q u hu
   unfold lstF at hu
   rw [List.getElem?_map] at hu
   by_cases hq : q < n
   ·rw [List.getElem?_range hq] at hu
    simp at hu
    subst hu
    rw [Go.WideShapes.add_plain, Nat.add_assoc]
    exact h4.cell (unhide HA (k + q) (by omega))
   ·rw [List.getElem?_eq_none (by simpa using hq)] at hu
    simp at hu
  have y0 : W.cell? ⟨w.heap.size + 1 + 1, 0, none⟩ = some (.int .i64 (x : Int)) := Blk.cell h1 0
  have y2 : W.cell? ⟨w.heap.size + 1 + 1, 2, none⟩ = some v := Blk.cell h1 2
  have OW := hide h2
  have C1 : Hid (∀ u ∈ lstF A k n, u.oneCell' = true) := cells_one n (fun i => A (k + i))
  have HS := hide (And.intro h1 (And.intro h2 (And.intro h3 (And.intro h4 hs))))
  have LB : Hid (w.heap.size + 1 + 1 + 1 + 1 + 1 ≤ W.heap.size) := by have := (unhide B2).2.2.2.2.2; unfold Hid; omega
  have x6 : x ≤ 6 := by omega
  have XN : Hid (x + 1 ≤ n) := hxn
  rw [hk]
  have HK := hide hk
  have HJ := hide hj
  clear h1 h2 h3 h4 hs hcap hnn hxn hle hj knn n1 m1 m2 HA ST B2 hk
  gi_wp2_with (gi_at_builtin; refine wpListIn_append_own _ rfl _ _ 22 rfl (w.heap.size + 1 + 1 + 1 + 1 + 1) 3 i0 (.int .i64 0) 1 8 Tryz.underlying22 hi hz0 hz1 hz2 rfl (by decide) _ _ _ rfl (unhide OW) ⟨b, o + k, none⟩ n n (lstF A k n) rfl (by simp [lstF]) (unhide NW) (unhide C1) (by unfold maxLen; omega) (by omega) (unhide LB) ?_; intro v' w5 hown' hgrow _; obtain ⟨ao2, cap2, rfl⟩ := (owns_sl hown'); have P := hide (MvI.app (unhide HS).1 (unhide HS).2.1 (unhide HS).2.2.1 (unhide HS).2.2.2.1 (unhide HK) hown' hgrow); have z0 : w5.cell? ⟨w.heap.size + 1 + 1, 0, none⟩ = some (.int .i64 (x : Int)) := Blk.cell (unhide P).1 0; have z2 : w5.cell? ⟨w.heap.size + 1 + 1, 2, none⟩ = some v := Blk.cell (unhide P).1 2; have ff := Blk.free (unhide P).1; clear hown' hgrow)
  have e1 : (pre ++ [x]).length = x + 1 := by rw [List.length_append, unhide HJ]; rfl
  refine ⟨(unhide P).2.1.from _, (unhide P).2.2.1, ?_, ?_, ?_⟩
  ·rw [e1]; exact unhide XN
  ·exact Nat.le_trans (unhide HS).2.2.2.2 (unhide P).2.1.size
  ·rw [e1]; exact (unhide P).2.2.2
 case done =>
  rintro d xs W hd hl ⟨h1, hs, v, h2, h3, h4, h5⟩ hDf
  rw [hl, (unhide HN).2.1] at h3
  rw [hl] at h2
  obtain ⟨B, cp, rfl, hc2, hB, own2⟩ := owns_ownC (by have := (unhide HN).1; have := (unhide HN).2.1; rw [← (unhide HN).2.1]; exact Nat.mul_pos n1 n1) h3
  have z0 : W.cell? ⟨w.heap.size + 1 + 1, 0, none⟩ = some (.int .i64 n) := Blk.cell h2 0
  have z1 : W.cell? ⟨w.heap.size + 1 + 1, 1, none⟩ = some (.int .i64 n) := Blk.cell h2 1
  have z2 : W.cell? ⟨w.heap.size + 1 + 1, 2, none⟩ = some (.slice (some ⟨B, 0, none⟩) nn cp) := Blk.cell h2 2
  have y0 : W.cell? ⟨w.heap.size + 1, 0, none⟩ = some (.int .i64 0) := Blk.cell h4 0
  have y1 : W.cell? ⟨w.heap.size + 1, 1, none⟩ = some (.int .i64 0) := Blk.cell h4 1
  have y2 : W.cell? ⟨w.heap.size + 1, 2, none⟩ = some (.slice none 0 0) := Blk.cell h4 2
  have ff := Blk.free h4
  have hz := (unhide B2).2.2.2.2.2
  have HS := hide (And.intro h4 (And.intro h5 (And.intro hc2 (And.intro hB (And.intro own2 (show w.heap.size + 5 ≤ d by omega))))))
  clear h1 hs h2 h3 h4 h5 hc2 hB own2 hz B2 ST HA n1
  gi_wp2
  obtain ⟨h4, h5, hc2, hB, own2, hd2⟩ := unhide HS
  have P := putM h4 (.int .i64 n) (.int .i64 n) (.slice (some ⟨B, 0, none⟩) nn cp)
  have oB : B ≠ w.heap.size + 1 := by omega
  have kD := (((KeepsOthers.setCell W ⟨w.heap.size + 1, 0, none⟩ (.int .i64 n)).trans (KeepsOthers.setCell _ ⟨w.heap.size + 1, 1, none⟩ (.int .i64 n))).trans (KeepsOthers.setCell _ ⟨w.heap.size + 1, 2, none⟩ (.slice (some ⟨B, 0, none⟩) nn cp))).same d _ hDf rfl
  generalize (((W.setCell ⟨w.heap.size + 1, 0, none⟩ (.int .i64 n)).setCell ⟨w.heap.size + 1, 1, none⟩ (.int .i64 n)).setCell ⟨w.heap.size + 1, 2, none⟩ (.slice (some ⟨B, 0, none⟩) nn cp)) = WW at *
  have gD := grownBy_putObj' WW d (.deferred none)
  have b2 := Blk.by P.1 gD (fun e => by cases e; omega)
  have ow := own2.mk (Mk.of P.2) oB
  have oD : B ≠ d := by
   intro e
   obtain ⟨cur, c1, _⟩ := ow
   rw [← e] at kD
   rw [show WW.heap[B]? = _ from c1] at kD
   cases kD
  have o2 := ow.by gD (fun e => oD (by simpa using e))
  have m2 := (h5.mod P.2 (by omega)).by gD (fun k e => by cases e; omega)
  refine ⟨by simp, .inl ⟨_, _, rfl, run_takeDeferred kD, ?_⟩⟩
  have c0' : (WW.putObj d (.deferred none)).cell? ⟨w.heap.size + 1, 0, none⟩ = some (.int .i64 n) := Blk.cell b2 0
  have c1' : (WW.putObj d (.deferred none)).cell? ⟨w.heap.size + 1, 1, none⟩ = some (.int .i64 n) := Blk.cell b2 1
  have c2' : (WW.putObj d (.deferred none)).cell? ⟨w.heap.size + 1, 2, none⟩ = some (.slice (some ⟨B, 0, none⟩) nn cp) := Blk.cell b2 2
  generalize WW.putObj d (.deferred none) = WP at *
  refine ⟨.agg #[.int .i64 n, .int .i64 n, .slice (some ⟨B, 0, none⟩) nn cp], by simp [results, Tryz.results39, go_sem, c0', c1', c2'], ?_⟩
  exact ⟨B, cp, rfl, hc2, by omega, o2, m2⟩
 case stop =>
  rintro d c pre W hd _ h
  exact h.elim
end
end Go.Proofs.YtjobgjcfkomhpaaGreat
namespace Go.Proofs.YtjobgjcfkomhpaaGreat
open Go.RowKit Go.Shelf Go.Proofs.Wd
set_option maxRecDepth 10000
theorem app_ownR {w : World} {base k : Nat} {v : Value} {Z : Nat → Int} {z : Int} (hz : Z k = z) (h : w.ownsRow base 3 1 v (k + 1) (intL k Z ++ [.int .i64 z])) : w.ownsRow base 3 1 v (k + 1) (intL (k + 1) Z) := by
 subst hz
 rwa [intL_succ] at h
def CI (w : World) (box : Array Value) (Y : Nat → Int) (j : Nat) (v : Value) (wr : World) : Prop :=
 wr.ownsRow (w.heap.size + 1) 3 1 v j (intL j Y) ∧ Blk w.heap.size box 38 wr ∧ Kp w wr ∧ w.heap.size + 1 ≤ wr.heap.size
theorem CI.app {w wr w4 : World} {box : Array Value} {Y : Nat → Int} {j : Nat} {v v' : Value} {x : Int} (h : CI w box Y j v wr) (hx : Y j = x) (hown : w4.ownsRow (w.heap.size + 1) 3 1 v' (j + 1) (intL j Y ++ [.int .i64 x])) (hg : (wr.alloc (.cells #[.int .i64 x] 3)).grownBy w4 v.ownBlock) : CI w box Y (j + 1) v' w4 := by
 obtain ⟨h1, h2, h3, h4⟩ := h
 have g : Grown wr (wr.alloc (.cells #[.int .i64 x] 3)) := (Grown.refl _).alloc _ _
 have lt := (h1.alloc (.cells #[.int .i64 x] 3)).lt
 refine ⟨app_ownR hx hown, Blk.by (Blk.grown h2 g) hg (fun e => by have := (lt _ e.symm).1; omega), (h3.grown g).by hg (fun i e => by have := (lt i e).1; omega), ?_⟩
 have := hg.size
 have := g.2.2
 omega
theorem slice_two (b o len cap l h : Nat) (hl : l < h) (hh : h ≤ cap) (w : World) : (Instr.sliceAt 22 (.slice (some ⟨b, o, none⟩) len cap) (some (.int .i64 l)) (some (.int .i64 h)) none).run Tryz.prog w = .ok (.slice (some ⟨b, o + l, none⟩) (h - l) (cap - l)) w := by
 have e : Tryz.prog.underlying 22 = some (.slice (Tryz.prog.elem 22)) := by kernel_rfl
 have s1 : (sizeOf (Tryz.prog.elem 22)).run Tryz.prog w = .ok 1 w := by kernel_rfl
 rw [run_sliceAt_slice w 22 _ _ _ _ e, run_slice_lh w 22 _ len cap e .i64 .i64 l h (by omega) (by omega) (by omega), s1]
 show Result.ok (sliced _ (l : Int).toNat (h : Int).toNat cap 1) w = _
 unfold sliced
 rw [Int.toNat_natCast, Int.toNat_natCast, if_neg (by omega)]
 show Result.ok (Value.slice (some ((⟨b, o, none⟩ : Addr).add (l * 1))) _ _) w = _
 rw [Go.WideShapes.add_plain, Nat.mul_one]
def LiD (len : Nat) (Z : Nat → Int) (err : Int) (X : World → Prop) (w : World) (e : Ending) (w' : World) : Prop :=
 ∃ ao cap, e = .returned (.tuple #[.slice ao len cap, .int .i64 err]) ∧ len ≤ cap ∧ Row w' ao len Z ∧ (∀ U, U < w.heap.size → Off U len ao) ∧ X w'
set_option maxRecDepth 20000 in
set_option maxHeartbeats 4000000 in
theorem refColumn (r c k len cap b o : Nat) (Z : Nat → Int) (hr : 1 ≤ r ∧ r ≤ 12) (hc : 1 ≤ c ∧ c ≤ 12) (hk : k < c) (hl : len = r * c) (w : World) (za : ∀ i, i < len → w.cell? ⟨b, o + i, none⟩ = some (.int .i64 (Z i))) :
  Calls Tryz.prog 130 #[.agg #[.int .i64 r, .int .i64 c, .slice (some ⟨b, o, none⟩) len cap], .int .i64 k] w fun e w' => CopyQ r (colZ Z c k) w e w' := by
 have hlen : len ≤ 144 := by have := mul12n r c hr hc; omega
 obtain ⟨i0, hi, hz0, hz1, hz2⟩ := info_parts Tryz.infoInt
 obtain ⟨Y, hY⟩ : ∃ Y, Y = colZ Z c k := ⟨_, rfl⟩
 rw [← hY]
 have EY : Hid (∀ j, Y j = Z (j * c + k)) := fun j => by rw [hY]; rfl
 have HL := hide (And.intro hl (And.intro hk (And.intro hr hc)))
 have HZ := hide za
 have ST : Hid (CI w #[.int .i64 r, .int .i64 c, .slice (some ⟨b, o, none⟩) len cap] Y 0 (.slice none 0 0) (w.alloc (.cells #[.int .i64 r, .int .i64 c, .slice (some ⟨b, o, none⟩) len cap] 38))) := ⟨World.ownsRow_nil _ _ _ _, Blk.new w _ _, (Kp.refl _).alloc _ _, by simp⟩
 clear hY za hl hk hr hc
 go_enter Tryz.func130, Tryz.ntmps130
 go_wp2_with fail
 generalize w.alloc (.cells #[.int .i64 r, .int .i64 c, .slice (some ⟨b, o, none⟩) len cap] 38) = w1 at *
 go_loopw [5, 6] (fun v i wr => ∃ j : Nat, j ≤ r ∧ i = .int .i64 j ∧ Hid (CI w #[.int .i64 r, .int .i64 c, .slice (some ⟨b, o, none⟩) len cap] Y j v wr)) (fun _ i _ => r - (intOf i).toNat)
 case atStart => exact ⟨0, Nat.zero_le _, rfl, unhide ST⟩
 case round =>
  obtain ⟨j, hj, rfl, HI⟩ := hrel
  clear ST
  have y0 : wr.cell? ⟨w.heap.size, 0, none⟩ = some (.int .i64 r) := Blk.cell (unhide HI).2.1 0
  by_cases hlt : j < r
  ·have y1 : wr.cell? ⟨w.heap.size, 1, none⟩ = some (.int .i64 c) := Blk.cell (unhide HI).2.1 1
   have y2 : wr.cell? ⟨w.heap.size, 2, none⟩ = some (.slice (some ⟨b, o, none⟩) len cap) := Blk.cell (unhide HI).2.1 2
   obtain ⟨m, hm⟩ : ∃ m, j * c = m := ⟨_, rfl⟩
   obtain ⟨p, hp⟩ : ∃ p, m + k = p := ⟨_, rfl⟩
   have hpl : p < len := by
    have h1 := place_in j k r c hlt (unhide HL).2.1
    rw [← (unhide HL).1, hm, hp] at h1
    exact h1
   obtain ⟨x, ex⟩ : ∃ x, Z p = x := ⟨_, rfl⟩
   have hc0 : wr.cell? ⟨b, o + p, none⟩ = some (.int .i64 x) := by rw [← ex]; exact (unhide HI).2.2.1.cell (unhide HZ p hpl)
   have EK : Hid (Y j = x) := by show Y j = x; rw [unhide EY, hm, hp, ex]
   have b0 : (0 : Int) ≤ (p : Int) := by omega
   have b1 : (p : Int) < (len : Int) := by omega
   have hj1 : j ≤ 1000000 := Nat.le_trans hj (Nat.le_trans (unhide HL).2.2.1.2 (by decide))
   have B1 : Hid (j + 1 ≤ maxLen) := by show j + 1 ≤ maxLen; unfold maxLen; omega
   have B2 : Hid ((j + 1) * 8 ≤ 140737488355328) := by show (j + 1) * 8 ≤ 140737488355328; omega
   have B3 : Hid (w.heap.size + 1 ≤ (wr.alloc (.cells #[.int .i64 x] 3)).heap.size) := by
    have := (unhide HI).2.2.2
    show _ ≤ _
    simp
    omega
   have B4 : Hid (j + 1 ≤ r) := hlt
   have hm6 : m ≤ 1000000 := by omega
   have hp6 : p ≤ 1000000 := by omega
   have wa : wrap64 ((j : Int) * (c : Int)) = (m : Int) := wrapP j c m hm hm6
   have wb : wrap64 ((m : Int) + (k : Int)) = (p : Int) := wrapA m k p hp hp6
   clear hm hp ex hpl
   go_wp2_with (at_builtin; refine wpList_append_own _ rfl _ _ 22 rfl (w.heap.size + 1) 3 i0 (.int .i64 0) 1 8 Tryz.underlying22 hi hz0 hz1 hz2 rfl (by decide) _ _ _ rfl ((unhide HI).1.alloc _) ⟨wr.heap.size, 0, none⟩ 1 1 [.int .i64 x] rfl rfl (news_one _ _ _) (one_cell _) (unhide B1) (unhide B2) (unhide B3) ?_; intro v' w4 hown hgrow _; have HP := hide (CI.app (unhide HI) (unhide EK) hown hgrow); clear hown hgrow wa wb)
   go_roundw
   case rel => exact ⟨j + 1, unhide B4, by go_num, HP⟩
   case measure => have := unhide B4; simp [intOf]; omega
  ·obtain rfl : j = r := by omega
   obtain ⟨h0, h2, h3, h4⟩ := unhide HI
   obtain ⟨ao2, cap2, rfl, g1, g3, g4⟩ := owns_rowC h0
   have R := hide (And.intro g1 (And.intro g3 (And.intro g4 h3)))
   clear h0 h2 h3 h4 g1 g3 g4 HI
   go_wp2
   go_ret
   exact (show CopyQ _ _ _ _ _ from ⟨_, _, rfl, (unhide R).1, (unhide R).2.1, fun U hU => (unhide R).2.2.1 U (by omega), (unhide R).2.2.2⟩)
set_option maxRecDepth 20000 in
set_option maxHeartbeats 4000000 in
theorem refRow_ok (r c k len cap b o : Nat) (Z : Nat → Int) (hr : 1 ≤ r ∧ r ≤ 12) (hc : 1 ≤ c ∧ c ≤ 12) (hk : k < r) (hl : len = r * c) (hcap : len ≤ cap) (w : World) (za : ∀ i, i < len → w.cell? ⟨b, o + i, none⟩ = some (.int .i64 (Z i))) :
  Calls Tryz.prog 128 #[.agg #[.int .i64 r, .int .i64 c, .slice (some ⟨b, o, none⟩) len cap], .int .i64 k] w fun e w' => LiD c (rowZ Z c k) 0 (Kp w) w e w' := by
 have hlen : len ≤ 144 := by have := mul12n r c hr hc; omega
 obtain ⟨i0, hi, hz0, hz1, hz2⟩ := info_parts Tryz.infoInt
 have AL := hide (fun w => refMCheck r c (some ⟨b, o, none⟩) len cap w)
 rw [chk_ok ⟨by omega, by omega, by rw [hl, Int.natCast_mul]⟩] at AL
 obtain ⟨m, hm⟩ : ∃ m, k * c = m := ⟨_, rfl⟩
 obtain ⟨p, hp⟩ : ∃ p, m + c = p := ⟨_, rfl⟩
 have h2 := place_le k r c hk
 rw [← hl, hm, hp] at h2
 have SL := fun w => slice_two b o len cap m p (by omega) (by omega) w
 have dp : p - m = c := by omega
 rw [dp] at SL
 have ZA : Hid (∀ i, i < c → w.cell? ⟨b, o + m + i, none⟩ = some (.int .i64 (rowZ Z c k i))) := fun i hi => by
  rw [Nat.add_assoc, show rowZ Z c k i = Z (m + i) from by unfold rowZ; rw [hm]]
  exact za (m + i) (by omega)
 have G1 : Hid (Grown w (w.alloc (.cells #[.int .i64 r, .int .i64 c, .slice (some ⟨b, o, none⟩) len cap] 38)) ∧ Blk w.heap.size #[.int .i64 r, .int .i64 c, .slice (some ⟨b, o, none⟩) len cap] 38 (w.alloc (.cells #[.int .i64 r, .int .i64 c, .slice (some ⟨b, o, none⟩) len cap] 38))) := ⟨(Grown.refl _).alloc _ _, Blk.new w _ _⟩
 have k0 : (0 : Int) ≤ (k : Int) := by omega
 have k1 : (k : Int) < (r : Int) := by omega
 have BC : Hid (0 + c ≤ maxLen ∧ (0 + c) * 8 ≤ 140737488355328) := by show _ ∧ _; unfold maxLen; omega
 have hm6 : m ≤ 1000000 := by omega
 have hp6 : p ≤ 1000000 := by omega
 have wa : wrap64 ((k : Int) * (c : Int)) = (m : Int) := wrapP k c m hm hm6
 have wb : wrap64 ((m : Int) + (c : Int)) = (p : Int) := wrapA m c p hp hp6
 clear hm hp h2 za hl hr hc hk dp hcap
 generalize (k : Int) = ki at *
 go_enter Tryz.func128, Tryz.ntmps128
 go_wp2_with fail
 generalize w.alloc (.cells #[.int .i64 r, .int .i64 c, .slice (some ⟨b, o, none⟩) len cap] 38) = w1 at *
 refine (unhide AL _).mono ?_
 rintro e w2 ⟨rfl, g2⟩
 have y0 : w2.cell? ⟨w.heap.size, 0, none⟩ = some (.int .i64 r) := Blk.cell (Blk.grown (unhide G1).2 g2) 0
 have y1 : w2.cell? ⟨w.heap.size, 1, none⟩ = some (.int .i64 c) := Blk.cell (Blk.grown (unhide G1).2 g2) 1
 have y2 : w2.cell? ⟨w.heap.size, 2, none⟩ = some (.slice (some ⟨b, o, none⟩) len cap) := Blk.cell (Blk.grown (unhide G1).2 g2) 2
 have GG := hide (gtrans (unhide G1).1 g2)
 have hz : w.heap.size < w2.heap.size := heap_gt y0
 have OM := hide (World.ownsRow_made (base := w2.heap.size) (e := 3) (size := 1) w2 #[] 0 (Nat.le_refl _) (Nat.zero_le _) (by simp))
 have NEWH : Hid (∀ j u, ((List.range c).map fun i => Value.int .i64 (rowZ Z c k i))[j]? = some u → (w2.alloc (.cells #[] 3)).cell? ((⟨b, o + m, none⟩ : Addr).add j) = some u) := by
  intro j u hu
  rw [List.getElem?_map] at hu
  by_cases hj : j < c
  ·rw [List.getElem?_range hj] at hu
   simp at hu
   subst hu
   rw [Go.WideShapes.add_plain]
   exact gat ((unhide GG).alloc _ _) (unhide ZA j hj)
  ·rw [List.getElem?_eq_none (by simpa using hj)] at hu
   simp at hu
 have LS2 : Hid (w.heap.size ≤ w2.heap.size) := (unhide GG).2.2
 clear g2 G1 AL ZA
 go_wp2_with (at_builtin; refine wpList_append_own _ rfl _ _ 22 rfl w2.heap.size 3 i0 (.int .i64 0) 1 8 Tryz.underlying22 hi hz0 hz1 hz2 rfl (by decide) _ _ _ rfl (unhide OM) ⟨b, o + m, none⟩ c (cap - m) ((List.range c).map fun i => Value.int .i64 (rowZ Z c k i)) rfl (by simp) (unhide NEWH) (cells_one _ _) (unhide BC).1 (unhide BC).2 (by simp) ?_; intro v' w5 hown' hgrow _)
 rw [Nat.zero_add, List.nil_append] at hown'
 obtain ⟨ao2, cap2, rfl, hc2, row2, off2⟩ := owns_rowC hown'
 have K1 : Hid (Kp w w5) := Kp.by ((Kp.of (unhide GG)).alloc _ _) hgrow (fun k e => Nat.le_trans (unhide LS2) ((unhide OM).lt k e).1)
 have R1 := hide (And.intro hc2 (And.intro row2 off2))
 clear hown' hgrow row2 off2 hc2 OM NEWH
 go_wp2
 go_ret2
 exact (show LiD _ _ _ _ _ _ _ from ⟨_, _, rfl, (unhide R1).1, (unhide R1).2.1, fun U hU => (unhide R1).2.2 U (Nat.lt_of_lt_of_le hU (unhide LS2)), unhide K1⟩)
end Go.Proofs.YtjobgjcfkomhpaaGreat
namespace Go.Proofs.YtjobgjcfkomhpaaGreat
open Go.RowKit Go.Shelf Go.Proofs.Wd
set_option maxRecDepth 10000
theorem owns_kp {w w' : World} {base : Nat} {e : TypeId} {size : Nat} {v : Value} {n : Nat} {xs : List Value} (h : w.ownsRow base e size v n xs) (k : Kp w w') : w'.ownsRow base e size v n xs := by
 refine ⟨h.1, ?_⟩
 rcases h.2 with h2 | ⟨g, cap, cur, rfl, hb, hg, r⟩
 ·exact Or.inl h2
 ·exact Or.inr ⟨g, cap, cur, rfl, hb, (k.2.2.1 g (Array.getElem?_eq_some_iff.1 hg).1).trans hg, r⟩
theorem rowBy {w w' : World} {ao : Option Addr} {len : Nat} {Z : Nat → Int} {row : Option Nat} (h : Row w ao len Z) (hg : w.grownBy w' row) (ho : ∀ g, row = some g → Off g len ao) : Row w' ao len Z := by
 rcases h with h | ⟨b, o, rfl, hc⟩
 ·exact Or.inl h
 ·exact Or.inr ⟨b, o, rfl, fun i hi => hg.cell (hc i hi) (fun e => ho b e.symm (by omega) _ rfl rfl)⟩
theorem bnd (m j : Nat) (hm : m ≤ 12) (hj : j ≤ 144) : 0 ≤ 2 * (m : Int) * (j : Int) ∧ 2 * (m : Int) * (j : Int) ≤ 3456 := by
 have h1 : 2 * m * j ≤ 24 * 144 := Nat.mul_le_mul (by omega) hj
 have h2 : ((2 * m * j : Nat) : Int) = 2 * (m : Int) * (j : Int) := by rw [Int.natCast_mul, Int.natCast_mul]; rfl
 omega
theorem bnd_succ (n : Int) (m j : Nat) : n + 2 * (m : Int) * ((j + 1 : Nat) : Int) = n + 2 * (m : Int) * (j : Int) + 2 * (m : Int) := by
 rw [Int.natCast_add, Int.mul_add, show ((1 : Nat) : Int) = 1 from rfl, Int.mul_one, Int.add_assoc]
def GA (w : World) (R : Nat) (bx : List (Nat × Array Value)) (rows : List (Option Addr × Nat × (Nat → Int))) (base : Nat) (Y : Nat → Int) (cut : Bool) (n : Int) (j : Nat) (v : Value) (wr : World) : Prop :=
 wr.ownsRow base 3 1 v j (intL j Y) ∧ (∀ b ∈ bx, Blk b.1 b.2 38 wr ∧ w.heap.size ≤ b.1 ∧ b.1 < base) ∧ (∀ r ∈ rows, Row wr r.1 r.2.1 r.2.2 ∧ Off R r.2.1 r.1 ∧ ∀ g, v.ownBlock = some g → Off g r.2.1 r.1) ∧ RC R cut n wr ∧ Mk R w wr ∧ R < w.heap.size ∧ w.heap.size ≤ base ∧ base ≤ wr.heap.size
section
variable {w wr w' w4 : World} {R base : Nat} {bx : List (Nat × Array Value)} {rows : List (Option Addr × Nat × (Nat → Int))} {Y : Nat → Int} {cut cut' : Bool} {n n' : Int} {j : Nat} {v v' : Value}
theorem GA.kp (h : GA w R bx rows base Y cut n j v wr) (k : Kp wr w') : GA w R bx rows base Y cut n j v w' := by
 obtain ⟨h1, h2, h3, h4, h5, h6, h7, h8⟩ := h
 exact ⟨owns_kp h1 k, fun b hb => ⟨Blk.kp (h2 b hb).1 k, (h2 b hb).2⟩, fun r hr => ⟨(h3 r hr).1.kp k, (h3 r hr).2⟩, Blk.kp h4 k, h5.trans (Mk.kp k), h6, h7, Nat.le_trans h8 k.2.2.2⟩
theorem GA.mod (h : GA w R bx rows base Y cut n j v wr) (m : Mod R wr w') (u : RC R cut' n' w') : GA w R bx rows base Y cut' n' j v w' := by
 obtain ⟨h1, h2, h3, h4, h5, h6, h7, h8⟩ := h
 exact ⟨owns_mod h1 m (by omega), fun b hb => ⟨Blk.keep (h2 b hb).1 m (by have := (h2 b hb).2; omega), (h2 b hb).2⟩, fun r hr => ⟨(h3 r hr).1.mod m (h3 r hr).2.1, (h3 r hr).2⟩, u, h5.trans (Mk.of m), h6, h7, Nat.le_trans h8 m.2.2.2.2⟩
theorem GA.row {ao : Option Addr} {len : Nat} {Z : Nat → Int} (h : GA w R bx rows base Y cut n j v wr) (k : Kp wr w') (r : Row w' ao len Z) (f : ∀ U, U < wr.heap.size → Off U len ao) : GA w R bx ((ao, len, Z) :: rows) base Y cut n j v w' := by
 obtain ⟨h1, h2, h3, h4, h5, h6, h7, h8⟩ := h.kp k
 refine ⟨h1, h2, fun q hq => ?_, h4, h5, h6, h7, h8⟩
 rcases List.mem_cons.1 hq with rfl | hq
 ·exact ⟨r, f R (Blk.lt h.2.2.2.1), fun g hg => f g (h.1.lt g hg).2⟩
 ·exact h3 q hq
theorem GA.sub {rows' : List (Option Addr × Nat × (Nat → Int))} (h : GA w R bx rows base Y cut n j v wr) (hr : ∀ r ∈ rows', r ∈ rows) : GA w R bx rows' base Y cut n j v wr := by
 obtain ⟨h1, h2, h3, h4⟩ := h
 exact ⟨h1, h2, fun r h => h3 r (hr r h), h4⟩
theorem GA.app {x : Int} (h : GA w R bx rows base Y cut n j v wr) (hx : Y j = x) (hown : w4.ownsRow base 3 1 v' (j + 1) (intL j Y ++ [.int .i64 x])) (hg : (wr.alloc (.cells #[.int .i64 x] 3)).grownBy w4 v.ownBlock)
  (hw : v'.ownBlock = v.ownBlock ∨ ∃ g, v'.ownBlock = some g ∧ (wr.alloc (.cells #[.int .i64 x] 3)).heap.size ≤ g) : GA w R bx rows base Y cut n (j + 1) v' w4 := by
 obtain ⟨h1, h2, h3, h4, h5, h6, h7, h8⟩ := h
 have g : Grown wr (wr.alloc (.cells #[.int .i64 x] 3)) := (Grown.refl _).alloc _ _
 have lt := (h1.alloc (.cells #[.int .i64 x] 3)).lt
 have hs := g.2.2
 refine ⟨app_ownR hx hown, fun b hb => ⟨Blk.by (Blk.grown (h2 b hb).1 g) hg (fun e => by have := (lt _ e.symm).1; have := (h2 b hb).2; omega), (h2 b hb).2⟩, fun r hr => ⟨rowBy ((h3 r hr).1.grown g) hg (h3 r hr).2.2, (h3 r hr).2.1, fun q hq => ?_⟩, Blk.by (Blk.grown h4 g) hg (fun e => by have := (lt _ e.symm).1; omega), (h5.grown g).by hg (fun i e => by have := (lt i e).1; omega), h6, h7, by have := hg.size; omega⟩
 rcases hw with hw | ⟨q', e, hq'⟩
 ·exact (h3 r hr).2.2 q (by rw [← hw]; exact hq)
 ·rw [e] at hq
  cases hq
  exact (h3 r hr).1.off (by omega)
theorem GA.set {L : Nat} {x0 x1 x2 u : Value} (h : GA w R ((L, #[x0, x1, x2]) :: bx) rows base Y cut n j v wr) (hne : ∀ b ∈ bx, b.1 ≠ L) (hrw : ∀ r ∈ rows, Off L r.2.1 r.1) : GA w R ((L, #[x0, x1, u]) :: bx) rows base Y cut n j v (wr.setCell ⟨L, 2, none⟩ u) := by
 obtain ⟨h1, h2, h3, h4, h5, h6, h7, h8⟩ := h
 have q : Mod L wr (wr.setCell ⟨L, 2, none⟩ u) := (Mod.refl _ _).setCell 2 _
 have hL := h2 _ List.mem_cons_self
 have hL2 := hL.2
 refine ⟨owns_mod h1 q hL2.2, fun b hb => ?_, fun r hr => ⟨(h3 r hr).1.mod q (hrw r hr), (h3 r hr).2⟩, Blk.keep h4 q (by simp only at hL2; omega), h5.new q hL2.1, h6, h7, Nat.le_trans h8 q.2.2.2.2⟩
 rcases List.mem_cons.1 hb with rfl | hb
 ·exact ⟨Blk.set hL.1 2 _, hL.2⟩
 ·exact ⟨Blk.keep (h2 b (List.mem_cons_of_mem _ hb)).1 q (hne b hb), (h2 b (List.mem_cons_of_mem _ hb)).2⟩
theorem GA.cells {b : Nat} {x0 x1 x2 : Value} (h : GA w R bx rows base Y cut n j v wr) (hb : (b, #[x0, x1, x2]) ∈ bx) : wr.cell? ⟨b, 0, none⟩ = some x0 ∧ wr.cell? ⟨b, 1, none⟩ = some x1 ∧ wr.cell? ⟨b, 2, none⟩ = some x2 := ⟨Blk.cell (h.2.1 _ hb).1 0, Blk.cell (h.2.1 _ hb).1 1, Blk.cell (h.2.1 _ hb).1 2⟩
end
end Go.Proofs.YtjobgjcfkomhpaaGreat
namespace Go.Proofs.YtjobgjcfkomhpaaGreat
open Go.RowKit Go.Shelf Go.Proofs.Wd
set_option maxRecDepth 10000
def dgZ (L : Nat → Int) (n k : Nat) : Nat → Int := fun p => if p / n = p % n ∧ p / n < k then L (p / n) else 0
theorem dgZ_zero (L : Nat → Int) (n : Nat) : (fun _ => (0 : Int)) = dgZ L n 0 := by
 funext p
 unfold dgZ
 rw [if_neg (fun h => Nat.not_lt_zero _ h.2)]
theorem dgZ_succ (L : Nat → Int) (n k p : Nat) (hk : k < n) : (if p = k * n + k then L k else dgZ L n k p) = dgZ L n (k + 1) p := by
 by_cases e : p = k * n + k
 ·rw [if_pos e, e]
  unfold dgZ
  rw [place_div k k n hk, place_mod k k n hk, if_pos ⟨rfl, Nat.lt_succ_self _⟩]
 ·rw [if_neg e]
  unfold dgZ
  by_cases h : p / n = p % n ∧ p / n < k
  ·rw [if_pos h, if_pos ⟨h.1, by omega⟩]
  ·rw [if_neg h, if_neg]
   rintro ⟨h1, h2⟩
   have h3 : p / n = k := by
    have : ¬ p / n < k := fun h3 => h ⟨h1, h3⟩
    omega
   have := place_eq p n
   rw [← h1, h3] at this
   exact e this.symm
theorem dgZ_all (L : Nat → Int) (n p : Nat) (h : p < n * n) : dgZ L n n p = diagZ L n p := by
 have := place_lt p n n h
 unfold dgZ diagZ
 by_cases e : p / n = p % n
 ·rw [if_pos ⟨e, this.1⟩, if_pos e]
 ·rw [if_neg (fun h => e h.1), if_neg e]
def DgI (w : World) (n nn : Nat) (L : Nat → Int) (k : Nat) (wr : World) : Prop :=
 Blk w.heap.size #[.int .i64 0, .int .i64 0, .slice none 0 0] 38 wr ∧ Blk (w.heap.size + 1) (ints nn (dgZ L n k)) 3 wr ∧ Blk (w.heap.size + 1 + 1) #[.int .i64 n, .int .i64 n, .slice (some ⟨w.heap.size + 1, 0, none⟩) nn nn] 38 wr ∧ Kp w wr
theorem DgI.set {w wr : World} {n nn k p : Nat} {L : Nat → Int} {x : Int} (h : DgI w n nn L k wr) (hk : k < n) (hp : k * n + k = p) (hx : L k = x) : DgI w n nn L (k + 1) (wr.setCell ⟨w.heap.size + 1, p, none⟩ (.int .i64 x)) := by
 obtain ⟨h1, h2, h3, h4⟩ := h
 have q : Mod (w.heap.size + 1) wr (wr.setCell ⟨w.heap.size + 1, p, none⟩ (.int .i64 x)) := (Mod.refl _ _).setCell _ _
 refine ⟨Blk.keep h1 q (by omega), ?_, Blk.keep h3 q (by omega), h4.mod q (by omega)⟩
 have := Blk.setI h2 p x
 rwa [ints_congr nn _ (dgZ L n (k + 1)) (fun i hi => by rw [← hp, ← hx]; exact dgZ_succ L n k i hk)] at this
def EyI (w : World) (n k : Nat) (wr : World) : Prop :=
 Blk w.heap.size #[.int .i64 0, .int .i64 0, .slice none 0 0] 38 wr ∧ Blk (w.heap.size + 1) (ints n (fun i => if i < k then 4294967296 else 0)) 3 wr ∧ Kp w wr
theorem EyI.set {w wr : World} {n k : Nat} (h : EyI w n k wr) : EyI w n (k + 1) (wr.setCell ⟨w.heap.size + 1, k, none⟩ (.int .i64 4294967296)) := by
 obtain ⟨h1, h2, h4⟩ := h
 have q : Mod (w.heap.size + 1) wr (wr.setCell ⟨w.heap.size + 1, k, none⟩ (.int .i64 4294967296)) := (Mod.refl _ _).setCell _ _
 refine ⟨Blk.keep h1 q (by omega), ?_, h4.mod q (by omega)⟩
 have := Blk.setI h2 k 4294967296
 rwa [ints_congr n _ (fun i => if i < k + 1 then 4294967296 else 0) (fun i hi => by
  by_cases e : i = k
  ·rw [if_pos e, if_pos (by omega)]
  ·rw [if_neg e]
   by_cases h : i < k
   ·rw [if_pos h, if_pos (by omega)]
   ·rw [if_neg h, if_neg (by omega)])] at this
theorem owns_kpE {w w' : World} {base : Nat} {e : TypeId} {size : Nat} {v : Value} {n : Nat} {xs : List Value} (h : w.ownsRow base e size v n xs) (k : Kp w w') : w'.ownsRow base e size v n xs := by
 refine ⟨h.1, ?_⟩
 rcases h.2 with h2 | ⟨g, cap, cur, rfl, hb, hg, r⟩
 ·exact Or.inl h2
 ·exact Or.inr ⟨g, cap, cur, rfl, hb, (k.2.2.1 g (Array.getElem?_eq_some_iff.1 hg).1).trans hg, r⟩
theorem intL_app (j m : Nat) (Y Z : Nat → Int) (h : ∀ i, i < m → Y (j + i) = Z i) : intL j Y ++ (List.range m).map (fun i => Value.int .i64 (Z i)) = intL (j + m) Y := by
 unfold intL
 rw [List.range_add, List.map_append, List.map_map]
 congr 1
 apply List.map_congr_left
 intro i hi
 show Value.int .i64 (Z i) = Value.int .i64 (Y (j + i))
 rw [h i (List.mem_range.1 hi)]
def GK (w : World) (bx : List (Nat × Array Value)) (base : Nat) (Y : Nat → Int) (j : Nat) (v : Value) (wr : World) : Prop :=
 wr.ownsRow base 3 1 v j (intL j Y) ∧ (∀ b ∈ bx, Blk b.1 b.2 38 wr ∧ w.heap.size ≤ b.1 ∧ b.1 < base) ∧ Kp w wr ∧ w.heap.size ≤ base ∧ base ≤ wr.heap.size
section
variable {w wr w' w4 : World} {base : Nat} {bx : List (Nat × Array Value)} {Y : Nat → Int} {j m : Nat} {v v' : Value}
theorem GK.kp (h : GK w bx base Y j v wr) (k : Kp wr w') : GK w bx base Y j v w' := by
 obtain ⟨h1, h2, h5, h7, h8⟩ := h
 exact ⟨owns_kpE h1 k, fun b hb => ⟨Blk.kp (h2 b hb).1 k, (h2 b hb).2⟩, h5.trans k, h7, Nat.le_trans h8 k.2.2.2⟩
theorem GK.app {Z : Nat → Int} (h : GK w bx base Y j v wr) (hz : ∀ i, i < m → Y (j + i) = Z i) (hown : w4.ownsRow base 3 1 v' (j + m) (intL j Y ++ (List.range m).map (fun i => Value.int .i64 (Z i)))) (hg : wr.grownBy w4 v.ownBlock) : GK w bx base Y (j + m) v' w4 := by
 obtain ⟨h1, h2, h5, h7, h8⟩ := h
 have lt := h1.lt
 rw [intL_app j m Y Z hz] at hown
 exact ⟨hown, fun b hb => ⟨Blk.by (h2 b hb).1 hg (fun e => by have := (lt _ e.symm).1; have := (h2 b hb).2; omega), (h2 b hb).2⟩, h5.by hg (fun i e => by have := (lt i e).1; omega), h7, by have := hg.size; omega⟩
theorem GK.set {L : Nat} {x0 x1 x2 u : Value} (h : GK w ((L, #[x0, x1, x2]) :: bx) base Y j v wr) (hne : ∀ b ∈ bx, b.1 ≠ L) : GK w ((L, #[x0, x1, u]) :: bx) base Y j v (wr.setCell ⟨L, 2, none⟩ u) := by
 obtain ⟨h1, h2, h5, h7, h8⟩ := h
 have q : Mod L wr (wr.setCell ⟨L, 2, none⟩ u) := (Mod.refl _ _).setCell 2 _
 have hL := h2 _ List.mem_cons_self
 refine ⟨owns_mod h1 q hL.2.2, fun b hb => ?_, h5.mod q hL.2.1, h7, Nat.le_trans h8 q.2.2.2.2⟩
 rcases List.mem_cons.1 hb with rfl | hb
 ·exact ⟨Blk.set hL.1 2 _, hL.2⟩
 ·exact ⟨Blk.keep (h2 b (List.mem_cons_of_mem _ hb)).1 q (hne b hb), (h2 b (List.mem_cons_of_mem _ hb)).2⟩
theorem GK.cells {b : Nat} {x0 x1 x2 : Value} (h : GK w bx base Y j v wr) (hb : (b, #[x0, x1, x2]) ∈ bx) : wr.cell? ⟨b, 0, none⟩ = some x0 ∧ wr.cell? ⟨b, 1, none⟩ = some x1 ∧ wr.cell? ⟨b, 2, none⟩ = some x2 := ⟨Blk.cell (h.2.1 _ hb).1 0, Blk.cell (h.2.1 _ hb).1 1, Blk.cell (h.2.1 _ hb).1 2⟩
end
theorem owns_some {w : World} {base n : Nat} {v : Value} {xs : List Value} (h : w.ownsRow base 3 1 v n xs) (hn : 1 ≤ n) : ∃ g cap, v = .slice (some ⟨g, 0, none⟩) n cap := by
 rcases h.2 with ⟨_, h2⟩ | ⟨g, cap, cur, e, _⟩
 ·omega
 ·exact ⟨g, cap, e⟩
set_option maxRecDepth 20000 in
set_option maxHeartbeats 4000000 in
theorem refTurn_ok (r c len cap b o : Nat) (Z : Nat → Int) (hr : 1 ≤ r ∧ r ≤ 12) (hc : 1 ≤ c ∧ c ≤ 12) (hl : len = r * c) (w : World) (za : ∀ i, i < len → w.cell? ⟨b, o + i, none⟩ = some (.int .i64 (Z i))) :
  Calls Tryz.prog 98 #[.agg #[.int .i64 r, .int .i64 c, .slice (some ⟨b, o, none⟩) len cap]] w fun e w' => DocP c r (c * r) (turnZ Z r c) 0 (Kp w) w e w' := by
 have AL := hide (fun w => refMCheck r c (some ⟨b, o, none⟩) len cap w)
 rw [chk_ok ⟨by omega, by omega, by rw [hl, Int.natCast_mul]⟩] at AL
 obtain ⟨Y, hY⟩ : ∃ Y, Y = turnZ Z r c := ⟨_, rfl⟩
 rw [← hY]
 have EY : Hid (∀ k i, i < r → Y (k * r + i) = colZ Z c k i) := fun k i hi => by
  rw [hY]
  show Z ((k * r + i) % r * c + (k * r + i) / r) = Z (i * c + k)
  rw [place_div k i r hi, place_mod k i r hi]
 have HH := hide (And.intro hr (And.intro hc hl))
 have HZ := hide za
 have S0 : Hid (Grown w ((w.alloc (.cells #[.int .i64 r, .int .i64 c, .slice (some ⟨b, o, none⟩) len cap] 38)).alloc (.cells #[.int .i64 0, .int .i64 0, .slice none 0 0] 38)) ∧ Blk w.heap.size #[.int .i64 r, .int .i64 c, .slice (some ⟨b, o, none⟩) len cap] 38 ((w.alloc (.cells #[.int .i64 r, .int .i64 c, .slice (some ⟨b, o, none⟩) len cap] 38)).alloc (.cells #[.int .i64 0, .int .i64 0, .slice none 0 0] 38)) ∧ Blk (w.heap.size + 1) #[.int .i64 0, .int .i64 0, .slice none 0 0] 38 ((w.alloc (.cells #[.int .i64 r, .int .i64 c, .slice (some ⟨b, o, none⟩) len cap] 38)).alloc (.cells #[.int .i64 0, .int .i64 0, .slice none 0 0] 38))) := ⟨((Grown.refl _).alloc _ _).alloc _ _, Blk.grown (Blk.new w _ _) ((Grown.refl _).alloc _ _), blk_new2 w _ _ _⟩
 clear hY hr hc hl za
 go_enter Tryz.func98, Tryz.ntmps98
 go_wp2_with fail
 generalize ((w.alloc (.cells #[.int .i64 r, .int .i64 c, .slice (some ⟨b, o, none⟩) len cap] 38)).alloc (.cells #[.int .i64 0, .int .i64 0, .slice none 0 0] 38)) = w1 at *
 refine (unhide AL _).mono ?_
 rintro e w2 ⟨rfl, g2⟩
 have y0 : w2.cell? ⟨w.heap.size, 0, none⟩ = some (.int .i64 r) := Blk.cell (Blk.grown (unhide S0).2.1 g2) 0
 have y1 : w2.cell? ⟨w.heap.size, 1, none⟩ = some (.int .i64 c) := Blk.cell (Blk.grown (unhide S0).2.1 g2) 1
 obtain ⟨L, hL⟩ : ∃ L, w2.heap.size = L := ⟨_, rfl⟩
 have HLs : Hid (w.heap.size + 1 < L) := by rw [← hL]; exact Blk.lt (Blk.grown (unhide S0).2.2 g2)
 have ST : Hid (GK w [(L, #[.int .i64 c, .int .i64 r, (.slice none 0 0)]), (w.heap.size, #[.int .i64 r, .int .i64 c, .slice (some ⟨b, o, none⟩) len cap]), (w.heap.size + 1, #[.int .i64 0, .int .i64 0, .slice none 0 0])] (L + 1) Y (0 * r) (.slice none 0 0) (w2.alloc (.cells #[.int .i64 c, .int .i64 r, .slice none 0 0] 38))) := by
  obtain ⟨s1, s2, s3⟩ := unhide S0
  have G3 : Grown w2 (w2.alloc (.cells #[.int .i64 c, .int .i64 r, .slice none 0 0] 38)) := (Grown.refl _).alloc _ _
  have gg := gtrans s1 g2
  have hls := unhide HLs
  refine ⟨by rw [Nat.zero_mul]; exact World.ownsRow_nil _ _ _ _, fun q hq => ?_, Kp.of (gtrans gg G3), by omega, by simp; omega⟩
  have nw : Blk L #[.int .i64 c, .int .i64 r, .slice none 0 0] 38 (w2.alloc (.cells #[.int .i64 c, .int .i64 r, .slice none 0 0] 38)) := by rw [← hL]; exact Blk.new w2 _ _
  have g23 := gtrans g2 G3
  simp only [List.mem_cons, List.not_mem_nil, or_false] at hq
  rcases hq with rfl | rfl | rfl
  ·exact ⟨nw, by show w.heap.size ≤ L; omega, by show L < L + 1; omega⟩
  ·exact ⟨Blk.grown s2 g23, Nat.le_refl _, by show w.heap.size < L + 1; omega⟩
  ·exact ⟨Blk.grown s3 g23, by show w.heap.size ≤ w.heap.size + 1; omega, by show w.heap.size + 1 < L + 1; omega⟩
 clear S0 AL g2
 go_wp2_with fail
 (try rw [hL])
 generalize w2.alloc (.cells #[.int .i64 c, .int .i64 r, .slice none 0 0] 38) = w3 at *
 clear y0 y1 hL
 go_loopw [5] (fun i wr => ∃ k : Nat, k ≤ c ∧ i = .int .i64 k ∧ Hid (∃ v, GK w [(L, #[.int .i64 c, .int .i64 r, v]), (w.heap.size, #[.int .i64 r, .int .i64 c, .slice (some ⟨b, o, none⟩) len cap]), (w.heap.size + 1, #[.int .i64 0, .int .i64 0, .slice none 0 0])] (L + 1) Y (k * r) v wr)) (fun i _ => c - (intOf i).toNat)
 case atStart => exact ⟨0, Nat.zero_le _, rfl, _, unhide ST⟩
 case round =>
  obtain ⟨k, hk, rfl, HI0⟩ := hrel
  clear ST
  obtain ⟨v, hI⟩ := unhide HI0
  have HI := hide hI
  clear hI
  obtain ⟨y0, y1, y2⟩ := (unhide HI).cells (b := w.heap.size) (x0 := .int .i64 r) (x1 := .int .i64 c) (x2 := .slice (some ⟨b, o, none⟩) len cap) (by simp)
  by_cases hlt : k < c
  ·have CW := hide (fun wx (kx : Kp wr wx) => refColumn r c k len cap b o Z (unhide HH).1 (unhide HH).2.1 hlt (unhide HH).2.2 wx (fun i hi => ((unhide HI).2.2.1.trans kx).cell (unhide HZ i hi)))
   obtain ⟨_, _, t2⟩ := (unhide HI).cells (b := L) (x0 := .int .i64 c) (x1 := .int .i64 r) (x2 := v) (by simp)
   have hk1 : k ≤ 1000000 := Nat.le_trans hk (Nat.le_trans (unhide HH).2.1.2 (by omega))
   have B4 : Hid (k + 1 ≤ c) := hlt
   have KR : Hid (k * r ≤ 1000000 ∧ (k + 1) * r = k * r + r) := by
    refine ⟨?_, by rw [Nat.add_mul, Nat.one_mul]⟩
    have := Nat.mul_le_mul (show k ≤ 12 by have := (unhide HH).2.1; omega) (unhide HH).1.2
    omega
   clear hk hlt HI0
   go_wp2
   refine region_G (fun w' => w'.cell? ⟨w.heap.size, 0, none⟩ = some (.int .i64 r) ∧ w'.cell? ⟨w.heap.size, 1, none⟩ = some (.int .i64 c) ∧ w'.cell? ⟨w.heap.size, 2, none⟩ = some (.slice (some ⟨b, o, none⟩) len cap) ∧ w'.cell? ⟨L, 2, none⟩ = some v) 7 (by kernel_rfl) ⟨y0, y1, y2, t2⟩ (fun hHeld => ?_)
   refine take_G (i := 0) (d := 21) (v := .pointer (some ⟨L, 2, none⟩)) rfl rfl (by kernel_rfl) (by kernel_rfl) (by kernel_rfl) (by kernel_rfl) (by kernel_rfl) (Or.inl ⟨by rfl, ?_⟩) (by assumption) ?_
   ·intro w hSw
    (try dsimp only at hSw)
    go_simp
   (try simp only [Act.put, List.setIfInBounds_toArray, List.set_cons_zero, List.set_cons_succ])
   refine take_G (i := 1) (d := 22) (v := v) rfl rfl (by kernel_rfl) (by kernel_rfl) (by kernel_rfl) (by kernel_rfl) (by kernel_rfl) (Or.inl ⟨by rfl, ?_⟩) (by assumption) ?_
   ·intro w hSw
    (try dsimp only at hSw)
    go_simp
   (try simp only [Act.put, List.setIfInBounds_toArray, List.set_cons_zero, List.set_cons_succ])
   refine take_G (i := 2) (d := 23) (v := .agg #[.int .i64 r, .int .i64 c, .slice (some ⟨b, o, none⟩) len cap]) rfl rfl (by kernel_rfl) (by kernel_rfl) (by kernel_rfl) (by kernel_rfl) (by kernel_rfl) (Or.inl ⟨by rfl, ?_⟩) (by assumption) ?_
   ·intro w hSw
    (try dsimp only at hSw)
    go_simp
   (try simp only [Act.put, List.setIfInBounds_toArray, List.set_cons_zero, List.set_cons_succ])
   refine take_G (i := 3) (d := 24) (v := .int .i64 (k : Int)) rfl rfl (by kernel_rfl) (by kernel_rfl) (by kernel_rfl) (by kernel_rfl) (by kernel_rfl) (Or.inl ⟨by rfl, ?_⟩) (by assumption) ?_
   ·intro w hSw
    (try dsimp only at hSw)
    go_simp
   (try simp only [Act.put, List.setIfInBounds_toArray, List.set_cons_zero, List.set_cons_succ])
   refine step_G (i := 4) (by kernel_rfl) (fun K hK => ?_)
   refine wpOp_of rfl rfl ?_
   unfold Oper.wp
   go_simp
   refine (unhide CW wr.drew (show Kp wr wr.drew from Kp.refl wr)).mono ?_
   rintro e w5 ⟨ao2, cap2, rfl, hc2, row2, off2, kp2⟩
   have kp2' : Kp wr w5 := kp2
   have G5 := hide ((unhide HI).kp kp2')
   obtain ⟨b2, o2, rfl, rc⟩ := row2.some (unhide HH).1.1
   have RC2 := hide rc
   obtain ⟨u0, u1, u2⟩ := (unhide G5).cells (b := w.heap.size) (x0 := .int .i64 r) (x1 := .int .i64 c) (x2 := .slice (some ⟨b, o, none⟩) len cap) (by simp)
   obtain ⟨_, _, s2⟩ := (unhide G5).cells (b := L) (x0 := .int .i64 c) (x1 := .int .i64 r) (x2 := v) (by simp)
   clear rc row2 off2 kp2 kp2' CW HI hHeld y0 y1 y2 t2
   refine hK _ _ (fun _ => ⟨u0, u1, u2, s2⟩) ?_
   clear hK K
   (try simp only [Act.put, List.setIfInBounds_toArray, List.set_cons_zero, List.set_cons_succ])
   refine step_G (i := 5) (by kernel_rfl) (fun K hK => ?_)
   refine wpOp_of rfl rfl ?_
   refine wp_append_at (.tmp 22) (.tmp 25) rfl (L + 1) v (k * r) (intL (k * r) Y) (by first | rfl | simp [Act.eval, Act.put]) (unhide G5).1 ⟨b2, o2, none⟩ r cap2 ((List.range r).map fun i => Value.int .i64 (colZ Z c k i)) (by first | rfl | simp [Act.eval, Act.put]) (by simp) ?_ (cells_one _ _) (by have := (unhide HH).1; omega) (unhide KR).1 (unhide G5).2.2.2.2 ?_
   ·intro j u hu
    rw [List.getElem?_map] at hu
    by_cases hj : j < r
    ·rw [List.getElem?_range hj] at hu
     simp at hu
     subst hu
     rw [Go.WideShapes.add_plain]
     exact unhide RC2 j hj
    ·rw [List.getElem?_eq_none (by simpa using hj)] at hu
     simp at hu
   intro v' w6 hown hgrow _
   obtain ⟨g', cap', rfl⟩ := owns_some hown (by have := (unhide HH).1; omega)
   have G6 := hide (GK.app (unhide G5) (fun i hi => unhide EY k i hi) hown hgrow)
   clear hown hgrow
   obtain ⟨d0, d1, d2⟩ := (unhide G6).cells (b := w.heap.size) (x0 := .int .i64 r) (x1 := .int .i64 c) (x2 := .slice (some ⟨b, o, none⟩) len cap) (by simp)
   obtain ⟨_, _, d3⟩ := (unhide G6).cells (b := L) (x0 := .int .i64 c) (x1 := .int .i64 r) (x2 := v) (by simp)
   have q3 := Blk.free ((unhide G6).2.1 _ List.mem_cons_self).1 2
   refine hK _ _ (fun _ => ⟨d0, d1, d2, d3⟩) ?_
   clear hK K u0 u1 u2 s2 RC2 G5
   (try simp only [Act.put, List.setIfInBounds_toArray, List.set_cons_zero, List.set_cons_succ])
   have hHeld := (And.intro d0 (And.intro d1 (And.intro d2 d3)))
   refine take_G (i := 6) (d := 27) (v := .pointer (some ⟨L, 2, none⟩)) rfl rfl (by kernel_rfl) (by kernel_rfl) (by kernel_rfl) (by kernel_rfl) (by kernel_rfl) (Or.inl ⟨by rfl, ?_⟩) (by assumption) ?_
   ·intro w hSw
    (try dsimp only at hSw)
    go_simp
   (try simp only [Act.put, List.setIfInBounds_toArray, List.set_cons_zero, List.set_cons_succ])
   refine step_G (i := 7) (by kernel_rfl) (fun K hK => ?_)
   refine wpOp_of rfl rfl ?_
   unfold Oper.wp
   go_simp
   refine hK _ _ (fun h => absurd rfl h) ?_
   clear hK K
   refine done_G (by kernel_rfl) ?_
   have HP : Hid (∃ v, GK w [(L, #[.int .i64 c, .int .i64 r, v]), (w.heap.size, #[.int .i64 r, .int .i64 c, .slice (some ⟨b, o, none⟩) len cap]), (w.heap.size + 1, #[.int .i64 0, .int .i64 0, .slice none 0 0])] (L + 1) Y ((k + 1) * r) v (w6.setCell ⟨L, 2, none⟩ (.slice (some ⟨g', 0, none⟩) (k * r + r) cap'))) := by
    have h9 := (unhide G6).set (u := .slice (some ⟨g', 0, none⟩) (k * r + r) cap') (by have := unhide HLs; simp; omega)
    show ∃ v, _
    rw [(unhide KR).2]
    exact ⟨_, h9⟩
   clear G6 d0 d1 d2 d3 q3 hHeld
   refine noPanic_normalE ?_
   go_wp2
   go_roundw
   case rel => exact ⟨k + 1, unhide B4, by go_num, HP⟩
   case measure => have := unhide B4; simp [intOf]; omega
  ·obtain rfl : k = c := by omega
   obtain ⟨h0, hbx, hk, hl1, hl2⟩ := unhide HI
   obtain ⟨ao2, cap2, rfl, g1, g3, g4⟩ := owns_rowC h0
   obtain ⟨t0, t1, t2⟩ := (unhide HI).cells (b := L) (x0 := .int .i64 k) (x1 := .int .i64 r) (x2 := .slice ao2 (k * r) cap2) (by simp)
   obtain ⟨s0, s1, s2⟩ := (unhide HI).cells (b := w.heap.size + 1) (x0 := .int .i64 0) (x1 := .int .i64 0) (x2 := .slice none 0 0) (by simp)
   have b2 := (hbx (w.heap.size + 1, #[.int .i64 0, .int .i64 0, .slice none 0 0]) (by simp)).1
   have f := Blk.free b2
   have R6 := hide (And.intro b2 (And.intro g1 (And.intro g3 (And.intro g4 hk))))
   clear h0 hk g1 g3 g4 HI hl1 hl2 hbx b2 HI0
   generalize hjc : k * r = nn at *
   go_wp2
   obtain ⟨b2, g1, g3, g4, hk⟩ := unhide R6
   have P := putM b2 (.int .i64 k) (.int .i64 r) (.slice ao2 nn cap2)
   generalize (((wr.setCell ⟨w.heap.size + 1, 0, none⟩ (.int .i64 k)).setCell ⟨w.heap.size + 1, 1, none⟩ (.int .i64 r)).setCell ⟨w.heap.size + 1, 2, none⟩ (.slice ao2 nn cap2)) = wE at *
   have c0 : wE.cell? ⟨w.heap.size + 1, 0, none⟩ = some (.int .i64 k) := Blk.cell P.1 0
   have c1 : wE.cell? ⟨w.heap.size + 1, 1, none⟩ = some (.int .i64 r) := Blk.cell P.1 1
   have c2 : wE.cell? ⟨w.heap.size + 1, 2, none⟩ = some (.slice ao2 nn cap2) := Blk.cell P.1 2
   refine bodyPost_ret (v := .tuple #[.agg #[.int .i64 k, .int .i64 r, .slice ao2 nn cap2], .int .i64 0]) (by simp [results, Tryz.results98, go_sem, c0, c1, c2]) rfl ?_
   have := unhide HLs
   exact (show DocP _ _ _ _ _ _ _ _ _ from ⟨_, _, rfl, g1, g3.mod P.2 (g4 _ (by omega)), fun U hU => g4 U (by omega), hk.mod P.2 (by omega)⟩)
end Go.Proofs.YtjobgjcfkomhpaaGreat
namespace Go.Proofs.YtjobgjcfkomhpaaGreat
open Go.RowKit Go.Shelf Go.Proofs.Wd
set_option maxRecDepth 10000
set_option maxHeartbeats 2000000 in
theorem pRefSquare (R C : Int) (ao : Option Addr) (len cap : Nat) (w : World) : Calls Tryz.prog 84 #[.agg #[.int .i64 R, .int .i64 C, .slice ao len cap]] w fun e w' => e = .returned (.bool (sqB R C len)) ∧ Grown w w' := by
 have K1 := hide (fun w => refMCheck R C ao len cap w)
 have G1 : Hid (Grown w (w.alloc (.cells #[.int .i64 R, .int .i64 C, .slice ao len cap] 38)) ∧ Blk w.heap.size #[.int .i64 R, .int .i64 C, .slice ao len cap] 38 (w.alloc (.cells #[.int .i64 R, .int .i64 C, .slice ao len cap] 38))) := ⟨(Grown.refl _).alloc _ _, Blk.new w _ _⟩
 by_cases h1 : okM R C len
 ·rw [chk_ok h1] at K1
  by_cases h2 : R = C
  ·rw [sqB_yes ⟨h1, h2⟩]
   clear h1
   subst h2
   go_enter Tryz.func84, Tryz.ntmps84
   go_wp2_with fail
   generalize w.alloc (.cells #[.int .i64 R, .int .i64 R, .slice ao len cap] 38) = w1 at *
   refine (unhide K1 _).mono ?_
   rintro e w2 ⟨rfl, g2⟩
   have y0 : w2.cell? ⟨w.heap.size, 0, none⟩ = some (.int .i64 R) := Blk.cell (Blk.grown (unhide G1).2 g2) 0
   have y1 : w2.cell? ⟨w.heap.size, 1, none⟩ = some (.int .i64 R) := Blk.cell (Blk.grown (unhide G1).2 g2) 1
   have GG := hide (gtrans (unhide G1).1 g2)
   clear G1 g2 K1
   go_wp2
   go_ret
   exact ⟨rfl, unhide GG⟩
  ·rw [sqB_no (fun h => h2 h.2)]
   have b3 : (R == C) = false := by simpa using h2
   clear h1 h2
   go_enter Tryz.func84, Tryz.ntmps84
   go_wp2_with fail
   generalize w.alloc (.cells #[.int .i64 R, .int .i64 C, .slice ao len cap] 38) = w1 at *
   refine (unhide K1 _).mono ?_
   rintro e w2 ⟨rfl, g2⟩
   have y0 : w2.cell? ⟨w.heap.size, 0, none⟩ = some (.int .i64 R) := Blk.cell (Blk.grown (unhide G1).2 g2) 0
   have y1 : w2.cell? ⟨w.heap.size, 1, none⟩ = some (.int .i64 C) := Blk.cell (Blk.grown (unhide G1).2 g2) 1
   have GG := hide (gtrans (unhide G1).1 g2)
   clear G1 g2 K1
   go_wp2
   go_ret
   exact ⟨rfl, unhide GG⟩
 ·rw [chk_bad h1] at K1
  rw [sqB_no (fun h => h1 h.1)]
  clear h1
  go_enter Tryz.func84, Tryz.ntmps84
  go_wp2_with fail
  generalize w.alloc (.cells #[.int .i64 R, .int .i64 C, .slice ao len cap] 38) = w1 at *
  refine (unhide K1 _).mono ?_
  rintro e w2 ⟨rfl, g2⟩
  have GG := hide (gtrans (unhide G1).1 g2)
  clear G1 g2 K1
  go_wp2
  go_ret
  exact ⟨rfl, unhide GG⟩
set_option maxRecDepth 20000 in
set_option maxHeartbeats 4000000 in
theorem pRefUpper_ok (n b o cap : Nat) (A : Nat → Int) (hn : 1 ≤ n ∧ n ≤ 12) (w : World) (hz : ∀ j, j < n * n → w.cell? ⟨b, o + j, none⟩ = some (.int .i64 (A j))) :
  Calls Tryz.prog 85 #[.agg #[.int .i64 n, .int .i64 n, .slice (some ⟨b, o, none⟩) (n * n) cap]] w fun e w' => e = .returned (.bool (upTo A n n)) ∧ Grown w w' := by
 have SQ := hide (fun w => pRefSquare n n (some ⟨b, o, none⟩) (n * n) cap w)
 rw [sqB_yes (sqA_of hn)] at SQ
 have HP : Hid (∀ i k, i < n → k < n → i * n + k < n * n) := fun i k hi hk => place_in i k n n hi hk
 have HL := (mul12n n n hn hn).2
 obtain ⟨nn, hnn⟩ : ∃ nn, n * n = nn := ⟨_, rfl⟩
 rw [hnn] at HL HP SQ hz
 rw [hnn]
 have G1 : Hid (Grown w (w.alloc (.cells #[.int .i64 n, .int .i64 n, .slice (some ⟨b, o, none⟩) nn cap] 38)) ∧ Blk w.heap.size #[.int .i64 n, .int .i64 n, .slice (some ⟨b, o, none⟩) nn cap] 38 (w.alloc (.cells #[.int .i64 n, .int .i64 n, .slice (some ⟨b, o, none⟩) nn cap] 38))) := ⟨(Grown.refl _).alloc _ _, Blk.new w _ _⟩
 have HZ := hide hz
 obtain ⟨n0, n1⟩ := hn
 clear hz hnn
 go_enter Tryz.func85, Tryz.ntmps85
 go_wp2_with fail
 generalize w.alloc (.cells #[.int .i64 n, .int .i64 n, .slice (some ⟨b, o, none⟩) nn cap] 38) = w1 at *
 refine (unhide SQ _).mono ?_
 rintro e w2 ⟨rfl, g2⟩
 have b2 := Blk.grown (unhide G1).2 g2
 have y0 : w2.cell? ⟨w.heap.size, 0, none⟩ = some (.int .i64 n) := Blk.cell b2 0
 have y1 : w2.cell? ⟨w.heap.size, 1, none⟩ = some (.int .i64 n) := Blk.cell b2 1
 have y2 : w2.cell? ⟨w.heap.size, 2, none⟩ = some (.slice (some ⟨b, o, none⟩) nn cap) := Blk.cell b2 2
 have GG : Hid (Grown w w2) := gtrans (unhide G1).1 g2
 have Z2 : Hid (∀ j, j < nn → w2.cell? ⟨b, o + j, none⟩ = some (.int .i64 (A j))) := fun j hj => gat (unhide GG) (unhide HZ j hj)
 clear G1 g2 SQ b2 HZ
 go_wp2_with fail
 go_loop [3] (fun i => ∃ k : Nat, k ≤ n ∧ i = .int .i64 k ∧ Hid (upTo A n k = true)) (fun i => n - (intOf i).toNat)
 case atStart => exact ⟨0, Nat.zero_le _, rfl, rfl⟩
 case round =>
  obtain ⟨i, hi, rfl, HI⟩ := hrel
  by_cases hlt : i < n
  ·go_wp2_with fail
   go_loop [4] (fun k => ∃ j : Nat, j ≤ i + 1 ∧ k = .int .i64 j ∧ Hid (upRow A n i j = true)) (fun k => i + 1 - (intOf k).toNat)
   case atStart => exact ⟨0, Nat.zero_le _, rfl, rfl⟩
   case round =>
    obtain ⟨k, hk, rfl, HK⟩ := hrel
    by_cases hkt : k < i + 1
    ·have hp := unhide HP i k hlt (by omega)
     have hc := unhide Z2 _ hp
     have e2 : upRow A n i (k + 1) = (A (i * n + k) == 0) := by
      show (upRow A n i k && _) = _
      rw [unhide HK, Bool.true_and]
     obtain ⟨p, hpe⟩ : ∃ p, i * n + k = p := ⟨_, rfl⟩
     obtain ⟨q, hqe⟩ : ∃ q, i * n = q := ⟨_, rfl⟩
     rw [hpe] at hp hc e2
     rw [hqe] at hpe
     have wa : wrap64 ((i : Int) * (n : Int)) = (q : Int) := wrapP i n q hqe (by omega)
     have wb : wrap64 ((q : Int) + (k : Int)) = (p : Int) := wrapA q k p hpe (by omega)
     obtain ⟨x, hx⟩ : ∃ x, A p = x := ⟨_, rfl⟩
     rw [hx] at hc e2
     have E2 := hide e2
     clear hx hqe hpe e2
     by_cases h0 : x = 0
     ·subst h0
      go_wp2
      go_round
      case rel => exact ⟨k + 1, by omega, by go_num, (unhide E2).trans rfl⟩
      case measure => simp [intOf]; omega
     ·have hx0 : (x != 0) = true := by simpa using h0
      have EN : Hid (upTo A n n = false) := by
       cases hu : upTo A n n with
       | false => rfl
       | true =>
        exfalso
        have := (upTo_true A n n).1 hu i hlt
        have h3 := (upRow_true A n i (k + 1)).2 (fun j hj => this j (by omega))
        rw [unhide E2] at h3
        exact h0 (by simpa using h3)
      go_wp2
      go_ret
      exact ⟨by rw [unhide EN]; rfl, unhide GG⟩
    ·obtain rfl : k = i + 1 := by omega
     have R : Hid (upTo A n (i + 1) = true) := by
      show (upTo A n i && upRow A n i (i + 1)) = true
      rw [unhide HI, unhide HK]
      rfl
     go_wp2
     go_round
     case rel => exact ⟨i + 1, by omega, by go_num, R⟩
     case measure => simp [intOf]; omega
  ·obtain rfl : i = n := by omega
   go_wp2
   go_ret
   exact ⟨by rw [unhide HI]; rfl, unhide GG⟩
set_option maxHeartbeats 2000000 in
theorem pRefUpper_bad (R C : Int) (ao : Option Addr) (len cap : Nat) (hb : ¬ sqA R C len) (w : World) :
  Calls Tryz.prog 85 #[.agg #[.int .i64 R, .int .i64 C, .slice ao len cap]] w fun e w' => e = .returned (.bool false) ∧ Grown w w' := by
 have SQ := hide (fun w => pRefSquare R C ao len cap w)
 rw [sqB_no hb] at SQ
 have G1 : Hid (Grown w (w.alloc (.cells #[.int .i64 R, .int .i64 C, .slice ao len cap] 38))) := (Grown.refl _).alloc _ _
 clear hb
 go_enter Tryz.func85, Tryz.ntmps85
 go_wp2_with fail
 generalize w.alloc (.cells #[.int .i64 R, .int .i64 C, .slice ao len cap] 38) = w1 at *
 refine (unhide SQ _).mono ?_
 rintro e w2 ⟨rfl, g2⟩
 have GG := hide (gtrans (unhide G1) g2)
 clear G1 g2 SQ
 go_wp2
 go_ret
 exact ⟨rfl, unhide GG⟩
theorem pRefUpper (R C : Int) (ao : Option Addr) (len cap : Nat) (A : Nat → Int) (w : World) (r : Row w ao len A) :
  Calls Tryz.prog 85 #[.agg #[.int .i64 R, .int .i64 C, .slice ao len cap]] w fun e w' => e = .returned (.bool (upO R C len A)) ∧ Grown w w' := by
 unfold upO
 by_cases h : sqA R C len
 ·rw [if_pos h]
  obtain ⟨n, rfl, rfl, hn, rfl, k1, k2⟩ := h.nat
  obtain ⟨b, o, rfl, hz⟩ := r.some k1
  exact pRefUpper_ok n b o cap A hn w hz
 ·rw [if_neg h]
  exact pRefUpper_bad R C ao len cap h w
def DocB (r c : Int) (len : Nat) (Z : Nat → Int) (err : Int) (X : World → Prop) (w : World) (e : Ending) (w' : World) : Prop :=
 ∃ B cap, e = .returned (.tuple #[.agg #[.int .i64 r, .int .i64 c, .slice (some ⟨B, 0, none⟩) len cap], .int .i64 err]) ∧ len ≤ cap ∧ w.heap.size ≤ B ∧ Own B len Z w' ∧ X w'
set_option maxRecDepth 20000 in
set_option maxHeartbeats 8000000 in
theorem refMul_own (R : Nat) (c0 : Bool) (n : Int) (hn : 0 ≤ n ∧ n < 1152921504606846976) (r m c l1 p1 l2 p2 b o b2 o2 : Nat) (A B : Nat → Int) (hr : 1 ≤ r ∧ r ≤ 12) (hm : 1 ≤ m ∧ m ≤ 12) (hc : 1 ≤ c ∧ c ≤ 12) (hl1 : l1 = r * m) (hl2 : l2 = m * c) (hcap : l1 ≤ p1) (hA : ∀ j, j < l1 → I64 (A j)) (hB : ∀ j, j < l2 → I64 (B j)) (w : World) (h : RC R c0 n w)
  (za : ∀ i, i < l1 → w.cell? ⟨b, o + i, none⟩ = some (.int .i64 (A i))) (zb : ∀ i, i < l2 → w.cell? ⟨b2, o2 + i, none⟩ = some (.int .i64 (B i))) (ob : b ≠ R) (ob2 : b2 ≠ R) :
  Calls Tryz.prog 97 #[.pointer (some ⟨R, 0, none⟩), .agg #[.int .i64 r, .int .i64 m, .slice (some ⟨b, o, none⟩) l1 p1], .agg #[.int .i64 m, .int .i64 c, .slice (some ⟨b2, o2, none⟩) l2 p2]] w fun e w' => DocB r c (r * c) (mulZ A B m c) 0 (fun w' => RC R (c0 || orC (mulG A B m c) (r * c)) (n + 2 * (m : Int) * ((r * c : Nat) : Int)) w' ∧ Mk R w w') w e w' := by
 have HPOS : Hid (1 ≤ r * c) := by have := mul12n r c hr hc; show 1 ≤ r * c; omega
 have hlen : r * c ≤ 144 := by have := mul12n r c hr hc; omega
 have A1 := hide (fun w => refMCheck r m (some ⟨b, o, none⟩) l1 p1 w)
 rw [chk_ok ⟨by omega, by omega, by rw [hl1, Int.natCast_mul]⟩] at A1
 have A2 := hide (fun w => refMCheck m c (some ⟨b2, o2, none⟩) l2 p2 w)
 rw [chk_ok ⟨by omega, by omega, by rw [hl2, Int.natCast_mul]⟩] at A2
 obtain ⟨Y, hY⟩ : ∃ Y, Y = mulZ A B m c := ⟨_, rfl⟩
 rw [← hY]
 have EY : Hid (∀ i k, k < c → Y (i * c + k) = dotN (rowZ A m i) (colZ B c k) m ∧ mulG A B m c (i * c + k) = dotC (rowZ A m i) (colZ B c k) m) := fun i k hk => by
  rw [hY]
  constructor
  ·show dotN (rowZ A m ((i * c + k) / c)) (colZ B c ((i * c + k) % c)) m = _
   rw [place_div i k c hk, place_mod i k c hk]
  ·show dotC (rowZ A m ((i * c + k) / c)) (colZ B c ((i * c + k) % c)) m = _
   rw [place_div i k c hk, place_mod i k c hk]
 have HH := hide (And.intro hn (And.intro hr (And.intro hm (And.intro hc (And.intro hl1 (And.intro hl2 hcap))))))
 have HA := hide (And.intro hA hB)
 have HZ := hide (And.intro za (And.intro zb (And.intro ob ob2)))
 have lR := Blk.lt h
 obtain ⟨G, s3, x0, x1, x2⟩ := alloc3 w #[.int .i64 r, .int .i64 m, .slice (some ⟨b, o, none⟩) l1 p1] 38 #[.int .i64 m, .int .i64 c, .slice (some ⟨b2, o2, none⟩) l2 p2] 38 #[.int .i64 0, .int .i64 0, .slice none 0 0] 38
 have S0 := hide (And.intro G (And.intro x0 (And.intro x1 (And.intro x2 (And.intro h (And.intro lR s3))))))
 have HLN := hide hlen
 clear hlen hY hn hr hm hc hl1 hl2 hcap hA hB za zb ob ob2 h lR G s3 x0 x1 x2
 go_enter Tryz.func97, Tryz.ntmps97
 go_wp2_with fail
 generalize (((w.alloc (.cells #[.int .i64 r, .int .i64 m, .slice (some ⟨b, o, none⟩) l1 p1] 38)).alloc (.cells #[.int .i64 m, .int .i64 c, .slice (some ⟨b2, o2, none⟩) l2 p2] 38)).alloc (.cells #[.int .i64 0, .int .i64 0, .slice none 0 0] 38)) = w1 at *
 refine (unhide A1 _).mono ?_
 rintro e w2 ⟨rfl, g2⟩
 have y2' : w2.cell? ⟨w.heap.size + 1, 0, none⟩ = some (.int .i64 m) := Blk.cell (Blk.grown (unhide S0).2.2.1 g2) 0
 have y3' : w2.cell? ⟨w.heap.size + 1, 1, none⟩ = some (.int .i64 c) := Blk.cell (Blk.grown (unhide S0).2.2.1 g2) 1
 have y4' : w2.cell? ⟨w.heap.size + 1, 2, none⟩ = some (.slice (some ⟨b2, o2, none⟩) l2 p2) := Blk.cell (Blk.grown (unhide S0).2.2.1 g2) 2
 have S1 := hide g2
 clear g2
 go_wp2_with fail
 refine (unhide A2 _).mono ?_
 rintro e w3 ⟨rfl, g3⟩
 have g13 := gtrans (unhide S1) g3
 have S2 := hide g13
 have e0 : w3.cell? ⟨w.heap.size, 0, none⟩ = some (.int .i64 r) := Blk.cell (Blk.grown (unhide S0).2.1 g13) 0
 have e1 : w3.cell? ⟨w.heap.size, 1, none⟩ = some (.int .i64 m) := Blk.cell (Blk.grown (unhide S0).2.1 g13) 1
 have f0 : w3.cell? ⟨w.heap.size + 1, 0, none⟩ = some (.int .i64 m) := Blk.cell (Blk.grown (unhide S0).2.2.1 g13) 0
 have f1 : w3.cell? ⟨w.heap.size + 1, 1, none⟩ = some (.int .i64 c) := Blk.cell (Blk.grown (unhide S0).2.2.1 g13) 1
 clear g3 g13 S1 y2' y3' y4' A1 A2
 go_wp2_with fail
 obtain ⟨L, hL⟩ : ∃ L, w3.heap.size = L := ⟨_, rfl⟩
 have ST : Hid (GA w R [(L, #[.int .i64 r, .int .i64 c, (.slice none 0 0)]), (w.heap.size, #[.int .i64 r, .int .i64 m, .slice (some ⟨b, o, none⟩) l1 p1]), (w.heap.size + 1, #[.int .i64 m, .int .i64 c, .slice (some ⟨b2, o2, none⟩) l2 p2]), (w.heap.size + 1 + 1, #[.int .i64 0, .int .i64 0, .slice none 0 0])] [] (L + 1) Y (c0 || orC (mulG A B m c) (0 * c)) (n + 2 * (m : Int) * ((0 * c : Nat) : Int)) (0 * c) (.slice none 0 0) (w3.alloc (.cells #[.int .i64 r, .int .i64 c, .slice none 0 0] 38))) := by
  obtain ⟨s1, s2, s3, s4, s5, s6, s7⟩ := unhide S0
  have G3 : Grown w3 (w3.alloc (.cells #[.int .i64 r, .int .i64 c, .slice none 0 0] 38)) := (Grown.refl _).alloc _ _
  have gg := gtrans s1 (unhide S2)
  have hs := Blk.lt (Blk.grown s4 (unhide S2))
  refine ⟨by rw [Nat.zero_mul]; exact World.ownsRow_nil _ _ _ _, fun q hq => ?_, fun q hq => absurd hq List.not_mem_nil, ?_, Mk.of (Mod.of (gtrans gg G3)), s6, by have := gg.2.2; omega, by simp; omega⟩
  ·have nw : Blk L #[.int .i64 r, .int .i64 c, .slice none 0 0] 38 (w3.alloc (.cells #[.int .i64 r, .int .i64 c, .slice none 0 0] 38)) := by rw [← hL]; exact Blk.new w3 _ _
   have hgs := gg.2.2
   have g23 := gtrans (unhide S2) G3
   simp only [List.mem_cons, List.not_mem_nil, or_false] at hq
   rcases hq with rfl | rfl | rfl | rfl
   ·exact ⟨nw, by show w.heap.size ≤ L; omega, by show L < L + 1; omega⟩
   ·exact ⟨Blk.grown s2 g23, Nat.le_refl _, by show w.heap.size < L + 1; omega⟩
   ·exact ⟨Blk.grown s3 g23, by show w.heap.size ≤ w.heap.size + 1; omega, by show w.heap.size + 1 < L + 1; omega⟩
   ·exact ⟨Blk.grown s4 g23, by show w.heap.size ≤ w.heap.size + 1 + 1; omega, by show w.heap.size + 1 + 1 < L + 1; omega⟩
  ·rw [Nat.zero_mul]
   show RC _ (c0 || false) (n + 2 * (m : Int) * 0) _
   rw [Bool.or_false, Int.mul_zero, Int.add_zero]
   exact Blk.grown s5 (gtrans gg G3)
 have HLs : Hid (w.heap.size + 1 + 1 < L) := by rw [← hL]; exact Blk.lt (Blk.grown (unhide S0).2.2.2.1 (unhide S2))
 rw [hL]
 generalize w3.alloc (.cells #[.int .i64 r, .int .i64 c, .slice none 0 0] 38) = w4 at *
 clear S0 S2 e0 e1 f0 f1 hL
 go_loopw [9] (fun i wr => ∃ j : Nat, j ≤ r ∧ i = .int .i64 j ∧ Hid (∃ v, GA w R [(L, #[.int .i64 r, .int .i64 c, v]), (w.heap.size, #[.int .i64 r, .int .i64 m, .slice (some ⟨b, o, none⟩) l1 p1]), (w.heap.size + 1, #[.int .i64 m, .int .i64 c, .slice (some ⟨b2, o2, none⟩) l2 p2]), (w.heap.size + 1 + 1, #[.int .i64 0, .int .i64 0, .slice none 0 0])] [] (L + 1) Y (c0 || orC (mulG A B m c) (j * c)) (n + 2 * (m : Int) * ((j * c : Nat) : Int)) (j * c) v wr)) (fun i _ => r - (intOf i).toNat)
 case atStart => exact ⟨0, Nat.zero_le _, rfl, _, unhide ST⟩
 case round =>
  obtain ⟨j, hj, rfl, HI0⟩ := hrel
  clear ST
  obtain ⟨v, hI⟩ := unhide HI0
  have HI := hide hI
  clear hI
  obtain ⟨y0, y1, y2⟩ := (unhide HI).cells (b := w.heap.size) (x0 := .int .i64 r) (x1 := .int .i64 m) (x2 := .slice (some ⟨b, o, none⟩) l1 p1) (by simp)
  by_cases hlt : j < r
  ·have RW := hide (refRow_ok r m j l1 p1 b o A (unhide HH).2.1 (unhide HH).2.2.1 hlt (unhide HH).2.2.2.2.1 (unhide HH).2.2.2.2.2.2 wr (fun i hi => (unhide HI).2.2.2.2.1.cell ((unhide HZ).1 i hi) (unhide HZ).2.2.1))
   have IR : Hid (∀ i, i < m → I64 (rowZ A m j i)) := fun i hi => (unhide HA).1 _ (by rw [(unhide HH).2.2.2.2.1]; exact place_in j i r m hlt hi)
   have hj1 : j ≤ 1000000 := Nat.le_trans hj (Nat.le_trans (unhide HH).2.1.2 (by omega))
   have B4 : Hid (j + 1 ≤ r) := hlt
   clear hj hlt HI0
   go_wp2_with fail
   refine (unhide RW).mono ?_
   rintro e w5 ⟨ao1, cap1, rfl, hc1, row1, off1, kp1⟩
   have G5 : Hid (GA w R [(L, #[.int .i64 r, .int .i64 c, v]), (w.heap.size, #[.int .i64 r, .int .i64 m, .slice (some ⟨b, o, none⟩) l1 p1]), (w.heap.size + 1, #[.int .i64 m, .int .i64 c, .slice (some ⟨b2, o2, none⟩) l2 p2]), (w.heap.size + 1 + 1, #[.int .i64 0, .int .i64 0, .slice none 0 0])] [(ao1, m, rowZ A m j)] (L + 1) Y (c0 || orC (mulG A B m c) (j * c + 0)) (n + 2 * (m : Int) * ((j * c + 0 : Nat) : Int)) (j * c + 0) v w5 ∧ Off L m ao1) := ⟨(unhide HI).row kp1 row1 off1, off1 L ((unhide HI).2.2.2.2.2.2.2)⟩
   clear RW HI kp1 row1 off1 y0 y1 y2
   go_wp2_with fail
   go_loopw [12] (fun i wr => ∃ k : Nat, k ≤ c ∧ i = .int .i64 k ∧ Hid (∃ v, GA w R [(L, #[.int .i64 r, .int .i64 c, v]), (w.heap.size, #[.int .i64 r, .int .i64 m, .slice (some ⟨b, o, none⟩) l1 p1]), (w.heap.size + 1, #[.int .i64 m, .int .i64 c, .slice (some ⟨b2, o2, none⟩) l2 p2]), (w.heap.size + 1 + 1, #[.int .i64 0, .int .i64 0, .slice none 0 0])] [(ao1, m, rowZ A m j)] (L + 1) Y (c0 || orC (mulG A B m c) (j * c + k)) (n + 2 * (m : Int) * ((j * c + k : Nat) : Int)) (j * c + k) v wr)) (fun i _ => c - (intOf i).toNat)
   case atStart => exact ⟨0, Nat.zero_le _, rfl, _, (unhide G5).1⟩
   case round =>
    obtain ⟨k, hk, rfl, HI0⟩ := hrel
    obtain ⟨v, hI⟩ := unhide HI0
    have HI := hide hI
    clear hI
    obtain ⟨y0, y1, y2⟩ := (unhide HI).cells (b := w.heap.size + 1) (x0 := .int .i64 m) (x1 := .int .i64 c) (x2 := .slice (some ⟨b2, o2, none⟩) l2 p2) (by simp)
    by_cases hlt : k < c
    ·have CW := hide (refColumn m c k l2 p2 b2 o2 B (unhide HH).2.2.1 (unhide HH).2.2.2.1 hlt (unhide HH).2.2.2.2.2.1 wr (fun i hi => (unhide HI).2.2.2.2.1.cell ((unhide HZ).2.1 i hi) (unhide HZ).2.2.2))
     have EK : Hid (Y (j * c + k) = dotN (rowZ A m j) (colZ B c k) m ∧ (c0 || orC (mulG A B m c) (j * c + k + 1)) = (c0 || orC (mulG A B m c) (j * c + k) || dotC (rowZ A m j) (colZ B c k) m) ∧ n + 2 * (m : Int) * ((j * c + k + 1 : Nat) : Int) = n + 2 * (m : Int) * ((j * c + k : Nat) : Int) + 2 * (m : Int)) := by
      obtain ⟨q1, q2⟩ := unhide EY j k hlt
      refine ⟨q1, ?_, bnd_succ n m (j * c + k)⟩
      show (c0 || (orC (mulG A B m c) (j * c + k) || mulG A B m c (j * c + k))) = _
      rw [q2, Bool.or_assoc]
     have hq : j * c + k ≤ 144 := by have h1 := place_in j k r c (unhide B4) hlt; have := unhide HLN; omega
     have BN : Hid (0 ≤ n + 2 * (m : Int) * ((j * c + k : Nat) : Int) ∧ n + 2 * (m : Int) * ((j * c + k : Nat) : Int) < 2305843009213693952) := by
      have h1 := (unhide HH).1
      have h2 := bnd m (j * c + k) (unhide HH).2.2.1.2 hq
      show _ ∧ _
      omega
     have IC : Hid (∀ i, i < m → I64 (colZ B c k i)) := fun i hi => (unhide HA).2 _ (by rw [(unhide HH).2.2.2.2.2.1]; exact place_in i k m c hi hlt)
     have hk1 : k ≤ 1000000 := Nat.le_trans hk (Nat.le_trans (unhide HH).2.2.2.1.2 (by omega))
     have C4 : Hid (k + 1 ≤ c) := hlt
     have EQ : Hid (j * c + (k + 1) = j * c + k + 1) := rfl
     have hq1 : Hid (j * c + k ≤ 1000000) := Nat.le_trans hq (by omega)
     clear hk hlt HI0 hq
     obtain ⟨cq1, hcq1⟩ : ∃ x, (c0 || orC (mulG A B m c) (j * c + k + 1)) = x := ⟨_, rfl⟩
     obtain ⟨nq1, hnq1⟩ : ∃ x, n + 2 * (m : Int) * ((j * c + k + 1 : Nat) : Int) = x := ⟨_, rfl⟩
     rw [hcq1, hnq1] at EK
     have E1 := hide hcq1
     have E2 := hide hnq1
     clear hcq1 hnq1
     generalize n + 2 * (m : Int) * ((j * c + k : Nat) : Int) = nq at EK BN HI
     generalize (c0 || orC (mulG A B m c) (j * c + k)) = cq at EK HI
     obtain ⟨q, hq⟩ : ∃ q, j * c + k = q := ⟨_, rfl⟩
     rw [hq] at EK HI hq1
     go_wp2_with fail
     refine (unhide CW).mono ?_
     rintro e w6 ⟨ao2, cap2, rfl, hc2, row2, off2, kp2⟩
     have G6 := hide ((unhide HI).row kp2 row2 off2)
     clear CW HI kp2 row2 off2 y0 y1 y2
     go_wp2_with fail
     refine (refUDot_ok R cq nq ao1 ao2 m cap1 cap2 (rowZ A m j) (colZ B c k) (unhide BN) (by have := unhide HH; omega) IR IC w6 (unhide G6).2.2.2.1 ((unhide G6).2.2.1 (ao1, m, rowZ A m j) (by simp)).1 ((unhide G6).2.2.1 (ao1, m, rowZ A m j) (by simp)).2.1 ((unhide G6).2.2.1 (ao2, m, colZ B c k) (by simp)).1 ((unhide G6).2.2.1 (ao2, m, colZ B c k) (by simp)).2.1).mono ?_
     rintro e w7 ⟨rfl, u7, m7⟩
     have G7 := hide (((unhide G6).mod m7 u7).sub (rows' := [(ao1, m, rowZ A m j)]) (by simp))
     clear G6 m7 u7 hc2
     rw [← (unhide EK).2.1, ← (unhide EK).2.2] at G7
     have EZ := hide (unhide EK).1
     clear EK IC BN
     generalize dotN (rowZ A m j) (colZ B c k) m = z at *
     obtain ⟨t0, t1, t2⟩ := (unhide G7).cells (b := L) (x0 := .int .i64 r) (x1 := .int .i64 c) (x2 := v) (by simp)
     have hzL : L < w7.heap.size := heap_gt t0
     have B3 : Hid (L + 1 ≤ (w7.alloc (.cells #[.int .i64 z] 3)).heap.size) := by
      show _ ≤ _
      simp
      omega
     go_wp2_with (at_builtin; refine wpList_append_at rfl _ _ rfl (L + 1) _ _ _ rfl ((unhide G7).1.alloc _) ⟨w7.heap.size, 0, none⟩ 1 1 [.int .i64 z] rfl rfl (news_one _ _ _) (one_cell _) ⟨by decide, by decide⟩ (unhide hq1) (unhide B3) ?_; intro v' w8 hown hgrow hwh; obtain ⟨g', cap', rfl⟩ := ownsRow_succ hown; have G8 := hide (GA.app (unhide G7) (unhide EZ) hown hgrow hwh); clear hown hgrow hwh t0 t1 t2; have q2 : w8.cell? ⟨L, 2, none⟩ = some v := (Blk.cell ((unhide G8).2.1 _ List.mem_cons_self).1 2); have q3 := Blk.free ((unhide G8).2.1 _ List.mem_cons_self).1 2)
     have HP : Hid (∃ v, GA w R [(L, #[.int .i64 r, .int .i64 c, v]), (w.heap.size, #[.int .i64 r, .int .i64 m, .slice (some ⟨b, o, none⟩) l1 p1]), (w.heap.size + 1, #[.int .i64 m, .int .i64 c, .slice (some ⟨b2, o2, none⟩) l2 p2]), (w.heap.size + 1 + 1, #[.int .i64 0, .int .i64 0, .slice none 0 0])] [(ao1, m, rowZ A m j)] (L + 1) Y (c0 || orC (mulG A B m c) (j * c + (k + 1))) (n + 2 * (m : Int) * ((j * c + (k + 1) : Nat) : Int)) (j * c + (k + 1)) v (w8.setCell ⟨L, 2, none⟩ (.slice (some ⟨g', 0, none⟩) (q + 1) cap'))) := by
      have h9 := (unhide G8).set (u := .slice (some ⟨g', 0, none⟩) (q + 1) cap') (by have := unhide HLs; simp; omega) (by simp; exact (unhide G5).2)
      show ∃ v, _
      refine ⟨.slice (some ⟨g', 0, none⟩) (q + 1) cap', ?_⟩
      have e : j * c + (k + 1) = q + 1 := by rw [← hq]; rfl
      have e1 := unhide E1
      have e2 := unhide E2
      rw [hq] at e1 e2
      rw [e, e1, e2]
      exact h9
     go_roundw
     case rel => exact ⟨k + 1, unhide C4, by go_num, HP⟩
     case measure => have := unhide C4; simp [intOf]; omega
    ·obtain rfl : k = c := by omega
     have HP : Hid (∃ v, GA w R [(L, #[.int .i64 r, .int .i64 k, v]), (w.heap.size, #[.int .i64 r, .int .i64 m, .slice (some ⟨b, o, none⟩) l1 p1]), (w.heap.size + 1, #[.int .i64 m, .int .i64 k, .slice (some ⟨b2, o2, none⟩) l2 p2]), (w.heap.size + 1 + 1, #[.int .i64 0, .int .i64 0, .slice none 0 0])] [] (L + 1) Y (c0 || orC (mulG A B m k) ((j + 1) * k)) (n + 2 * (m : Int) * (((j + 1) * k : Nat) : Int)) ((j + 1) * k) v wr) := by
      have e : (j + 1) * k = j * k + k := by rw [Nat.add_mul, Nat.one_mul]
      show ∃ v, _
      rw [e]
      exact ⟨v, (unhide HI).sub (by simp)⟩
     clear HI0 HI
     go_wp2
     go_roundw
     case rel => exact ⟨j + 1, unhide B4, by go_num, HP⟩
     case measure => have := unhide B4; simp [intOf]; omega
  ·obtain rfl : j = r := by omega
   obtain ⟨h0, hbx, _, hu, hk, hl1, hl2, _⟩ := unhide HI
   obtain ⟨Bq, cap2, rfl, g1, gB, gO⟩ := owns_ownC (unhide HPOS) h0
   obtain ⟨t0, t1, t2⟩ := (unhide HI).cells (b := L) (x0 := .int .i64 j) (x1 := .int .i64 c) (x2 := (.slice (some ⟨Bq, 0, none⟩) (j * c) cap2)) (by simp)
   obtain ⟨s0, s1, s2⟩ := (unhide HI).cells (b := w.heap.size + 1 + 1) (x0 := .int .i64 0) (x1 := .int .i64 0) (x2 := .slice none 0 0) (by simp)
   have b2 := (hbx (w.heap.size + 1 + 1, #[.int .i64 0, .int .i64 0, .slice none 0 0]) (by simp)).1
   have f := Blk.free b2
   have R6 := hide (And.intro b2 (And.intro g1 (And.intro gB (And.intro gO (And.intro hu (And.intro hk (And.intro hl1 hl2)))))))
   clear h0 hu hk g1 gB gO HI hl1 hl2 hbx b2 HI0
   generalize hjc : j * c = len at *
   go_wp2
   obtain ⟨b2, g1, gB, gO, hu, hk, hl1, hl2⟩ := unhide R6
   have P := putM b2 (.int .i64 j) (.int .i64 c) (.slice (some ⟨Bq, 0, none⟩) len cap2)
   generalize (((wr.setCell ⟨w.heap.size + 1 + 1, 0, none⟩ (.int .i64 j)).setCell ⟨w.heap.size + 1 + 1, 1, none⟩ (.int .i64 c)).setCell ⟨w.heap.size + 1 + 1, 2, none⟩ (.slice (some ⟨Bq, 0, none⟩) len cap2)) = wE at *
   have c0 : wE.cell? ⟨w.heap.size + 1 + 1, 0, none⟩ = some (.int .i64 j) := Blk.cell P.1 0
   have c1 : wE.cell? ⟨w.heap.size + 1 + 1, 1, none⟩ = some (.int .i64 c) := Blk.cell P.1 1
   have c2 : wE.cell? ⟨w.heap.size + 1 + 1, 2, none⟩ = some (.slice (some ⟨Bq, 0, none⟩) len cap2) := Blk.cell P.1 2
   refine bodyPost_ret (v := .tuple #[.agg #[.int .i64 j, .int .i64 c, .slice (some ⟨Bq, 0, none⟩) len cap2], .int .i64 0]) (by simp [results, Tryz.results97, go_sem, c0, c1, c2]) rfl ?_
   have := unhide HLs
   exact (show DocB _ _ _ _ _ _ _ _ _ from ⟨_, _, rfl, g1, by omega, gO.mk (Mk.of P.2) (by omega), Blk.keep hu P.2 (by omega), hk.new P.2 (by omega)⟩)
set_option maxRecDepth 20000 in
set_option maxHeartbeats 4000000 in
theorem refDiag_own (n cap : Nat) (ao : Option Addr) (L : Nat → Int) (hn : 1 ≤ n ∧ n ≤ 12) (w : World) (hr : Row w ao n L) :
  Calls Tryz.prog 96 #[.slice ao n cap] w fun e w' => DocB n n (n * n) (diagZ L n) 0 (Kp w) w e w' := by
 obtain ⟨nn, hnn⟩ : ∃ nn, n * n = nn := ⟨_, rfl⟩
 have hb : nn ≤ 144 := by have := mul12n n n hn hn; omega
 have h0 : 1 ≤ (n : Int) := by omega
 have h1 : (n : Int) ≤ 12 := by omega
 have nn6 : nn ≤ 1000000 := by omega
 rw [hnn]
 have EN := hide hnn
 have MK := make_ints nn nn6
 obtain ⟨G, s3, x0, x1, x2⟩ := alloc3 w #[.int .i64 0, .int .i64 0, .slice none 0 0] 38 (ints nn (fun _ => 0)) 3 #[.int .i64 n, .int .i64 n, .slice (some ⟨w.heap.size + 1, 0, none⟩) nn nn] 38
 have ST : Hid (DgI w n nn L 0 (((w.alloc (.cells #[.int .i64 0, .int .i64 0, .slice none 0 0] 38)).alloc (.cells (ints nn (fun _ => 0)) 3)).alloc (.cells #[.int .i64 n, .int .i64 n, .slice (some ⟨w.heap.size + 1, 0, none⟩) nn nn] 38))) := by
  refine ⟨x0, ?_, x2, Kp.of G⟩
  rw [← dgZ_zero]
  exact x1
 have HR := hide hr
 have wa : wrap64 ((n : Int) * (n : Int)) = (nn : Int) := wrapP n n nn hnn nn6
 clear hr G s3 x0 x1 x2 hnn hn
 go_enter Tryz.func96, Tryz.ntmps96
 go_wp2_with fail
 generalize (((w.alloc (.cells #[.int .i64 0, .int .i64 0, .slice none 0 0] 38)).alloc (.cells (ints nn (fun _ => 0)) 3)).alloc (.cells #[.int .i64 n, .int .i64 n, .slice (some ⟨w.heap.size + 1, 0, none⟩) nn nn] 38)) = w1 at *
 clear MK wa
 go_loopw [6] (fun i wr => ∃ k : Nat, k ≤ n ∧ i = .int .i64 k ∧ Hid (DgI w n nn L k wr)) (fun i _ => n - (intOf i).toNat)
 case atStart => exact ⟨0, Nat.zero_le _, rfl, unhide ST⟩
 case round =>
  obtain ⟨k, hk, rfl, HI⟩ := hrel
  clear ST
  by_cases hlt : k < n
  ·obtain ⟨b, o, rfl, hc⟩ := (unhide HR).at hlt
   obtain ⟨m, hm⟩ : ∃ m, k * n = m := ⟨_, rfl⟩
   obtain ⟨p, hp⟩ : ∃ p, m + k = p := ⟨_, rfl⟩
   have hpl : p < nn := by
    have h1 := place_in k k n n hlt hlt
    rw [unhide EN, hm, hp] at h1
    exact h1
   obtain ⟨x, ex⟩ : ∃ x, L k = x := ⟨_, rfl⟩
   rw [ex] at hc
   have hc1 : wr.cell? ⟨b, o + k, none⟩ = some (.int .i64 x) := (unhide HI).2.2.2.cell hc
   have hc2 : wr.cell? ⟨w.heap.size + 1 + 1, 2, none⟩ = some (.slice (some ⟨w.heap.size + 1, 0, none⟩) nn nn) := Blk.cell (unhide HI).2.2.1 2
   obtain ⟨y, hc3⟩ : ∃ y, wr.cell? ⟨w.heap.size + 1, p, none⟩ = some (.int .i64 y) := ⟨_, by rw [Blk.cell (unhide HI).2.1, ints_at nn _ p hpl]⟩
   have hfz : wr.frozen? ⟨w.heap.size + 1, p, none⟩ = false := Blk.free (unhide HI).2.1 p
   have HP : Hid (DgI w n nn L (k + 1) (wr.drew.setCell ⟨w.heap.size + 1, p, none⟩ (.int .i64 x))) := DgI.set (wr := wr.drew) (unhide HI) hlt (by rw [hm]; exact hp) ex
   have i0 : (0 : Int) ≤ (k : Int) := by omega
   have i1 : (k : Int) < (n : Int) := by omega
   have i2 : (0 : Int) ≤ (p : Int) := by omega
   have i3 : (p : Int) < (nn : Int) := by omega
   have hk1 : k ≤ 1000000 := by omega
   have hm6 : m ≤ 1000000 := by omega
   have hp6 : p ≤ 1000000 := by omega
   have B4 : Hid (k + 1 ≤ n) := hlt
   have wa : IntKind.i64.wrap ((k : Int) * (n : Int)) = (m : Int) := wrapPi k n m hm hm6
   have wb : IntKind.i64.wrap ((m : Int) + (k : Int)) = (p : Int) := wrapAi m k p hp hp6
   clear hm hp ex hc HI hpl
   go_wp2
   refine region_G (fun w' => w'.cell? ⟨b, o + k, none⟩ = some (.int .i64 x) ∧ w'.cell? ⟨w.heap.size + 1 + 1, 2, none⟩ = some (.slice (some ⟨w.heap.size + 1, 0, none⟩) nn nn)) 12 (by kernel_rfl) ⟨hc1, hc2⟩ (fun hHeld => ?_)
   refine take_G (i := 0) (d := 28) (v := .pointer (some ⟨w.heap.size + 1 + 1, 2, none⟩)) rfl rfl (by kernel_rfl) (by kernel_rfl) (by kernel_rfl) (by kernel_rfl) (by kernel_rfl) (Or.inl ⟨by rfl, ?_⟩) (by assumption) ?_
   ·intro w hSw
    (try dsimp only at hSw)
    go_simp
   (try simp only [Act.put, List.setIfInBounds_toArray, List.set_cons_zero, List.set_cons_succ])
   refine take_G (i := 1) (d := 29) (v := .slice (some ⟨w.heap.size + 1, 0, none⟩) nn nn) rfl rfl (by kernel_rfl) (by kernel_rfl) (by kernel_rfl) (by kernel_rfl) (by kernel_rfl) (Or.inl ⟨by rfl, ?_⟩) (by assumption) ?_
   ·intro w hSw
    (try dsimp only at hSw)
    go_simp
   (try simp only [Act.put, List.setIfInBounds_toArray, List.set_cons_zero, List.set_cons_succ])
   refine take_G (i := 2) (d := 30) (v := .int .i64 (k : Int)) rfl rfl (by kernel_rfl) (by kernel_rfl) (by kernel_rfl) (by kernel_rfl) (by kernel_rfl) (Or.inl ⟨by rfl, ?_⟩) (by assumption) ?_
   ·intro w hSw
    (try dsimp only at hSw)
    go_simp
   (try simp only [Act.put, List.setIfInBounds_toArray, List.set_cons_zero, List.set_cons_succ])
   refine take_G (i := 3) (d := 31) (v := .int .i64 (n : Int)) rfl rfl (by kernel_rfl) (by kernel_rfl) (by kernel_rfl) (by kernel_rfl) (by kernel_rfl) (Or.inl ⟨by rfl, ?_⟩) (by assumption) ?_
   ·intro w hSw
    (try dsimp only at hSw)
    go_simp
   (try simp only [Act.put, List.setIfInBounds_toArray, List.set_cons_zero, List.set_cons_succ])
   refine take_G (i := 4) (d := 32) (v := .int .i64 (m : Int)) rfl rfl (by kernel_rfl) (by kernel_rfl) (by kernel_rfl) (by kernel_rfl) (by kernel_rfl) (Or.inl ⟨by rfl, ?_⟩) (by assumption) ?_
   ·intro w hSw
    (try dsimp only at hSw)
    go_simp
   (try simp only [Act.put, List.setIfInBounds_toArray, List.set_cons_zero, List.set_cons_succ])
   refine take_G (i := 5) (d := 33) (v := .int .i64 (k : Int)) rfl rfl (by kernel_rfl) (by kernel_rfl) (by kernel_rfl) (by kernel_rfl) (by kernel_rfl) (Or.inl ⟨by rfl, ?_⟩) (by assumption) ?_
   ·intro w hSw
    (try dsimp only at hSw)
    go_simp
   (try simp only [Act.put, List.setIfInBounds_toArray, List.set_cons_zero, List.set_cons_succ])
   refine take_G (i := 6) (d := 34) (v := .int .i64 (p : Int)) rfl rfl (by kernel_rfl) (by kernel_rfl) (by kernel_rfl) (by kernel_rfl) (by kernel_rfl) (Or.inl ⟨by rfl, ?_⟩) (by assumption) ?_
   ·intro w hSw
    (try dsimp only at hSw)
    go_simp
   (try simp only [Act.put, List.setIfInBounds_toArray, List.set_cons_zero, List.set_cons_succ])
   refine take_G (i := 7) (d := 35) (v := .slice (some ⟨b, o, none⟩) n cap) rfl rfl (by kernel_rfl) (by kernel_rfl) (by kernel_rfl) (by kernel_rfl) (by kernel_rfl) (Or.inl ⟨by rfl, ?_⟩) (by assumption) ?_
   ·intro w hSw
    (try dsimp only at hSw)
    go_simp
   (try simp only [Act.put, List.setIfInBounds_toArray, List.set_cons_zero, List.set_cons_succ])
   refine take_G (i := 8) (d := 36) (v := .int .i64 (k : Int)) rfl rfl (by kernel_rfl) (by kernel_rfl) (by kernel_rfl) (by kernel_rfl) (by kernel_rfl) (Or.inl ⟨by rfl, ?_⟩) (by assumption) ?_
   ·intro w hSw
    (try dsimp only at hSw)
    go_simp
   (try simp only [Act.put, List.setIfInBounds_toArray, List.set_cons_zero, List.set_cons_succ])
   refine take_G (i := 9) (d := 37) (v := .pointer (some ⟨b, o + k, none⟩)) rfl rfl (by kernel_rfl) (by kernel_rfl) (by kernel_rfl) (by kernel_rfl) (by kernel_rfl) (Or.inl ⟨by rfl, ?_⟩) (by assumption) ?_
   ·intro w hSw
    (try dsimp only at hSw)
    go_simp
   (try simp only [Act.put, List.setIfInBounds_toArray, List.set_cons_zero, List.set_cons_succ])
   refine take_G (i := 10) (d := 38) (v := .int .i64 x) rfl rfl (by kernel_rfl) (by kernel_rfl) (by kernel_rfl) (by kernel_rfl) (by kernel_rfl) (Or.inl ⟨by rfl, ?_⟩) (by assumption) ?_
   ·intro w hSw
    (try dsimp only at hSw)
    go_simp
   (try simp only [Act.put, List.setIfInBounds_toArray, List.set_cons_zero, List.set_cons_succ])
   refine take_G (i := 11) (d := 39) (v := .pointer (some ⟨w.heap.size + 1, p, none⟩)) rfl rfl (by kernel_rfl) (by kernel_rfl) (by kernel_rfl) (by kernel_rfl) (by kernel_rfl) (Or.inl ⟨by rfl, ?_⟩) (by assumption) ?_
   ·intro w hSw
    (try dsimp only at hSw)
    go_simp
   (try simp only [Act.put, List.setIfInBounds_toArray, List.set_cons_zero, List.set_cons_succ])
   refine step_G (i := 12) (by kernel_rfl) (fun K hK => ?_)
   refine wpOp_of rfl rfl ?_
   unfold Oper.wp
   go_simp
   refine hK _ _ (fun h => absurd rfl h) ?_
   clear hK K
   refine done_G (by kernel_rfl) ?_
   clear wa wb
   refine noPanic_normalE ?_
   go_wp2
   go_roundw
   case rel => exact ⟨k + 1, unhide B4, by go_num, HP⟩
   case measure => have := unhide B4; simp [intOf]; omega
  ·obtain rfl : k = n := by omega
   obtain ⟨b0, b1, b2, kk⟩ := unhide HI
   have y0 : wr.cell? ⟨w.heap.size + 1 + 1, 0, none⟩ = some (.int .i64 k) := Blk.cell b2 0
   have y1 : wr.cell? ⟨w.heap.size + 1 + 1, 1, none⟩ = some (.int .i64 k) := Blk.cell b2 1
   have y2 : wr.cell? ⟨w.heap.size + 1 + 1, 2, none⟩ = some (.slice (some ⟨w.heap.size + 1, 0, none⟩) nn nn) := Blk.cell b2 2
   have e0 : wr.cell? ⟨w.heap.size, 0, none⟩ = some (.int .i64 0) := Blk.cell b0 0
   have e1 : wr.cell? ⟨w.heap.size, 1, none⟩ = some (.int .i64 0) := Blk.cell b0 1
   have e2 : wr.cell? ⟨w.heap.size, 2, none⟩ = some (.slice none 0 0) := Blk.cell b0 2
   have f := Blk.free b0
   have R6 := hide (And.intro b0 (And.intro b1 kk))
   clear b0 b1 b2 kk HI
   go_wp2
   obtain ⟨b0, b1, kk⟩ := unhide R6
   have P := putM b0 (.int .i64 k) (.int .i64 k) (.slice (some ⟨w.heap.size + 1, 0, none⟩) nn nn)
   generalize (((wr.setCell ⟨w.heap.size, 0, none⟩ (.int .i64 k)).setCell ⟨w.heap.size, 1, none⟩ (.int .i64 k)).setCell ⟨w.heap.size, 2, none⟩ (.slice (some ⟨w.heap.size + 1, 0, none⟩) nn nn)) = wE at *
   have c0 : wE.cell? ⟨w.heap.size, 0, none⟩ = some (.int .i64 k) := Blk.cell P.1 0
   have c1 : wE.cell? ⟨w.heap.size, 1, none⟩ = some (.int .i64 k) := Blk.cell P.1 1
   have c2 : wE.cell? ⟨w.heap.size, 2, none⟩ = some (.slice (some ⟨w.heap.size + 1, 0, none⟩) nn nn) := Blk.cell P.1 2
   refine bodyPost_ret (v := .tuple #[.agg #[.int .i64 k, .int .i64 k, .slice (some ⟨w.heap.size + 1, 0, none⟩) nn nn], .int .i64 0]) (by simp [results, Tryz.results96, go_sem, c0, c1, c2]) rfl ?_
   have own : Own (w.heap.size + 1) nn (diagZ L k) wE := (Own.of (Blk.keep b1 P.2 (by omega))).congr (fun i hi => dgZ_all L k i (by rw [unhide EN]; exact hi))
   have row : Row wE (some ⟨w.heap.size + 1, 0, none⟩) nn (diagZ L k) := by
    have r0 := (Blk.row b1).mod P.2 (off_blk (by omega))
    rcases r0 with r0 | ⟨b, o, e, hc⟩
    ·exact Or.inl r0
    ·exact Or.inr ⟨b, o, e, fun i hi => by rw [hc i hi, dgZ_all L k i (by rw [unhide EN]; exact hi)]⟩
   exact (show DocB _ _ _ _ _ _ _ _ _ from ⟨_, _, rfl, Nat.le_refl _, by omega, own, kk.mod P.2 (Nat.le_refl _)⟩)
set_option maxRecDepth 20000 in
set_option maxHeartbeats 4000000 in
theorem refEye_own (n : Nat) (hn : 1 ≤ n ∧ n ≤ 12) (w : World) :
  Calls Tryz.prog 121 #[.int .i64 n] w fun e w' => DocB n n (n * n) (diagZ oneZ n) 0 (Kp w) w e w' := by
 have h0 : 1 ≤ (n : Int) := by omega
 have h1 : (n : Int) ≤ 12 := by omega
 have n6 : n ≤ 1000000 := by omega
 have MK := make_ints n n6
 have HN := hide hn
 obtain ⟨nn, hnn⟩ : ∃ nn, n * n = nn := ⟨_, rfl⟩
 rw [hnn]
 have EN := hide hnn
 clear hnn
 have ST : Hid (EyI w n 0 ((w.alloc (.cells #[.int .i64 0, .int .i64 0, .slice none 0 0] 38)).alloc (.cells (ints n (fun _ => 0)) 3))) := by
  refine ⟨Blk.grown (Blk.new w _ _) ((Grown.refl _).alloc _ _), ?_, ((Kp.refl _).alloc _ _).alloc _ _⟩
  rw [ints_congr n (fun i => if i < 0 then 4294967296 else 0) (fun _ => 0) (fun i _ => if_neg (Nat.not_lt_zero _))]
  exact blk_new2 w _ _ _
 clear hn
 go_enter Tryz.func121, Tryz.ntmps121
 go_wp2_with fail
 generalize ((w.alloc (.cells #[.int .i64 0, .int .i64 0, .slice none 0 0] 38)).alloc (.cells (ints n (fun _ => 0)) 3)) = w1 at *
 clear MK
 go_loopw [5] (fun i wr => ∃ k : Nat, k ≤ n ∧ i = .int .i64 k ∧ Hid (EyI w n k wr)) (fun i _ => n - (intOf i).toNat)
 case atStart => exact ⟨0, Nat.zero_le _, rfl, unhide ST⟩
 case round =>
  obtain ⟨k, hk, rfl, HI⟩ := hrel
  clear ST
  by_cases hlt : k < n
  ·obtain ⟨y, hc3⟩ : ∃ y, wr.cell? ⟨w.heap.size + 1, k, none⟩ = some (.int .i64 y) := ⟨_, by rw [Blk.cell (unhide HI).2.1, ints_at n _ k hlt]⟩
   have hfz : wr.frozen? ⟨w.heap.size + 1, k, none⟩ = false := Blk.free (unhide HI).2.1 k
   have HP : Hid (EyI w n (k + 1) (wr.setCell ⟨w.heap.size + 1, k, none⟩ (.int .i64 4294967296))) := EyI.set (unhide HI)
   have i0 : (0 : Int) ≤ (k : Int) := by omega
   have i1 : (k : Int) < (n : Int) := by omega
   have hk1 : k ≤ 1000000 := by omega
   have B4 : Hid (k + 1 ≤ n) := hlt
   clear HI
   go_wp2
   go_roundw
   case rel => exact ⟨k + 1, unhide B4, by go_num, HP⟩
   case measure => have := unhide B4; simp [intOf]; omega
  ·obtain rfl : k = n := by omega
   have row : Row wr (some ⟨w.heap.size + 1, 0, none⟩) k oneZ := by
    have b1 := (unhide HI).2.1
    rw [ints_congr k (fun i => if i < k then 4294967296 else 0) oneZ (fun i hi => if_pos hi)] at b1
    exact Blk.row b1
   have DG0 := refDiag_own k k (some ⟨w.heap.size + 1, 0, none⟩) oneZ (unhide HN) wr row
   rw [unhide EN] at DG0
   have DG := hide DG0
   clear row DG0
   go_wp2_with fail
   refine (unhide DG).mono ?_
   rintro e w3 ⟨Bq, cap2, rfl, g1, g3, g4, kk⟩
   have b0 := Blk.kp (unhide HI).1 kk
   have hw : w.heap.size < wr.heap.size := Blk.lt (unhide HI).1
   have k3 : Kp w w3 := (unhide HI).2.2.trans kk
   have e0 : w3.cell? ⟨w.heap.size, 0, none⟩ = some (.int .i64 0) := Blk.cell b0 0
   have e1 : w3.cell? ⟨w.heap.size, 1, none⟩ = some (.int .i64 0) := Blk.cell b0 1
   have e2 : w3.cell? ⟨w.heap.size, 2, none⟩ = some (.slice none 0 0) := Blk.cell b0 2
   have f := Blk.free b0
   have R6 := hide (And.intro b0 (And.intro g1 (And.intro g3 (And.intro g4 (And.intro k3 hw)))))
   clear b0 kk k3 HI g1 g3 g4 hw DG
   go_wp2
   obtain ⟨b0, g1, g3, g4, k3, hw⟩ := unhide R6
   have P := putM b0 (.int .i64 k) (.int .i64 k) (.slice (some ⟨Bq, 0, none⟩) nn cap2)
   generalize (((w3.setCell ⟨w.heap.size, 0, none⟩ (.int .i64 k)).setCell ⟨w.heap.size, 1, none⟩ (.int .i64 k)).setCell ⟨w.heap.size, 2, none⟩ (.slice (some ⟨Bq, 0, none⟩) nn cap2)) = wE at *
   have c0 : wE.cell? ⟨w.heap.size, 0, none⟩ = some (.int .i64 k) := Blk.cell P.1 0
   have c1 : wE.cell? ⟨w.heap.size, 1, none⟩ = some (.int .i64 k) := Blk.cell P.1 1
   have c2 : wE.cell? ⟨w.heap.size, 2, none⟩ = some (.slice (some ⟨Bq, 0, none⟩) nn cap2) := Blk.cell P.1 2
   refine bodyPost_ret (v := .tuple #[.agg #[.int .i64 k, .int .i64 k, .slice (some ⟨Bq, 0, none⟩) nn cap2], .int .i64 0]) (by simp [results, Tryz.results121, go_sem, c0, c1, c2]) rfl ?_
   exact (show DocB _ _ _ _ _ _ _ _ _ from ⟨_, _, rfl, g1, by omega, g4.mk (Mk.of P.2) (by omega), k3.mod P.2 (Nat.le_refl _)⟩)
end Go.Proofs.YtjobgjcfkomhpaaGreat
namespace Go.Proofs.YtjobgjcfkomhpaaGreat
open Go.RowKit Go.Shelf Go.Proofs.Wd
set_option maxRecDepth 10000
def blkM (x : MV) : Nat := (x.ao.map fun a => a.block).getD 0
def DTx (n nn : Nat) (A : Nat → Int) (i B cp : Nat) : MV := ⟨n, n, some ⟨B, 0, none⟩, nn, cp, termZ A n i⟩
def DTl (base n nn : Nat) (A : Nat → Int) (v : Value) (l : List MV) (W : World) : Prop :=
 MLs W base v l ∧ ∀ i x, l[i]? = some x → ∃ B cp, x = DTx n nn A i B cp ∧ nn ≤ cp ∧ base ≤ B ∧ Own B nn (termZ A n i) W
section
variable {base n nn : Nat} {A : Nat → Int} {v v' : Value} {l : List MV} {W W' : World}
theorem DTl.kp (h : DTl base n nn A v l W) (k : Kp W W') : DTl base n nn A v l W' :=
 ⟨h.1.kp k, fun i x hx => let ⟨B, cp, e, h1, h2, cur, h3, h4⟩ := h.2 i x hx; ⟨B, cp, e, h1, h2, cur, Blk.kp h3 k, h4⟩⟩
theorem DTl.own_ge (h : DTl base n nn A v l W) : ∀ g, v.ownBlock = some g → base ≤ g ∧ ∃ cur, Blk g cur 38 W := fun g e => by
 rcases h.1.2 with ⟨e2, _⟩ | ⟨g', cap, cur, rfl, hb, hg, r⟩
 ·rw [e2] at e
  cases e
 ·cases e
  exact ⟨hb, cur, hg⟩
theorem DTl.mod {b : Nat} (h : DTl base n nn A v l W) (m : Mod b W W') (hv : ∀ g, v.ownBlock = some g → g ≠ b) (ho : ∀ x ∈ l, blkM x ≠ b) : DTl base n nn A v l W' :=
 ⟨h.1.blk fun g cs e _ hb => Blk.keep hb m (hv g e), fun i x hx => by
  obtain ⟨B, cp, rfl, h1, h2, cur, h3, h4⟩ := h.2 i x hx
  exact ⟨B, cp, rfl, h1, h2, cur, Blk.keep h3 m (ho _ (List.mem_of_getElem? hx)), h4⟩⟩
theorem DTl.unit {b : Nat} (h : DTl base n nn A v l W) (m : Mod b W W') (hb : b < base) : DTl base n nn A v l W' :=
 h.mod m (fun g e => by have := (h.own_ge g e).1; omega) (fun x hx => by
  obtain ⟨i, hi⟩ := List.getElem?_of_mem hx
  obtain ⟨B, cp, rfl, h1, h2, h3⟩ := h.2 i x hi
  show B ≠ b
  omega)
theorem DTl.mk {b : Nat} (h : DTl base n nn A v l W) (m : Mk b W W') (hb : b < base) : DTl base n nn A v l W' :=
 ⟨h.1.blk fun g cs e hge hbk => Blk.mk hbk m (by omega), fun i x hx => by
  obtain ⟨B, cp, rfl, h1, h2, cur, h3, h4⟩ := h.2 i x hx
  exact ⟨B, cp, rfl, h1, h2, cur, Blk.mk h3 m (by omega), h4⟩⟩
theorem DTl.far {b : Nat} (h : DTl base n nn A v l W) (hb : W.heap.size ≤ b) : ∀ x ∈ l, blkM x ≠ b := fun x hx => by
 obtain ⟨i, hi⟩ := List.getElem?_of_mem hx
 obtain ⟨B, cp, rfl, h1, h2, h3⟩ := h.2 i x hi
 obtain ⟨cur, q1, _⟩ := h3
 have := Blk.lt q1
 show B ≠ b
 omega
theorem DTl.app {wa w4 : World} {B cp k : Nat} (h : DTl base n nn A v l wa) (hk : l.length = k) (hB : base ≤ B) (hcp : nn ≤ cp) (ho : Own B nn (termZ A n k) wa)
  (hown : w4.ownsRow base 38 3 v' (k + 1) (flat l ++ (DTx n nn A k B cp).cells.toList)) (hg : wa.grownBy w4 v.ownBlock) : DTl base n nn A v' (l ++ [DTx n nn A k B cp]) w4 := by
 have keep : ∀ b Z, Own b nn Z wa → Own b nn Z w4 := fun b Z ⟨cur, h1, h2⟩ => ⟨cur, Blk.by h1 hg (fun e => by
  obtain ⟨_, cur2, hb⟩ := h.own_ge b e.symm
  exact blk_ne h1 hb (by decide +kernel) rfl), h2⟩
 refine ⟨?_, fun i x hx => ?_⟩
 ·unfold MLs
  rw [flat_snoc, List.length_append, hk]
  exact hown
 ·rw [List.getElem?_append] at hx
  split at hx
  ·obtain ⟨B', cp', e, a1, a2, a3⟩ := h.2 i x hx
   exact ⟨B', cp', e, a1, a2, keep _ _ a3⟩
  ·rename_i hi
   have : i = l.length := by
    rcases Nat.lt_or_ge (i - l.length) 1 with h1 | h1
    ·omega
    ·rw [List.getElem?_eq_none (by simpa using h1)] at hx; cases hx
   subst this
   rw [Nat.sub_self] at hx
   cases hx
   rw [hk]
   exact ⟨B, cp, rfl, hcp, hB, keep _ _ ho⟩
end
theorem MLs.openL {base n : Nat} {v : Value} {l : List MV} {W : World} (h : MLs W base v l) (hl : l.length = n) (hn : 1 ≤ n) : ∃ g c, v = .slice (some ⟨g, 0, none⟩) n c ∧ n ≤ c ∧ base ≤ g ∧ ∀ i x, l[i]? = some x → W.cell? ⟨g, i * 3, none⟩ = some (.int .i64 x.R) ∧ W.cell? ⟨g, i * 3 + 1, none⟩ = some (.int .i64 x.C) ∧ W.cell? ⟨g, i * 3 + 2, none⟩ = some (.slice x.ao x.len x.cap) := by
 obtain ⟨ao, cap, e, hM, hc, _⟩ := h.mats
 rcases h.2 with ⟨e2, e3⟩ | ⟨g', cap', cur, e2, hb, hg, r⟩
 ·have : l.length = 0 := by simpa using e3
  omega
 ·rw [e2] at e
  cases e
  refine ⟨g', cap, by rw [e2, hl], by omega, hb, fun i x hx => ?_⟩
  obtain ⟨b, o, e, c0, c1, c2⟩ := hM.at (k := i) (List.getElem?_eq_some_iff.1 hx).1
  cases e
  rw [ixM_at hx, Nat.zero_add] at c0 c1 c2
  exact ⟨c0, c1, c2⟩
theorem mls_one {w : World} {b base : Nat} (x : MV) (h : Blk b x.cells 38 w) (hb : base ≤ b) : MLs w base (.slice (some ⟨b, 0, none⟩) 1 1) [x] := by
 unfold MLs
 refine ⟨?_, Or.inr ⟨b, 1, x.cells, rfl, hb, h, Nat.le_refl _, by decide, rfl, ?_⟩⟩
 ·rw [flat_len]
 ·show List.take (1 * 3) x.cells.toList = flat [x]
  simp [flat, MV.cells]
def DTermP (R n nn : Nat) (c : Bool) (n0 : Int) (A : Nat → Int) (k : Nat) (w : World) (e : Ending) (w' : World) : Prop :=
 ∃ (v : Value) (l : List MV), e = .returned (.tuple #[v, .int .i64 0]) ∧ l.length = k + 1 ∧ DTl w.heap.size n nn A v l w' ∧ (∃ m, n0 ≤ m ∧ m ≤ n0 + 100000 ∧ RC R (c || termC A n k) m w') ∧ Mk R w w'
def DTo (w : World) (R n nn b o cap : Nat) (A : Nat → Int) (c0 : Bool) (n0 : Int) (m : Nat) (v : Value) (wr : World) : Prop :=
 ∃ (l : List MV), l.length = m ∧ DTl (w.heap.size + 1) n nn A v l wr ∧ (∃ q, n0 ≤ q ∧ q ≤ n0 + (m : Int) * 4000 ∧ RC R (c0 || termC A n (m - 1)) q wr) ∧ Mk R w wr ∧ Blk w.heap.size #[.int .i64 n, .int .i64 n, .slice (some ⟨b, o, none⟩) nn cap] 38 wr
theorem two_G {P : Program} {ops : Array Oper} {Q : Exit → Act → World → Prop} {md : Region.Mode} {S : World → Prop} {g i j fuel : Nat} {listed : Array Bool} {a : Act} {w : World} (hr : Region.ready md ops listed = [i, j])
  (hi : ∀ K : Act → World → Prop, (∀ a' w', (i ≠ g → S w') → wpAnyG P md ops (NoPanic Q) S g fuel (listed.setIfInBounds i true) a' w' → K a' w') → wpOp P ops (NoPanic Q) i K a w)
  (hj : ∀ K : Act → World → Prop, (∀ a' w', (j ≠ g → S w') → wpAnyG P md ops (NoPanic Q) S g fuel (listed.setIfInBounds j true) a' w' → K a' w') → wpOp P ops (NoPanic Q) j K a w) : wpAnyG P md ops (NoPanic Q) S g (fuel + 1) listed a w :=
 ⟨fun h0 => by (rw [hr] at h0; cases h0), fun m hm => by
  rw [hr] at hm
  rcases List.mem_cons.1 hm with rfl | hm
  ·exact hi _ (fun a' w' h1 h2 => ⟨h1, h2⟩)
  ·cases List.mem_singleton.1 hm
   exact hj _ (fun a' w' h1 h2 => ⟨h1, h2⟩)⟩
def DIn (w : World) (R n nn b o cap : Nat) (A : Nat → Int) (c0 : Bool) (n0 : Int) (q : Nat) (v : Value) (Xb Bx cx j : Nat) (wr : World) : Prop :=
 (∃ l : List MV, l.length = q + 1 ∧ DTl (w.heap.size + 1) n nn A v l wr ∧ (∀ x ∈ l, blkM x ≠ Bx) ∧ (∀ g, v.ownBlock = some g → g ≠ Xb)) ∧ Own Bx nn (mixZ (mulZ (termZ A n q) A n n) (q + 1) j) wr ∧ nn ≤ cx ∧ w.heap.size < Bx ∧ w.heap.size < Xb ∧
  Blk Xb #[.int .i64 n, .int .i64 n, .slice (some ⟨Bx, 0, none⟩) nn cx] 38 wr ∧ Blk w.heap.size #[.int .i64 n, .int .i64 n, .slice (some ⟨b, o, none⟩) nn cap] 38 wr ∧
  (∃ z, n0 ≤ z ∧ z ≤ n0 + ((q + 1 : Nat) : Int) * 4000 + 3500 + 2 * j ∧ RC R (c0 || termC A n q || orC (mulG (termZ A n q) A n n) nn || orC (dvG (mulZ (termZ A n q) A n n) (q + 1)) j) z wr) ∧ Mk R w wr
theorem Own.kpA {B len : Nat} {Z : Nat → Int} {w w' : World} (h : Own B len Z w) (k : Kp w w') : Own B len Z w' := let ⟨cur, h1, h2⟩ := h; ⟨cur, Blk.kp h1 k, h2⟩
theorem Own.ltA {B len : Nat} {Z : Nat → Int} {w : World} (h : Own B len Z w) : B < w.heap.size := let ⟨_, h1, _⟩ := h; Blk.lt h1
theorem DIn.start {w wr wM : World} {R n nn b o cap q Xb Bx cx : Nat} {A : Nat → Int} {c0 : Bool} {n0 cnt : Int} {v : Value} {l : List MV} (hN : (1 ≤ n ∧ n ≤ 12) ∧ nn ≤ 144) (hR : R < w.heap.size)
  (h : l.length = q + 1 ∧ DTl (w.heap.size + 1) n nn A v l wr ∧ n0 ≤ cnt ∧ cnt ≤ n0 + ((q + 1 : Nat) : Int) * 4000 ∧ RC R (c0 || termC A n (q + 1 - 1)) cnt wr ∧ Mk R w wr ∧ Blk w.heap.size #[.int .i64 n, .int .i64 n, .slice (some ⟨b, o, none⟩) nn cap] 38 wr)
  (m : Mk R wr wM) (hX : Blk Xb #[.int .i64 0, .int .i64 0, .slice none 0 0] 38 wM) (hXb : wr.heap.size ≤ Xb) (hBx : wr.heap.size ≤ Bx) (hcx : nn ≤ cx) (ho : Own Bx nn (mulZ (termZ A n q) A n n) wM) (hu : RC R (c0 || termC A n q || orC (mulG (termZ A n q) A n n) nn) (cnt + 2 * (n : Int) * (nn : Int)) wM) :
  DIn w R n nn b o cap A c0 n0 q v Xb Bx cx 0 (((wM.setCell ⟨Xb, 0, none⟩ (.int .i64 n)).setCell ⟨Xb, 1, none⟩ (.int .i64 n)).setCell ⟨Xb, 2, none⟩ (.slice (some ⟨Bx, 0, none⟩) nn cx)) := by
 obtain ⟨h1, h2, h3, h4, h5, h6, h7⟩ := h
 have P := putM hX (.int .i64 n) (.int .i64 n) (.slice (some ⟨Bx, 0, none⟩) nn cx)
 have lw := Blk.lt h7
 have dl := h2.mk m (by omega : R < w.heap.size + 1)
 have vX : ∀ g, v.ownBlock = some g → g ≠ Xb := fun g e => by
  obtain ⟨_, cur, hg⟩ := h2.own_ge g e
  have := Blk.lt hg
  omega
 have fX : ∀ x ∈ l, blkM x ≠ Xb := h2.far hXb
 have bX : Bx ≠ Xb := by
  obtain ⟨cur, o1, _⟩ := ho
  exact blk_ne o1 hX (by decide +kernel)
 have kb : (n : Int) * (nn : Int) ≤ 12 * 144 := Int.mul_le_mul (by omega) (by omega) (by omega) (by omega)
 have kb0 : 0 ≤ (n : Int) * (nn : Int) := Int.mul_nonneg (by omega) (by omega)
 have kq : 2 * (n : Int) * (nn : Int) = 2 * ((n : Int) * (nn : Int)) := Int.mul_assoc _ _ _
 refine ⟨⟨l, h1, dl.mod P.2 vX fX, h2.far hBx, vX⟩, ?_, hcx, by omega, by omega, P.1, Blk.keep (Blk.mk h7 m (by omega)) P.2 (by omega), ⟨cnt + 2 * (n : Int) * (nn : Int), ?_, ?_, ?_⟩, (h6.trans m).new P.2 (by omega)⟩
 ·obtain ⟨cur, o1, o2⟩ := ho
  exact ⟨cur, Blk.keep o1 P.2 bX, fun i hi => by rw [o2 i hi]; simp [mixZ]⟩
 ·rw [kq]; omega
 ·rw [kq]; omega
 ·show RC R (_ || false) _ _
  rw [Bool.or_false]
  exact Blk.keep hu P.2 (by omega)
theorem DTo.step {w wr w4 : World} {R n nn b o cap q Bx cx : Nat} {A : Nat → Int} {c0 : Bool} {n0 z : Int} {v v' : Value} {l : List MV} (hnn : n * n = nn) (hn144 : nn ≤ 144) (hR : R < w.heap.size)
  (h : l.length = q + 1 ∧ DTl (w.heap.size + 1) n nn A v l wr) (ho : Own Bx nn (mixZ (mulZ (termZ A n q) A n n) (q + 1) nn) wr) (hcx : nn ≤ cx) (hB : w.heap.size < Bx) (hab : Blk w.heap.size #[.int .i64 n, .int .i64 n, .slice (some ⟨b, o, none⟩) nn cap] 38 wr)
  (hz : n0 ≤ z ∧ z ≤ n0 + ((q + 1 : Nat) : Int) * 4000 + 3500 + 2 * nn ∧ RC R (c0 || termC A n q || orC (mulG (termZ A n q) A n n) nn || orC (dvG (mulZ (termZ A n q) A n n) (q + 1)) nn) z wr) (hm : Mk R w wr)
  (hown : w4.ownsRow (w.heap.size + 1) 38 3 v' (q + 1 + 1) (flat l ++ (DTx n nn A (q + 1) Bx cx).cells.toList)) (hg : (wr.alloc (.cells (DTx n nn A (q + 1) Bx cx).cells 38)).grownBy w4 v.ownBlock) : DTo w R n nn b o cap A c0 n0 (q + 1 + 1) v' w4 := by
 have ga : Grown wr (wr.alloc (.cells (DTx n nn A (q + 1) Bx cx).cells 38)) := (Grown.refl _).alloc _ _
 have own : Own Bx nn (termZ A n (q + 1)) (wr.alloc (.cells (DTx n nn A (q + 1) Bx cx).cells 38)) := by
  obtain ⟨cur, o1, o2⟩ := ho
  exact ⟨cur, Blk.grown o1 ga, fun i hi => by rw [o2 i hi]; simp only [mixZ, if_pos hi]; rfl⟩
 have far : ∀ g, v.ownBlock = some g → w.heap.size + 1 ≤ g := fun g e => (h.2.own_ge g e).1
 refine ⟨l ++ [DTx n nn A (q + 1) Bx cx], by rw [List.length_append, h.1]; rfl, (h.2.kp (Kp.of ga)).app h.1 hB hcx own hown hg, ⟨z, hz.1, by omega, ?_⟩, (hm.trans (Mk.kp (Kp.of ga))).by hg (fun i e => by have := far i e; omega), Blk.by (Blk.grown hab ga) hg (fun e => by have := far _ e.symm; omega)⟩
 show RC R (c0 || (termC A n q || orC (mulG (termZ A n q) A n n) (n * n) || orC (dvG (mulZ (termZ A n q) A n n) (q + 1)) (n * n))) z w4
 rw [hnn, ← Bool.or_assoc, ← Bool.or_assoc]
 exact Blk.by (Blk.grown hz.2.2 ga) hg (fun e => by have := far _ e.symm; omega)
theorem castS (q : Nat) : ((q + 1 : Nat) : Int) = (q : Int) + 1 := by omega
theorem DIn.put {w wr w7 : World} {R n nn b o cap q Xb Bx cx j : Nat} {A : Nat → Int} {c0 wc dc : Bool} {n0 z y : Int} {v : Value} (h : DIn w R n nn b o cap A c0 n0 q v Xb Bx cx j wr) (hR : R < w.heap.size) (m : Mod R wr w7) (h1 : n0 ≤ z) (h2 : z ≤ n0 + ((q + 1 : Nat) : Int) * 4000 + 3500 + 2 * j)
  (u : RC R (c0 || termC A n q || orC (mulG (termZ A n q) A n n) nn || orC (dvG (mulZ (termZ A n q) A n n) (q + 1)) j || wc || dc) (z + 1 + 1) w7) (e2 : orC (dvG (mulZ (termZ A n q) A n n) (q + 1)) (j + 1) = (orC (dvG (mulZ (termZ A n q) A n n) (q + 1)) j || (wc || dc))) (e1 : y = dvZ (mulZ (termZ A n q) A n n) (q + 1) j) (hj : j < nn) :
  DIn w R n nn b o cap A c0 n0 q v Xb Bx cx (j + 1) (w7.setCell ⟨Bx, j, none⟩ (.int .i64 y)) ∧ w7.frozen? ⟨Bx, j, none⟩ = false := by
 obtain ⟨⟨l, a1, a2, a3, a4⟩, a5, a6, a7, a8, a9, a10, _, a12⟩ := h
 have dl := a2.unit m (by omega : R < w.heap.size + 1)
 have s : Mod Bx w7 (w7.setCell ⟨Bx, j, none⟩ (.int .i64 y)) := (Mod.refl _ _).setCell _ _
 have o7 : Own Bx nn (mixZ (mulZ (termZ A n q) A n n) (q + 1) j) w7 := a5.mk (Mk.of m) (by omega)
 obtain ⟨cur, p1, p2⟩ := o7
 have vB : ∀ g, v.ownBlock = some g → g ≠ Bx := fun g e => by
  obtain ⟨_, cur2, hg⟩ := dl.own_ge g e
  exact (blk_ne p1 hg (by decide +kernel)).symm
 have XB : Xb ≠ Bx := (blk_ne p1 (Blk.keep a9 m (by omega)) (by decide +kernel)).symm
 refine ⟨⟨⟨l, a1, dl.mod s vB a3, a3, a4⟩, ?_, a6, a7, a8, Blk.keep (Blk.keep a9 m (by omega)) s XB, Blk.keep (Blk.keep a10 m (by omega)) s (by omega), ⟨z + 1 + 1, by omega, by omega, ?_⟩, (a12.trans (Mk.of m)).new s (by omega)⟩, Blk.free p1 j⟩
 ·refine ⟨_, Blk.set p1 j _, fun i hi => ?_⟩
  rw [Array.getElem?_setIfInBounds]
  by_cases e : j = i
  ·subst e
   have : j < cur.size := by
    have := p2 j hj
    rcases Nat.lt_or_ge j cur.size with h | h
    ·exact h
    ·rw [Array.getElem?_eq_none (by omega)] at this; cases this
   simp [this, mixZ, e1]
  ·rw [if_neg e, p2 i hi]
   unfold mixZ
   by_cases h3 : i < j
   ·rw [if_pos h3, if_pos (by omega)]
   ·rw [if_neg h3, if_neg (by omega)]
 ·rw [e2, ← Bool.or_assoc, ← Bool.or_assoc]
  exact Blk.keep u s (by omega)
theorem wqA (q : Nat) (h : q ≤ 24) : wrap64 (((q + 1 : Nat) : Int) - 1) = (q : Int) := by unfold wrap64; omega
theorem wqB (q : Nat) (h : q ≤ 24) : IntKind.i64.wrap (((q + 1 : Nat) : Int) - 1) = (q : Int) := by rw [IntKind.wrap_i64]; omega
theorem wqC (q : Nat) (h : q ≤ 24) : IntKind.i64.wrap (q : Int) = (q : Int) := by rw [IntKind.wrap_i64]; omega
theorem wqD (q : Nat) (h : q ≤ 24) : wrap64 (q : Int) = (q : Int) := by unfold wrap64; omega
set_option maxRecDepth 50000 in
set_option maxHeartbeats 8000000 in
theorem pRefTerms_ok (R n nn b o cap k : Nat) (c0 : Bool) (n0 : Int) (hn0 : 0 ≤ n0 ∧ n0 < 1000000000000000000) (A : Nat → Int) (hn : 1 ≤ n ∧ n ≤ 12) (hnn : n * n = nn) (hk : k ≤ 24) (hcap : nn ≤ cap) (hA : ∀ j, j < nn → I64 (A j)) (w : World) (h : RC R c0 n0 w) (za : ∀ j, j < nn → w.cell? ⟨b, o + j, none⟩ = some (.int .i64 (A j))) (hb : b ≠ R) :
  Calls Tryz.prog 86 #[.pointer (some ⟨R, 0, none⟩), .agg #[.int .i64 n, .int .i64 n, .slice (some ⟨b, o, none⟩) nn cap], .int .i64 k] w fun e w' => DTermP R n nn c0 n0 A k w e w' := by
 have SQ := hide (fun w => pRefSquare n n (some ⟨b, o, none⟩) nn cap w)
 rw [← hnn, sqB_yes (sqA_of hn), hnn] at SQ
 have k2 := mul12n n n hn hn
 rw [hnn] at k2
 have lR := Blk.lt h
 have lb : b < w.heap.size := heap_gt (za 0 (by omega))
 have G1 : Hid (Grown w (w.alloc (.cells #[.int .i64 n, .int .i64 n, .slice (some ⟨b, o, none⟩) nn cap] 38)) ∧ Blk w.heap.size #[.int .i64 n, .int .i64 n, .slice (some ⟨b, o, none⟩) nn cap] 38 (w.alloc (.cells #[.int .i64 n, .int .i64 n, .slice (some ⟨b, o, none⟩) nn cap] 38))) := ⟨(Grown.refl _).alloc _ _, Blk.new w _ _⟩
 have EY := hide (fun w => refEye_own n hn w)
 rw [hnn] at EY
 have d24 : decide ((24 : Int) < (k : Int)) = false := decide_eq_false (by omega)
 have d0 : decide ((k : Int) < 0) = false := decide_eq_false (by omega)
 have HH := hide (And.intro h (And.intro lR (And.intro za (And.intro hb lb))))
 have HN := hide (And.intro hn (And.intro hn0 (And.intro k2 (And.intro hcap hk))))
 have HA := hide hA
 have NN := hide hnn
 clear h lR za hb lb hn hn0 k2 hcap hA hnn hk
 go_enter Tryz.func86, Tryz.ntmps86
 go_wp2_with fail
 generalize w.alloc (.cells #[.int .i64 n, .int .i64 n, .slice (some ⟨b, o, none⟩) nn cap] 38) = w1 at *
 refine (unhide SQ _).mono ?_
 rintro e w2 ⟨rfl, g2⟩
 have G2 : Hid (Grown w w2 ∧ Blk w.heap.size #[.int .i64 n, .int .i64 n, .slice (some ⟨b, o, none⟩) nn cap] 38 w2) := ⟨gtrans (unhide G1).1 g2, Blk.grown (unhide G1).2 g2⟩
 obtain ⟨x0, x1, x2⟩ : w2.cell? ⟨w.heap.size, 0, none⟩ = some (.int .i64 n) ∧ w2.cell? ⟨w.heap.size, 1, none⟩ = some (.int .i64 n) ∧ w2.cell? ⟨w.heap.size, 2, none⟩ = some (.slice (some ⟨b, o, none⟩) nn cap) := ⟨Blk.cell (unhide G2).2 0, Blk.cell (unhide G2).2 1, Blk.cell (unhide G2).2 2⟩
 clear g2 G1 SQ
 go_wp2_with fail
 refine (unhide EY _).mono ?_
 rintro e w3 ⟨B, cp, rfl, hcp, hB, own, k3⟩
 clear x0 x1 x2 EY
 have k4 : Kp w3 ((w3.alloc (.cells #[.int .i64 n, .int .i64 n, .slice (some ⟨B, 0, none⟩) nn cp] 38)).alloc (.cells #[.int .i64 n, .int .i64 n, .slice (some ⟨B, 0, none⟩) nn cp] 38)) := Kp.of (((Grown.refl _).alloc _ _).alloc _ _)
 have S0 : Hid (DTo w R n nn b o cap A c0 n0 1 (.slice (some ⟨w3.heap.size + 1, 0, none⟩) 1 1) ((w3.alloc (.cells #[.int .i64 n, .int .i64 n, .slice (some ⟨B, 0, none⟩) nn cp] 38)).alloc (.cells #[.int .i64 n, .int .i64 n, .slice (some ⟨B, 0, none⟩) nn cp] 38))) := by
  obtain ⟨hu, lR, za, hb, lb⟩ := unhide HH
  obtain ⟨g2, b2⟩ := unhide G2
  have kk : Kp w ((w3.alloc (.cells #[.int .i64 n, .int .i64 n, .slice (some ⟨B, 0, none⟩) nn cp] 38)).alloc (.cells #[.int .i64 n, .int .i64 n, .slice (some ⟨B, 0, none⟩) nn cp] 38)) := ((Kp.of g2).trans k3).trans k4
  refine ⟨[DTx n nn A 0 B cp], rfl, ⟨mls_one _ (blk_new2 w3 _ _ _) (by have := k3.2.2.2; have := g2.2.2; omega), fun i x hx => ?_⟩, ⟨n0, by omega, by omega, ?_⟩, Mk.kp kk, Blk.kp (Blk.kp b2 k3) k4⟩
  ·rcases i with _ | i
   ·cases hx
    obtain ⟨cur, o1, o2⟩ := own
    exact ⟨B, cp, rfl, hcp, by have := Blk.lt b2; omega, cur, Blk.kp o1 k4, o2⟩
   ·cases hx
  ·show RC R (c0 || false) _ _
   rw [Bool.or_false]
   exact Blk.kp hu kk
 clear hcp hB own k3 k4 G2
 go_wp2_with fail
 go_loopw [10, 11] (fun v i wr => ∃ q : Nat, q ≤ k ∧ i = .int .i64 ((q + 1 : Nat) : Int) ∧ Hid (DTo w R n nn b o cap A c0 n0 (q + 1) v wr)) (fun _ i _ => k + 1 - (intOf i).toNat)
 case atStart => exact ⟨0, Nat.zero_le _, rfl, S0⟩
 case round =>
  obtain ⟨q, hq, rfl, HI⟩ := hrel
  clear S0
  by_cases hlt : q < k
  ·obtain ⟨l, hl, hD, ⟨cnt, q1, q2, hu⟩, hm, hab⟩ := unhide HI
   obtain ⟨g, cg, rfl, hcg, hge, hcell⟩ := hD.1.openL hl (by omega)
   obtain ⟨x, hx⟩ : ∃ x, l[q]? = some x := ⟨_, List.getElem?_eq_getElem (by omega)⟩
   obtain ⟨Bq, cq, rfl, hcq, hBq, hoq⟩ := hD.2 q x hx
   obtain ⟨m0, m1, m2⟩ := hcell q _ hx
   have hN := unhide HN
   have hH := unhide HH
   have MU : Hid (∀ wx, Kp wr wx → Calls Tryz.prog 97 #[.pointer (some ⟨R, 0, none⟩), .agg #[.int .i64 n, .int .i64 n, .slice (some ⟨Bq, 0, none⟩) nn cq], .agg #[.int .i64 n, .int .i64 n, .slice (some ⟨b, o, none⟩) nn cap]] wx fun e w' => DocB n n nn (mulZ (termZ A n q) A n n) 0 (fun w' => RC R (c0 || termC A n q || orC (mulG (termZ A n q) A n n) nn) (cnt + 2 * (n : Int) * (nn : Int)) w' ∧ Mk R wx w') wx e w') := by
    intro wx kx
    have ht := termZ_I64 A n q
    rw [unhide NN] at ht
    have hq2 : Own Bq nn (termZ A n q) wx := by
     obtain ⟨cur, o1, o2⟩ := hoq
     exact ⟨cur, Blk.kp o1 kx, o2⟩
    have za2 : ∀ i, i < nn → wx.cell? ⟨b, o + i, none⟩ = some (.int .i64 (A i)) := fun i hi => kx.cell (hm.cell (hH.2.2.1 i hi) hH.2.2.2.1)
    have := refMul_own R (c0 || termC A n q) cnt ⟨by omega, by omega⟩ n n n nn cq nn cap Bq 0 b o (termZ A n q) A hN.1 hN.1 hN.1 (unhide NN).symm (unhide NN).symm hcq ht (unhide HA) wx (Blk.kp hu kx) (fun i hi => by rw [Nat.zero_add]; exact hq2.cellAt i hi) za2 (by omega) hH.2.2.2.1
    rw [unhide NN] at this
    exact this
   obtain ⟨x0, x1, x2⟩ : wr.cell? ⟨w.heap.size, 0, none⟩ = some (.int .i64 n) ∧ wr.cell? ⟨w.heap.size, 1, none⟩ = some (.int .i64 n) ∧ wr.cell? ⟨w.heap.size, 2, none⟩ = some (.slice (some ⟨b, o, none⟩) nn cap) := ⟨Blk.cell hab 0, Blk.cell hab 1, Blk.cell hab 2⟩
   have j0 : (0 : Int) ≤ (q : Int) := Int.natCast_nonneg _
   have j1 : (q : Int) < ((q + 1 : Nat) : Int) := by omega
   have j3 : q < q + 1 := Nat.lt_succ_self q
   have q24 : q ≤ 24 := by omega
   have hRne : wr.heap.size ≠ R := by have := hm.2.2.2; omega
   have hRa : w.heap.size ≠ R := by omega
   have hRg : g ≠ R := by omega
   have j4 : ¬ ((q : Int) + 1 ≤ (q : Int)) := by omega
   have S1 := hide (And.intro hl (And.intro hD (And.intro q1 (And.intro q2 (And.intro hu (And.intro hm hab))))))
   have y0 : wr.cell? ⟨g, q * 3, none⟩ = some (.int .i64 n) := m0
   have y1 : wr.cell? ⟨g, q * 3 + 1, none⟩ = some (.int .i64 n) := m1
   have y2 : wr.cell? ⟨g, q * 3 + 2, none⟩ = some (.slice (some ⟨Bq, 0, none⟩) nn cq) := m2
   have gx0 := heap_gt x0
   have gy0 := heap_gt y0
   clear m0 m1 m2 hcell hcg hge hx hcq hBq hoq hN hH hl hD q1 q2 hu hm hab HI
   have wq := wqA q q24
   have wq2 := wqB q q24
   have wq3 := wqC q q24
   have wq4 := wqD q q24
   go_upto_region 10 with fail
   go_cut [12, 13] (fun s12 s13 wx => s13 = .int .i64 0 ∧ ∃ Xb Bx cx, s12 = .pointer (some ⟨Xb, 0, none⟩) ∧ Hid (DIn w R n nn b o cap A c0 n0 q (.slice (some ⟨g, 0, none⟩) (q + 1) cg) Xb Bx cx 0 wx))
   case first =>
    refine region_G (fun w' => w'.cell? ⟨w.heap.size, 0, none⟩ = some (.int .i64 n) ∧ w'.cell? ⟨w.heap.size, 1, none⟩ = some (.int .i64 n) ∧ w'.cell? ⟨w.heap.size, 2, none⟩ = some (.slice (some ⟨b, o, none⟩) nn cap) ∧ w'.cell? ⟨g, q * 3, none⟩ = some (.int .i64 n) ∧ w'.cell? ⟨g, q * 3 + 1, none⟩ = some (.int .i64 n) ∧ w'.cell? ⟨g, q * 3 + 2, none⟩ = some (.slice (some ⟨Bq, 0, none⟩) nn cq)) 13 (by kernel_rfl) ⟨x0, x1, x2, y0, y1, y2⟩ (fun hHeld => ?_)
    refine take_G (i := 0) (d := 38) (v := .pointer (some ⟨R, 0, none⟩)) rfl rfl (by kernel_rfl) (by kernel_rfl) (by kernel_rfl) (by kernel_rfl) (by kernel_rfl) (Or.inl ⟨by rfl, ?_⟩) hHeld ?_
    ·intro wS hSw
     obtain ⟨z0, z1, z2, z3, z4, z5⟩ := hSw
     clear hHeld
     go_simp
    (try simp only [Act.put, List.setIfInBounds_toArray, List.set_cons_zero, List.set_cons_succ])
    refine take_G (i := 1) (d := 39) (v := .slice (some ⟨g, 0, none⟩) (q + 1) cg) rfl rfl (by kernel_rfl) (by kernel_rfl) (by kernel_rfl) (by kernel_rfl) (by kernel_rfl) (Or.inl ⟨by rfl, ?_⟩) hHeld ?_
    ·intro wS hSw
     obtain ⟨z0, z1, z2, z3, z4, z5⟩ := hSw
     clear hHeld
     go_simp
    (try simp only [Act.put, List.setIfInBounds_toArray, List.set_cons_zero, List.set_cons_succ])
    refine take_G (i := 2) (d := 40) (v := .int .i64 ((q + 1 : Nat) : Int)) rfl rfl (by kernel_rfl) (by kernel_rfl) (by kernel_rfl) (by kernel_rfl) (by kernel_rfl) (Or.inl ⟨by rfl, ?_⟩) hHeld ?_
    ·intro wS hSw
     obtain ⟨z0, z1, z2, z3, z4, z5⟩ := hSw
     clear hHeld
     go_simp
    (try simp only [Act.put, List.setIfInBounds_toArray, List.set_cons_zero, List.set_cons_succ])
    refine take_G (i := 3) (d := 41) (v := .int .i64 (q : Int)) rfl rfl (by kernel_rfl) (by kernel_rfl) (by kernel_rfl) (by kernel_rfl) (by kernel_rfl) (Or.inl ⟨by rfl, ?_⟩) hHeld ?_
    ·intro wS hSw
     obtain ⟨z0, z1, z2, z3, z4, z5⟩ := hSw
     clear hHeld
     go_simp
    (try simp only [Act.put, List.setIfInBounds_toArray, List.set_cons_zero, List.set_cons_succ])
    refine take_G (i := 4) (d := 42) (v := .pointer (some ⟨g, q * 3, none⟩)) rfl rfl (by kernel_rfl) (by kernel_rfl) (by kernel_rfl) (by kernel_rfl) (by kernel_rfl) (Or.inl ⟨by rfl, ?_⟩) hHeld ?_
    ·intro wS hSw
     obtain ⟨z0, z1, z2, z3, z4, z5⟩ := hSw
     clear hHeld
     go_simp
    (try simp only [Act.put, List.setIfInBounds_toArray, List.set_cons_zero, List.set_cons_succ])
    refine take_G (i := 5) (d := 43) (v := .agg #[.int .i64 n, .int .i64 n, .slice (some ⟨Bq, 0, none⟩) nn cq]) rfl rfl (by kernel_rfl) (by kernel_rfl) (by kernel_rfl) (by kernel_rfl) (by kernel_rfl) (Or.inl ⟨by rfl, ?_⟩) hHeld ?_
    ·intro wS hSw
     obtain ⟨z0, z1, z2, z3, z4, z5⟩ := hSw
     clear hHeld
     go_simp
    (try simp only [Act.put, List.setIfInBounds_toArray, List.set_cons_zero, List.set_cons_succ])
    refine take_G (i := 6) (d := 44) (v := .agg #[.int .i64 n, .int .i64 n, .slice (some ⟨b, o, none⟩) nn cap]) rfl rfl (by kernel_rfl) (by kernel_rfl) (by kernel_rfl) (by kernel_rfl) (by kernel_rfl) (Or.inl ⟨by rfl, ?_⟩) hHeld ?_
    ·intro wS hSw
     obtain ⟨z0, z1, z2, z3, z4, z5⟩ := hSw
     clear hHeld
     go_simp
    (try simp only [Act.put, List.setIfInBounds_toArray, List.set_cons_zero, List.set_cons_succ])
    refine two_G (i := 7) (j := 11) (by kernel_rfl) (fun K hK => ?_) (fun K hK => ?_)
    ·refine wpOp_of rfl rfl ?_
     unfold Oper.wp
     go_simp
     refine (unhide MU _ (show Kp wr wr.drew from Kp.refl _)).mono ?_
     rintro e w5 ⟨Bx, cx, rfl, hcx, hBx, hox, hu5, hm5⟩
     have hHeld : w5.cell? ⟨w.heap.size, 0, none⟩ = some (.int .i64 n) ∧ w5.cell? ⟨w.heap.size, 1, none⟩ = some (.int .i64 n) ∧ w5.cell? ⟨w.heap.size, 2, none⟩ = some (.slice (some ⟨b, o, none⟩) nn cap) ∧ w5.cell? ⟨g, q * 3, none⟩ = some (.int .i64 n) ∧ w5.cell? ⟨g, q * 3 + 1, none⟩ = some (.int .i64 n) ∧ w5.cell? ⟨g, q * 3 + 2, none⟩ = some (.slice (some ⟨Bq, 0, none⟩) nn cq) := ⟨hm5.cell hHeld.1 hRa, hm5.cell hHeld.2.1 hRa, hm5.cell hHeld.2.2.1 hRa, hm5.cell hHeld.2.2.2.1 hRg, hm5.cell hHeld.2.2.2.2.1 hRg, hm5.cell hHeld.2.2.2.2.2 hRg⟩
     refine hK _ _ (fun _ => hHeld) ?_
     clear hK K
     (try simp only [Act.put, List.setIfInBounds_toArray, List.set_cons_zero, List.set_cons_succ])
     refine take_G (i := 8) (d := 37) (v := .tuple #[.agg #[.int .i64 n, .int .i64 n, .slice (some ⟨Bx, 0, none⟩) nn cx], .int .i64 0]) rfl rfl (by kernel_rfl) (by kernel_rfl) (by kernel_rfl) (by kernel_rfl) (by kernel_rfl) (Or.inl ⟨by rfl, ?_⟩) hHeld ?_
     ·intro wS hSw
      obtain ⟨z0, z1, z2, z3, z4, z5⟩ := hSw
      clear hHeld
      go_simp
     (try simp only [Act.put, List.setIfInBounds_toArray, List.set_cons_zero, List.set_cons_succ])
     refine take_G (i := 9) (d := 46) (v := .agg #[.int .i64 n, .int .i64 n, .slice (some ⟨Bx, 0, none⟩) nn cx]) rfl rfl (by kernel_rfl) (by kernel_rfl) (by kernel_rfl) (by kernel_rfl) (by kernel_rfl) (Or.inl ⟨by rfl, ?_⟩) hHeld ?_
     ·intro wS hSw
      obtain ⟨z0, z1, z2, z3, z4, z5⟩ := hSw
      clear hHeld
      go_simp
     (try simp only [Act.put, List.setIfInBounds_toArray, List.set_cons_zero, List.set_cons_succ])
     refine take_G (i := 10) (d := 47) (v := .int .i64 0) rfl rfl (by kernel_rfl) (by kernel_rfl) (by kernel_rfl) (by kernel_rfl) (by kernel_rfl) (Or.inl ⟨by rfl, ?_⟩) hHeld ?_
     ·intro wS hSw
      obtain ⟨z0, z1, z2, z3, z4, z5⟩ := hSw
      clear hHeld
      go_simp
     (try simp only [Act.put, List.setIfInBounds_toArray, List.set_cons_zero, List.set_cons_succ])
     refine step_G (i := 11) (by kernel_rfl) (fun K hK => ?_)
     refine wpOp_of rfl rfl ?_
     unfold Oper.wp
     go_simp
     have hkA : Kp w5 (w5.alloc (.cells #[.int .i64 0, .int .i64 0, .slice none 0 0] 38)) := (Kp.refl _).alloc _ _
     have hHeld : (w5.alloc (.cells #[.int .i64 0, .int .i64 0, .slice none 0 0] 38)).cell? ⟨w.heap.size, 0, none⟩ = some (.int .i64 n) ∧ (w5.alloc (.cells #[.int .i64 0, .int .i64 0, .slice none 0 0] 38)).cell? ⟨w.heap.size, 1, none⟩ = some (.int .i64 n) ∧ (w5.alloc (.cells #[.int .i64 0, .int .i64 0, .slice none 0 0] 38)).cell? ⟨w.heap.size, 2, none⟩ = some (.slice (some ⟨b, o, none⟩) nn cap) ∧ (w5.alloc (.cells #[.int .i64 0, .int .i64 0, .slice none 0 0] 38)).cell? ⟨g, q * 3, none⟩ = some (.int .i64 n) ∧ (w5.alloc (.cells #[.int .i64 0, .int .i64 0, .slice none 0 0] 38)).cell? ⟨g, q * 3 + 1, none⟩ = some (.int .i64 n) ∧ (w5.alloc (.cells #[.int .i64 0, .int .i64 0, .slice none 0 0] 38)).cell? ⟨g, q * 3 + 2, none⟩ = some (.slice (some ⟨Bq, 0, none⟩) nn cq) := ⟨hkA.cell hHeld.1, hkA.cell hHeld.2.1, hkA.cell hHeld.2.2.1, hkA.cell hHeld.2.2.2.1, hkA.cell hHeld.2.2.2.2.1, hkA.cell hHeld.2.2.2.2.2⟩
     refine hK _ _ (fun _ => hHeld) ?_
     clear hK K
     (try simp only [Act.put, List.setIfInBounds_toArray, List.set_cons_zero, List.set_cons_succ])
     have zb : Blk w5.heap.size #[.int .i64 0, .int .i64 0, .slice none 0 0] 38 (w5.alloc (.cells #[.int .i64 0, .int .i64 0, .slice none 0 0] 38)) := Blk.new w5 _ _
     have DN := DIn.start ⟨(unhide HN).1, (unhide HN).2.2.1.2⟩ (unhide HH).2.1 (unhide S1) ((show Mk R wr w5 from hm5).grown ((Grown.refl w5).alloc _ _)) zb (Nat.le_trans hm5.2.2.2 (Nat.le_refl _)) hBx hcx (Own.kpA hox hkA) (Blk.kp hu5 hkA)
     have z0 : (w5.alloc (.cells #[.int .i64 0, .int .i64 0, .slice none 0 0] 38)).cell? ⟨w5.heap.size, 0, none⟩ = some (.int .i64 0) := Blk.cell zb 0
     have z1 : (w5.alloc (.cells #[.int .i64 0, .int .i64 0, .slice none 0 0] 38)).cell? ⟨w5.heap.size, 1, none⟩ = some (.int .i64 0) := Blk.cell zb 1
     have z2 : (w5.alloc (.cells #[.int .i64 0, .int .i64 0, .slice none 0 0] 38)).cell? ⟨w5.heap.size, 2, none⟩ = some (.slice none 0 0) := Blk.cell zb 2
     have zf := Blk.free zb
     have HZ := hide DN
     have HP := hide (putM zb (.int .i64 n) (.int .i64 n) (.slice (some ⟨Bx, 0, none⟩) nn cx)).2
     have hsz : wr.heap.size ≤ w5.heap.size := hm5.2.2.2
     have hXa : w.heap.size ≠ w5.heap.size := Nat.ne_of_lt (Nat.lt_of_lt_of_le gx0 hsz)
     have hXg : g ≠ w5.heap.size := Nat.ne_of_lt (Nat.lt_of_lt_of_le gy0 hsz)
     clear zb DN hcx hBx hox hu5 hm5 hkA hsz
     generalize (w5.alloc (.cells #[.int .i64 0, .int .i64 0, .slice none 0 0] 38)) = w6 at *
     generalize w5.heap.size = Xb at *
     refine step_G (i := 12) (by kernel_rfl) (fun K hK => ?_)
     refine wpOp_of rfl rfl ?_
     unfold Oper.wp
     go_simp
     clear z0 z1 z2 zf
     generalize (((w6.setCell ⟨Xb, 0, none⟩ (.int .i64 n)).setCell ⟨Xb, 1, none⟩ (.int .i64 n)).setCell ⟨Xb, 2, none⟩ (.slice (some ⟨Bx, 0, none⟩) nn cx)) = w7 at *
     have hHeld : w7.cell? ⟨w.heap.size, 0, none⟩ = some (.int .i64 n) ∧ w7.cell? ⟨w.heap.size, 1, none⟩ = some (.int .i64 n) ∧ w7.cell? ⟨w.heap.size, 2, none⟩ = some (.slice (some ⟨b, o, none⟩) nn cap) ∧ w7.cell? ⟨g, q * 3, none⟩ = some (.int .i64 n) ∧ w7.cell? ⟨g, q * 3 + 1, none⟩ = some (.int .i64 n) ∧ w7.cell? ⟨g, q * 3 + 2, none⟩ = some (.slice (some ⟨Bq, 0, none⟩) nn cq) := ⟨(Mk.of (unhide HP)).cell hHeld.1 hXa, (Mk.of (unhide HP)).cell hHeld.2.1 hXa, (Mk.of (unhide HP)).cell hHeld.2.2.1 hXa, (Mk.of (unhide HP)).cell hHeld.2.2.2.1 hXg, (Mk.of (unhide HP)).cell hHeld.2.2.2.2.1 hXg, (Mk.of (unhide HP)).cell hHeld.2.2.2.2.2 hXg⟩
     refine hK _ _ (fun _ => hHeld) ?_
     clear hK K HP
     (try simp only [Act.put, List.setIfInBounds_toArray, List.set_cons_zero, List.set_cons_succ])
     refine step_G (i := 13) (by kernel_rfl) (fun K hK => ?_)
     refine wpOp_of rfl rfl ?_
     unfold Oper.wp
     go_simp
     refine hK _ _ (fun h => absurd rfl h) ?_
     clear hK K
     (try simp only [Act.put, List.setIfInBounds_toArray, List.set_cons_zero, List.set_cons_succ])
     refine done_G (by kernel_rfl) ?_
     refine noPanic_normalE ?_
     go_wp2_with fail
     go_meet
     exact ⟨rfl, Xb, Bx, cx, rfl, HZ⟩
    ·refine wpOp_of rfl rfl ?_
     unfold Oper.wp
     go_simp
     have hkA : Kp wr (wr.drew.alloc (.cells #[.int .i64 0, .int .i64 0, .slice none 0 0] 38)) := (show Kp wr wr.drew from Kp.refl _).alloc _ _
     have zb0 : Blk wr.heap.size #[.int .i64 0, .int .i64 0, .slice none 0 0] 38 (wr.drew.alloc (.cells #[.int .i64 0, .int .i64 0, .slice none 0 0] 38)) := Blk.new wr.drew _ _
     have hHeld : (wr.drew.alloc (.cells #[.int .i64 0, .int .i64 0, .slice none 0 0] 38)).cell? ⟨w.heap.size, 0, none⟩ = some (.int .i64 n) ∧ (wr.drew.alloc (.cells #[.int .i64 0, .int .i64 0, .slice none 0 0] 38)).cell? ⟨w.heap.size, 1, none⟩ = some (.int .i64 n) ∧ (wr.drew.alloc (.cells #[.int .i64 0, .int .i64 0, .slice none 0 0] 38)).cell? ⟨w.heap.size, 2, none⟩ = some (.slice (some ⟨b, o, none⟩) nn cap) ∧ (wr.drew.alloc (.cells #[.int .i64 0, .int .i64 0, .slice none 0 0] 38)).cell? ⟨g, q * 3, none⟩ = some (.int .i64 n) ∧ (wr.drew.alloc (.cells #[.int .i64 0, .int .i64 0, .slice none 0 0] 38)).cell? ⟨g, q * 3 + 1, none⟩ = some (.int .i64 n) ∧ (wr.drew.alloc (.cells #[.int .i64 0, .int .i64 0, .slice none 0 0] 38)).cell? ⟨g, q * 3 + 2, none⟩ = some (.slice (some ⟨Bq, 0, none⟩) nn cq) := ⟨hkA.cell hHeld.1, hkA.cell hHeld.2.1, hkA.cell hHeld.2.2.1, hkA.cell hHeld.2.2.2.1, hkA.cell hHeld.2.2.2.2.1, hkA.cell hHeld.2.2.2.2.2⟩
     refine hK _ _ (fun _ => hHeld) ?_
     clear hK K
     (try simp only [Act.put, List.setIfInBounds_toArray, List.set_cons_zero, List.set_cons_succ])
     refine step_G (i := 7) (by kernel_rfl) (fun K hK => ?_)
     refine wpOp_of rfl rfl ?_
     unfold Oper.wp
     go_simp
     refine (unhide MU _ (hkA)).mono ?_
     rintro e w5 ⟨Bx, cx, rfl, hcx, hBx, hox, hu5, hm5⟩
     have hHeld : w5.cell? ⟨w.heap.size, 0, none⟩ = some (.int .i64 n) ∧ w5.cell? ⟨w.heap.size, 1, none⟩ = some (.int .i64 n) ∧ w5.cell? ⟨w.heap.size, 2, none⟩ = some (.slice (some ⟨b, o, none⟩) nn cap) ∧ w5.cell? ⟨g, q * 3, none⟩ = some (.int .i64 n) ∧ w5.cell? ⟨g, q * 3 + 1, none⟩ = some (.int .i64 n) ∧ w5.cell? ⟨g, q * 3 + 2, none⟩ = some (.slice (some ⟨Bq, 0, none⟩) nn cq) := ⟨hm5.cell hHeld.1 hRa, hm5.cell hHeld.2.1 hRa, hm5.cell hHeld.2.2.1 hRa, hm5.cell hHeld.2.2.2.1 hRg, hm5.cell hHeld.2.2.2.2.1 hRg, hm5.cell hHeld.2.2.2.2.2 hRg⟩
     refine hK _ _ (fun _ => hHeld) ?_
     clear hK K
     (try simp only [Act.put, List.setIfInBounds_toArray, List.set_cons_zero, List.set_cons_succ])
     refine take_G (i := 8) (d := 37) (v := .tuple #[.agg #[.int .i64 n, .int .i64 n, .slice (some ⟨Bx, 0, none⟩) nn cx], .int .i64 0]) rfl rfl (by kernel_rfl) (by kernel_rfl) (by kernel_rfl) (by kernel_rfl) (by kernel_rfl) (Or.inl ⟨by rfl, ?_⟩) hHeld ?_
     ·intro wS hSw
      obtain ⟨z0, z1, z2, z3, z4, z5⟩ := hSw
      clear hHeld
      go_simp
     (try simp only [Act.put, List.setIfInBounds_toArray, List.set_cons_zero, List.set_cons_succ])
     refine take_G (i := 9) (d := 46) (v := .agg #[.int .i64 n, .int .i64 n, .slice (some ⟨Bx, 0, none⟩) nn cx]) rfl rfl (by kernel_rfl) (by kernel_rfl) (by kernel_rfl) (by kernel_rfl) (by kernel_rfl) (Or.inl ⟨by rfl, ?_⟩) hHeld ?_
     ·intro wS hSw
      obtain ⟨z0, z1, z2, z3, z4, z5⟩ := hSw
      clear hHeld
      go_simp
     (try simp only [Act.put, List.setIfInBounds_toArray, List.set_cons_zero, List.set_cons_succ])
     refine take_G (i := 10) (d := 47) (v := .int .i64 0) rfl rfl (by kernel_rfl) (by kernel_rfl) (by kernel_rfl) (by kernel_rfl) (by kernel_rfl) (Or.inl ⟨by rfl, ?_⟩) hHeld ?_
     ·intro wS hSw
      obtain ⟨z0, z1, z2, z3, z4, z5⟩ := hSw
      clear hHeld
      go_simp
     (try simp only [Act.put, List.setIfInBounds_toArray, List.set_cons_zero, List.set_cons_succ])
     have zb := Blk.mk zb0 hm5 hRne
     have DN := DIn.start ⟨(unhide HN).1, (unhide HN).2.2.1.2⟩ (unhide HH).2.1 (unhide S1) ((Mk.kp hkA).trans hm5) zb (Nat.le_refl _) (Nat.le_trans hkA.2.2.2 hBx) hcx hox hu5
     have z0 : w5.cell? ⟨wr.heap.size, 0, none⟩ = some (.int .i64 0) := Blk.cell zb 0
     have z1 : w5.cell? ⟨wr.heap.size, 1, none⟩ = some (.int .i64 0) := Blk.cell zb 1
     have z2 : w5.cell? ⟨wr.heap.size, 2, none⟩ = some (.slice none 0 0) := Blk.cell zb 2
     have zf := Blk.free zb
     have HZ := hide DN
     have HP := hide (putM zb (.int .i64 n) (.int .i64 n) (.slice (some ⟨Bx, 0, none⟩) nn cx)).2
     have hXa : w.heap.size ≠ wr.heap.size := Nat.ne_of_lt gx0
     have hXg : g ≠ wr.heap.size := Nat.ne_of_lt gy0
     clear zb zb0 DN hcx hBx hox hu5 hm5 hkA
     generalize hXX : wr.heap.size = Xb at *
     refine step_G (i := 12) (by kernel_rfl) (fun K hK => ?_)
     refine wpOp_of rfl rfl ?_
     unfold Oper.wp
     go_simp
     clear z0 z1 z2 zf
     generalize (((w5.setCell ⟨Xb, 0, none⟩ (.int .i64 n)).setCell ⟨Xb, 1, none⟩ (.int .i64 n)).setCell ⟨Xb, 2, none⟩ (.slice (some ⟨Bx, 0, none⟩) nn cx)) = w7 at *
     have hHeld : w7.cell? ⟨w.heap.size, 0, none⟩ = some (.int .i64 n) ∧ w7.cell? ⟨w.heap.size, 1, none⟩ = some (.int .i64 n) ∧ w7.cell? ⟨w.heap.size, 2, none⟩ = some (.slice (some ⟨b, o, none⟩) nn cap) ∧ w7.cell? ⟨g, q * 3, none⟩ = some (.int .i64 n) ∧ w7.cell? ⟨g, q * 3 + 1, none⟩ = some (.int .i64 n) ∧ w7.cell? ⟨g, q * 3 + 2, none⟩ = some (.slice (some ⟨Bq, 0, none⟩) nn cq) := ⟨(Mk.of (unhide HP)).cell hHeld.1 hXa, (Mk.of (unhide HP)).cell hHeld.2.1 hXa, (Mk.of (unhide HP)).cell hHeld.2.2.1 hXa, (Mk.of (unhide HP)).cell hHeld.2.2.2.1 hXg, (Mk.of (unhide HP)).cell hHeld.2.2.2.2.1 hXg, (Mk.of (unhide HP)).cell hHeld.2.2.2.2.2 hXg⟩
     refine hK _ _ (fun _ => hHeld) ?_
     clear hK K HP
     (try simp only [Act.put, List.setIfInBounds_toArray, List.set_cons_zero, List.set_cons_succ])
     refine step_G (i := 13) (by kernel_rfl) (fun K hK => ?_)
     refine wpOp_of rfl rfl ?_
     unfold Oper.wp
     go_simp
     refine hK _ _ (fun h => absurd rfl h) ?_
     clear hK K
     (try simp only [Act.put, List.setIfInBounds_toArray, List.set_cons_zero, List.set_cons_succ])
     refine done_G (by kernel_rfl) ?_
     refine noPanic_normalE ?_
     go_wp2_with fail
     go_meet
     exact ⟨rfl, Xb, Bx, cx, rfl, HZ⟩
   case rest =>
    obtain ⟨rfl, Xb, Bx, cx, rfl, HD⟩ := hcut
    clear MU y0 y1 y2 gx0 gy0 x0 x1 x2 wq wq2 wq3 wq4 j0 j1 j3 j4 hRne hRa hRg
    go_wp2_with fail
    simp only [castS]
    go_loopw [14] (fun i wr => ∃ j : Nat, j ≤ nn ∧ i = .int .i64 j ∧ Hid (DIn w R n nn b o cap A c0 n0 q (.slice (some ⟨g, 0, none⟩) (q + 1) cg) Xb Bx cx j wr)) (fun i _ => nn - (intOf i).toNat)
    case atStart => exact ⟨0, Nat.zero_le _, rfl, HD⟩
    case round =>
     obtain ⟨j, hj, rfl, HJ⟩ := hrel
     clear HD S1
     have y0 := Blk.cell (unhide HJ).2.2.2.2.2.1 2
     have hjn := (unhide HN).2.2.1
     by_cases hlt2 : j < nn
     ·have xk : wr.cell? ⟨Bx, j, none⟩ = some (.int .i64 (mulZ (termZ A n q) A n n j)) := by
       have := (unhide HJ).2.1.cellAt j hlt2
       simpa [mixZ] using this
      have y0 : wr.cell? ⟨Xb, 2, none⟩ = some (.slice (some ⟨Bx, 0, none⟩) nn cx) := y0
      have i0 : (0 : Int) ≤ (j : Int) := Int.natCast_nonneg _
      have i1 : (j : Int) < (nn : Int) := Int.ofNat_lt.2 hlt2
      have j144 : j ≤ 143 := by omega
      obtain ⟨z, zq1, zq2, hz⟩ := (unhide HJ).2.2.2.2.2.2.2.1
      have hN := unhide HN
      have q24' : (q : Int) ≤ 24 := by omega
      have zb : 0 ≤ z ∧ z < 2000000000000000000 := by omega
      have WH := hide (fun C w h => refUWhole R C z ((q : Int) + 1) (by unfold I64; omega) ⟨zb.1, by omega⟩ w h)
      have yI : I64 (mulZ (termZ A n q) A n n j) := mulZ_I64 _ _ _ _ _
      have DV := hide (fun C w h => refUDiv R C (z + 1) (mulZ (termZ A n q) A n n j) (whoN ((q : Int) + 1)) yI (whoN_I64 _) ⟨by omega, by omega⟩ w h)
      have ED : Hid (divN (mulZ (termZ A n q) A n n j) (whoN ((q : Int) + 1)) = dvZ (mulZ (termZ A n q) A n n) (q + 1) j) := by
       show _ = divN _ (whoN ((q + 1 : Nat) : Int))
       rw [castS]
      have EG : Hid (orC (dvG (mulZ (termZ A n q) A n n) (q + 1)) (j + 1) = (orC (dvG (mulZ (termZ A n q) A n n) (q + 1)) j || (whoC ((q : Int) + 1) || divC (mulZ (termZ A n q) A n n j) (whoN ((q : Int) + 1))))) := by
       show (_ || (whoC ((q + 1 : Nat) : Int) || divC _ (whoN ((q + 1 : Nat) : Int)))) = _
       rw [castS]
      have HZ := hide (And.intro zq1 (And.intro zq2 hz))
      have hXR : Xb ≠ R := by have := (unhide HJ).2.2.2.2.1; have := (unhide HH).2.1; omega
      have hBR : Bx ≠ R := by have := (unhide HJ).2.2.2.1; have := (unhide HH).2.1; omega
      generalize whoN ((q : Int) + 1) = wm at *
      generalize whoC ((q : Int) + 1) = wc at *
      generalize hy : mulZ (termZ A n q) A n n j = y at *
      generalize divN y wm = dq at *
      generalize divC y wm = dc at *
      clear hy hN zb zq1 zq2 hz yI hjn q24'
      go_wp2_with fail
      refine region_G (fun w' => w'.cell? ⟨Xb, 2, none⟩ = some (.slice (some ⟨Bx, 0, none⟩) nn cx) ∧ w'.cell? ⟨Bx, j, none⟩ = some (.int .i64 y)) 14 (by kernel_rfl) ⟨y0, xk⟩ (fun hHeld => ?_)
      refine take_G (i := 0) (d := 55) (v := .pointer (some ⟨Xb, 2, none⟩)) rfl rfl (by kernel_rfl) (by kernel_rfl) (by kernel_rfl) (by kernel_rfl) (by kernel_rfl) (Or.inl ⟨by rfl, ?_⟩) hHeld ?_
      ·intro wS hSw
       obtain ⟨z0, z1⟩ := hSw
       clear hHeld
       go_simp
      (try simp only [Act.put, List.setIfInBounds_toArray, List.set_cons_zero, List.set_cons_succ])
      refine take_G (i := 1) (d := 56) (v := .slice (some ⟨Bx, 0, none⟩) nn cx) rfl rfl (by kernel_rfl) (by kernel_rfl) (by kernel_rfl) (by kernel_rfl) (by kernel_rfl) (Or.inl ⟨by rfl, ?_⟩) hHeld ?_
      ·intro wS hSw
       obtain ⟨z0, z1⟩ := hSw
       clear hHeld
       go_simp
      (try simp only [Act.put, List.setIfInBounds_toArray, List.set_cons_zero, List.set_cons_succ])
      refine take_G (i := 2) (d := 57) (v := .int .i64 (j : Int)) rfl rfl (by kernel_rfl) (by kernel_rfl) (by kernel_rfl) (by kernel_rfl) (by kernel_rfl) (Or.inl ⟨by rfl, ?_⟩) hHeld ?_
      ·intro wS hSw
       obtain ⟨z0, z1⟩ := hSw
       clear hHeld
       go_simp
      (try simp only [Act.put, List.setIfInBounds_toArray, List.set_cons_zero, List.set_cons_succ])
      refine take_G (i := 3) (d := 58) (v := .pointer (some ⟨R, 0, none⟩)) rfl rfl (by kernel_rfl) (by kernel_rfl) (by kernel_rfl) (by kernel_rfl) (by kernel_rfl) (Or.inl ⟨by rfl, ?_⟩) hHeld ?_
      ·intro wS hSw
       obtain ⟨z0, z1⟩ := hSw
       clear hHeld
       go_simp
      (try simp only [Act.put, List.setIfInBounds_toArray, List.set_cons_zero, List.set_cons_succ])
      refine take_G (i := 4) (d := 59) (v := .pointer (some ⟨Xb, 2, none⟩)) rfl rfl (by kernel_rfl) (by kernel_rfl) (by kernel_rfl) (by kernel_rfl) (by kernel_rfl) (Or.inl ⟨by rfl, ?_⟩) hHeld ?_
      ·intro wS hSw
       obtain ⟨z0, z1⟩ := hSw
       clear hHeld
       go_simp
      (try simp only [Act.put, List.setIfInBounds_toArray, List.set_cons_zero, List.set_cons_succ])
      refine take_G (i := 5) (d := 60) (v := .slice (some ⟨Bx, 0, none⟩) nn cx) rfl rfl (by kernel_rfl) (by kernel_rfl) (by kernel_rfl) (by kernel_rfl) (by kernel_rfl) (Or.inl ⟨by rfl, ?_⟩) hHeld ?_
      ·intro wS hSw
       obtain ⟨z0, z1⟩ := hSw
       clear hHeld
       go_simp
      (try simp only [Act.put, List.setIfInBounds_toArray, List.set_cons_zero, List.set_cons_succ])
      refine take_G (i := 6) (d := 61) (v := .int .i64 (j : Int)) rfl rfl (by kernel_rfl) (by kernel_rfl) (by kernel_rfl) (by kernel_rfl) (by kernel_rfl) (Or.inl ⟨by rfl, ?_⟩) hHeld ?_
      ·intro wS hSw
       obtain ⟨z0, z1⟩ := hSw
       clear hHeld
       go_simp
      (try simp only [Act.put, List.setIfInBounds_toArray, List.set_cons_zero, List.set_cons_succ])
      refine take_G (i := 7) (d := 62) (v := .pointer (some ⟨Bx, j, none⟩)) rfl rfl (by kernel_rfl) (by kernel_rfl) (by kernel_rfl) (by kernel_rfl) (by kernel_rfl) (Or.inl ⟨by rfl, ?_⟩) hHeld ?_
      ·intro wS hSw
       obtain ⟨z0, z1⟩ := hSw
       clear hHeld
       go_simp
      (try simp only [Act.put, List.setIfInBounds_toArray, List.set_cons_zero, List.set_cons_succ])
      refine take_G (i := 8) (d := 63) (v := .int .i64 y) rfl rfl (by kernel_rfl) (by kernel_rfl) (by kernel_rfl) (by kernel_rfl) (by kernel_rfl) (Or.inl ⟨by rfl, ?_⟩) hHeld ?_
      ·intro wS hSw
       obtain ⟨z0, z1⟩ := hSw
       clear hHeld
       go_simp
      (try simp only [Act.put, List.setIfInBounds_toArray, List.set_cons_zero, List.set_cons_succ])
      refine take_G (i := 9) (d := 64) (v := .pointer (some ⟨R, 0, none⟩)) rfl rfl (by kernel_rfl) (by kernel_rfl) (by kernel_rfl) (by kernel_rfl) (by kernel_rfl) (Or.inl ⟨by rfl, ?_⟩) hHeld ?_
      ·intro wS hSw
       obtain ⟨z0, z1⟩ := hSw
       clear hHeld
       go_simp
      (try simp only [Act.put, List.setIfInBounds_toArray, List.set_cons_zero, List.set_cons_succ])
      refine take_G (i := 10) (d := 65) (v := .int .i64 ((q : Int) + 1)) rfl rfl (by kernel_rfl) (by kernel_rfl) (by kernel_rfl) (by kernel_rfl) (by kernel_rfl) (Or.inl ⟨by rfl, ?_⟩) hHeld ?_
      ·intro wS hSw
       obtain ⟨z0, z1⟩ := hSw
       clear hHeld
       go_simp
      (try simp only [Act.put, List.setIfInBounds_toArray, List.set_cons_zero, List.set_cons_succ])
      refine step_G (i := 11) (by kernel_rfl) (fun K hK => ?_)
      refine wpOp_of rfl rfl ?_
      unfold Oper.wp
      go_simp
      refine (unhide WH _ _ (show RC R _ z wr.drew from (unhide HZ).2.2)).mono ?_
      rintro e w6 ⟨rfl, u6, m6⟩
      have hHeld : w6.cell? ⟨Xb, 2, none⟩ = some (.slice (some ⟨Bx, 0, none⟩) nn cx) ∧ w6.cell? ⟨Bx, j, none⟩ = some (.int .i64 y) := ⟨(Mk.of m6).cell hHeld.1 hXR, (Mk.of m6).cell hHeld.2 hBR⟩
      have S6 := hide (And.intro u6 m6)
      refine hK _ _ (fun _ => hHeld) ?_
      clear hK K u6 m6
      (try simp only [Act.put, List.setIfInBounds_toArray, List.set_cons_zero, List.set_cons_succ])
      refine step_G (i := 12) (by kernel_rfl) (fun K hK => ?_)
      refine wpOp_of rfl rfl ?_
      unfold Oper.wp
      go_simp
      refine (unhide DV _ _ (unhide S6).1).mono ?_
      rintro e w7 ⟨rfl, u7, m7⟩
      have hHeld : w7.cell? ⟨Xb, 2, none⟩ = some (.slice (some ⟨Bx, 0, none⟩) nn cx) ∧ w7.cell? ⟨Bx, j, none⟩ = some (.int .i64 y) := ⟨(Mk.of m7).cell hHeld.1 hXR, (Mk.of m7).cell hHeld.2 hBR⟩
      have PP := hide (DIn.put (unhide HJ) (unhide HH).2.1 ((show Mod R wr w6 from (unhide S6).2).trans m7) (unhide HZ).1 (unhide HZ).2.1 u7 (unhide EG) (unhide ED) hlt2)
      have f7 : w7.frozen? ⟨Bx, j, none⟩ = false := (unhide PP).2
      have R7 := hide (unhide PP).1
      refine hK _ _ (fun _ => hHeld) ?_
      clear hK K u7 m7 S6 PP
      (try simp only [Act.put, List.setIfInBounds_toArray, List.set_cons_zero, List.set_cons_succ])
      refine take_G (i := 13) (d := 68) (v := .pointer (some ⟨Bx, j, none⟩)) rfl rfl (by kernel_rfl) (by kernel_rfl) (by kernel_rfl) (by kernel_rfl) (by kernel_rfl) (Or.inl ⟨by rfl, ?_⟩) hHeld ?_
      ·intro wS hSw
       obtain ⟨z0, z1⟩ := hSw
       clear hHeld
       go_simp
      (try simp only [Act.put, List.setIfInBounds_toArray, List.set_cons_zero, List.set_cons_succ])
      have x7 := hHeld.2
      clear hHeld
      refine step_G (i := 14) (by kernel_rfl) (fun K hK => ?_)
      refine wpOp_of rfl rfl ?_
      unfold Oper.wp
      go_simp
      refine hK _ _ (fun h => absurd rfl h) ?_
      clear hK K
      (try simp only [Act.put, List.setIfInBounds_toArray, List.set_cons_zero, List.set_cons_succ])
      refine done_G (by kernel_rfl) ?_
      refine noPanic_normalE ?_
      clear WH DV ED EG HJ x7 f7 y0 xk
      go_wp2
      go_roundw
      case rel => exact ⟨j + 1, by omega, by go_num, R7⟩
      case measure => simp [intOf]; omega
     ·obtain rfl : j = nn := by omega
      obtain ⟨⟨l, a1, a2, _, _⟩, a5, a6, a7, _, a9, a10, ⟨z, z1, z2, z3⟩, a12⟩ := unhide HJ
      have y0 : wr.cell? ⟨Xb, 0, none⟩ = some (.int .i64 n) := Blk.cell a9 0
      have y1 : wr.cell? ⟨Xb, 1, none⟩ = some (.int .i64 n) := Blk.cell a9 1
      have y2 : wr.cell? ⟨Xb, 2, none⟩ = some (.slice (some ⟨Bx, 0, none⟩) j cx) := Blk.cell a9 2
      obtain ⟨i0, hi, hz0, hz1, hz2⟩ := info_parts Tryz.infoMat
      have OW : Hid ((wr.alloc (.cells (DTx n j A (q + 1) Bx cx).cells 38)).ownsRow (w.heap.size + 1) 38 3 (.slice (some ⟨g, 0, none⟩) (q + 1) cg) (q + 1) (flat l)) := by
       have := (a2.1.kp (Kp.of ((Grown.refl wr).alloc (DTx n j A (q + 1) Bx cx).cells 38)))
       unfold MLs at this
       rw [a1] at this
       exact this
      have NW := hide (news_mat (w := wr.alloc (.cells (DTx n j A (q + 1) Bx cx).cells 38)) (x := DTx n j A (q + 1) Bx cx) (Blk.new wr _ _))
      have B1 : Hid (q + 1 + 1 ≤ maxLen) := by show q + 1 + 1 ≤ maxLen; unfold maxLen; omega
      have B2 : Hid ((q + 1 + 1) * 40 ≤ 140737488355328) := by show (q + 1 + 1) * 40 ≤ 140737488355328; omega
      have B3 : Hid (w.heap.size + 1 ≤ (wr.alloc (.cells (DTx n j A (q + 1) Bx cx).cells 38)).heap.size) := by
       have := Blk.lt a10
       show _ ≤ _
       simp
       omega
      have SS := hide (fun v' w4 hown hg => DTo.step (v' := v') (w4 := w4) (unhide NN) hjn.2 (unhide HH).2.1 ⟨a1, a2⟩ a5 a6 a7 a10 ⟨z1, z2, z3⟩ a12 hown hg)
      have B4 : Hid (q + 1 ≤ k) := hlt
      clear a1 a2 a5 a6 a7 a9 a10 z1 z2 z3 a12 HJ
      go_wp2_with (at_builtin; refine wpList_append_own _ rfl _ _ 73 rfl (w.heap.size + 1) 38 i0 (.agg #[.int .i64 0, .int .i64 0, .slice none 0 0]) 3 40 Tryz.underlying73 hi hz0 hz1 hz2 rfl (by decide) (.slice (some ⟨g, 0, none⟩) (q + 1) cg) (q + 1) (flat l) rfl (unhide OW) ⟨wr.heap.size, 0, none⟩ 1 1 (DTx n j A (q + 1) Bx cx).cells.toList rfl rfl (unhide NW) (cells_oneMV _) (unhide B1) (unhide B2) (unhide B3) ?_; intro v' w4 hown hgrow _; have S4 : Hid (DTo w R n j b o cap A c0 n0 (q + 1 + 1) v' w4) := unhide SS v' w4 hown hgrow; clear hown hgrow)
      go_roundw
      case rel => exact ⟨q + 1, unhide B4, by go_num, S4⟩
      case measure => have := unhide B4; simp [intOf]; omega
  ·obtain rfl : q = k := by omega
   obtain ⟨l, hl, hD, ⟨cnt, q1, q2, hu⟩, hm, hab⟩ := unhide HI
   have hk24 := (unhide HN).2.2.2.2
   have RR : Hid (DTermP R n nn c0 n0 A q w (.returned (.tuple #[u10, .int .i64 0])) wr) := ⟨u10, l, rfl, hl, ⟨hD.1.mono (by omega), fun i x hx => by
    obtain ⟨B, cp, e, a1, a2, a3⟩ := hD.2 i x hx
    exact ⟨B, cp, e, a1, by omega, a3⟩⟩, ⟨cnt, q1, by omega, hu⟩, hm⟩
   clear hl hD q1 q2 hu hm hab HI
   go_wp2
   go_ret2
   exact unhide RR
end Go.Proofs.YtjobgjcfkomhpaaGreat
namespace Go.Proofs.YtjobgjcfkomhpaaGreat
open Go.RowKit Go.Shelf Go.Proofs.Wd
set_option maxRecDepth 10000
set_option maxRecDepth 20000 in
set_option maxHeartbeats 8000000 in
theorem refSum_own (R : Nat) (c0 : Bool) (n : Int) (r c : Int) (a1 a2 : Option Addr) (len p1 p2 : Nat) (X Y : Nat → Int) (hok : okM r c len) (hn : 0 ≤ n ∧ n < 1152921504606846976) (hX : Hid (∀ i, i < len → I64 (X i))) (hY : Hid (∀ i, i < len → I64 (Y i))) (w : World) (h : RC R c0 n w)
  (hr : Row w a1 len X) (ho : Off R len a1) (ht : Row w a2 len Y) (hp : Off R len a2) :
  Calls Tryz.prog 95 #[.pointer (some ⟨R, 0, none⟩), .agg #[.int .i64 r, .int .i64 c, .slice a1 len p1], .agg #[.int .i64 r, .int .i64 c, .slice a2 len p2]] w fun e w' => DocB r c len (fun p => s2N (X p) (Y p)) 0 (fun w' => RC R (c0 || orC (fun p => s2C (X p) (Y p)) len) (n + 2 * len) w' ∧ Mk R w w') w e w' := by
 have HPOS : Hid (1 ≤ len) := by
  obtain ⟨_, _, _, _, _, _, _, h1, _⟩ := hok.nat
  exact h1
 have hlen : len ≤ 144 := by have := mul12 r c hok.1 hok.2.1; have := hok.2.2; omega
 have AL := hide (fun w => refAlike_ok r c r c a1 a2 len p1 len p2 ⟨hok, hok, rfl, rfl⟩ w)
 have lR := Blk.lt h
 obtain ⟨G, s3, x0, x1, x2⟩ := alloc3 w #[.int .i64 r, .int .i64 c, .slice a1 len p1] 38 #[.int .i64 r, .int .i64 c, .slice a2 len p2] 38 #[.int .i64 0, .int .i64 0, .slice none 0 0] 38
 have HB := hide (And.intro x0 (And.intro x1 x2))
 have HG := hide (And.intro G (And.intro s3 lR))
 have HU := hide h
 have HR := hide hr
 have HO := hide ho
 have HT := hide ht
 have HP := hide hp
 have HN := hide hn
 clear h hr ho ht hp hn hok G s3 x0 x1 x2
 obtain ⟨Z, hZ⟩ : ∃ Z, Z = fun p => s2N (X p) (Y p) := ⟨_, rfl⟩
 rw [← hZ]
 have EZ : Hid (∀ i, Z i = s2N (X i) (Y i)) := fun i => by rw [hZ]
 clear hZ
 have lR' := hide lR
 clear lR
 go_enter Tryz.func95, Tryz.ntmps95
 go_wp2_with fail
 generalize (((w.alloc (.cells #[.int .i64 r, .int .i64 c, .slice a1 len p1] 38)).alloc (.cells #[.int .i64 r, .int .i64 c, .slice a2 len p2] 38)).alloc (.cells #[.int .i64 0, .int .i64 0, .slice none 0 0] 38)) = w1 at *
 refine (unhide AL _).mono ?_
 rintro e w2 ⟨rfl, g2⟩
 have B0 := Blk.grown (unhide HB).1 g2
 have B1 := Blk.grown (unhide HB).2.1 g2
 have y0 : w2.cell? ⟨w.heap.size, 0, none⟩ = some (.int .i64 r) := Blk.cell B0 0
 have y1 : w2.cell? ⟨w.heap.size, 1, none⟩ = some (.int .i64 c) := Blk.cell B0 1
 have ST : Hid (DI w R w.heap.size (w.heap.size + 1) (w.heap.size + 1 + 1) w2.heap.size #[.int .i64 r, .int .i64 c, .slice a1 len p1] #[.int .i64 r, .int .i64 c, .slice a2 len p2] r c Z (c0 || orC (fun p => s2C (X p) (Y p)) 0) (n + 2 * (0 : Nat)) 0 (.slice none 0 0) (w2.alloc (.cells #[.int .i64 r, .int .i64 c, .slice none 0 0] 38))) := by
  have G3 : Grown w2 (w2.alloc (.cells #[.int .i64 r, .int .i64 c, .slice none 0 0] 38)) := (Grown.refl _).alloc _ _
  have gg := gtrans (unhide HG).1 g2
  have s := (unhide HG).2.1
  have s2 := g2.2.2
  refine ⟨World.ownsRow_nil _ _ _ _, Blk.grown B0 G3, Blk.grown B1 G3, Blk.grown (Blk.grown (unhide HB).2.2 g2) G3, Blk.new w2 _ _, ?_, (Mk.of (Mod.of gg)).grown G3, unhide lR', Nat.le_refl _, by omega, by omega, by omega, by omega, by omega⟩
  show RC _ (c0 || false) (n + 2 * 0) _
  rw [Bool.or_false, Int.mul_zero, Int.add_zero]
  exact Blk.grown (Blk.grown (unhide HU) gg) G3
 clear B0 B1 AL HU HB HG g2
 go_wp2_with fail
 generalize w2.alloc (.cells #[.int .i64 r, .int .i64 c, .slice none 0 0] 38) = w3 at *
 generalize w2.heap.size = L at *
 clear y0 y1
 go_loopw [9] (fun i wr => ∃ k : Nat, k ≤ len ∧ i = .int .i64 k ∧ Hid (∃ v, DI w R w.heap.size (w.heap.size + 1) (w.heap.size + 1 + 1) L #[.int .i64 r, .int .i64 c, .slice a1 len p1] #[.int .i64 r, .int .i64 c, .slice a2 len p2] r c Z (c0 || orC (fun p => s2C (X p) (Y p)) k) (n + 2 * k) k v wr)) (fun i _ => len - (intOf i).toNat)
 case atStart => exact ⟨0, Nat.zero_le _, rfl, _, unhide ST⟩
 case round =>
  obtain ⟨k, hk, rfl, HI⟩ := hrel
  clear ST
  by_cases hlt : k < len
  ·obtain ⟨v, hI⟩ := unhide HI
   obtain ⟨b1, o1, rfl, hw1⟩ := (unhide HR).at hlt
   obtain ⟨b2, o2, rfl, hw2⟩ := (unhide HT).at hlt
   obtain ⟨x, ex⟩ : ∃ x, X k = x := ⟨_, rfl⟩
   obtain ⟨y, ey⟩ : ∃ y, Y k = y := ⟨_, rfl⟩
   obtain ⟨z, ez⟩ : ∃ z, s2N x y = z := ⟨_, rfl⟩
   rw [ex] at hw1
   rw [ey] at hw2
   have RA := hide (fun b cap W h hr ho => refAddTwoM R x y (c0 || orC (fun p => s2C (X p) (Y p)) k) (n + 2 * k) b cap W (by rw [← ex]; exact unhide hX k hlt) (by rw [← ey]; exact unhide hY k hlt) (by have := unhide HN; omega) h hr ho)
   rw [ez] at RA
   have EK : Hid (Z k = z ∧ (c0 || orC (fun p => s2C (X p) (Y p)) (k + 1)) = (c0 || orC (fun p => s2C (X p) (Y p)) k || s2C x y) ∧ n + 2 * ((k + 1 : Nat) : Int) = n + 2 * k + 2) := by
    refine ⟨by rw [unhide EZ, ex, ey, ez], ?_, by omega⟩
    show (c0 || (orC (fun p => s2C (X p) (Y p)) k || s2C (X k) (Y k))) = _
    rw [ex, ey, Bool.or_assoc]
   have CW : Hid (∀ wx v cut n, DA w R w.heap.size (w.heap.size + 1) (w.heap.size + 1 + 1) L #[.int .i64 r, .int .i64 c, .slice (some ⟨b1, o1, none⟩) len p1] #[.int .i64 r, .int .i64 c, .slice (some ⟨b2, o2, none⟩) len p2] r c v cut n wx → wx.cell? ⟨b1, o1 + k, none⟩ = some (.int .i64 x) ∧ wx.cell? ⟨b2, o2 + k, none⟩ = some (.int .i64 y) ∧ wx.cell? ⟨w.heap.size, 2, none⟩ = some (.slice (some ⟨b1, o1, none⟩) len p1) ∧ wx.cell? ⟨w.heap.size + 1, 2, none⟩ = some (.slice (some ⟨b2, o2, none⟩) len p2) ∧ wx.cell? ⟨L, 2, none⟩ = some v) := fun wx v cut n m => ⟨m.2.2.2.2.2.1.cell hw1 (unhide HO (by omega) _ rfl), m.2.2.2.2.2.1.cell hw2 (unhide HP (by omega) _ rfl), Blk.cell m.1 2, Blk.cell m.2.1 2, Blk.cell m.2.2.2.1 2⟩
   obtain ⟨hc1, hc2, hc3, hc4, hc5⟩ := unhide CW wr _ _ _ hI.2
   have hz1 : b1 < wr.heap.size := heap_gt hc1
   have hz2 : b2 < wr.heap.size := heap_gt hc2
   have hz3 : w.heap.size < wr.heap.size := heap_gt hc3
   have hz4 : w.heap.size + 1 < wr.heap.size := heap_gt hc4
   have hz5 : L < wr.heap.size := heap_gt hc5
   have i0 : (0 : Int) ≤ (k : Int) := by omega
   have i1 : (k : Int) < (len : Int) := by omega
   have hk1 : k ≤ 1000000 := by omega
   have A0 : Hid (DI w R w.heap.size (w.heap.size + 1) (w.heap.size + 1 + 1) L #[.int .i64 r, .int .i64 c, .slice (some ⟨b1, o1, none⟩) len p1] #[.int .i64 r, .int .i64 c, .slice (some ⟨b2, o2, none⟩) len p2] r c Z (c0 || orC (fun p => s2C (X p) (Y p)) k) (n + 2 * k) k v (wr.alloc (.cells #[.int .i64 x, .int .i64 y] 3)).drew ∧ Row (wr.alloc (.cells #[.int .i64 x, .int .i64 y] 3)).drew (some ⟨wr.heap.size, 0, none⟩) 2 (pairZ x y) ∧ wr.heap.size ≠ R) := ⟨hI.grown _ _, pair_rowM wr x y, by have := hI.2.2.2.2.2.1.lt; omega⟩
   clear ex ey ez HI hI hw1 hw2
   go_wp2
   refine region_G (fun w' => w'.cell? ⟨b1, o1 + k, none⟩ = some (.int .i64 x) ∧ w'.cell? ⟨b2, o2 + k, none⟩ = some (.int .i64 y) ∧ w'.cell? ⟨w.heap.size, 2, none⟩ = some (.slice (some ⟨b1, o1, none⟩) len p1) ∧ w'.cell? ⟨w.heap.size + 1, 2, none⟩ = some (.slice (some ⟨b2, o2, none⟩) len p2) ∧ w'.cell? ⟨L, 2, none⟩ = some v) 18 (by kernel_rfl) ⟨hc1, hc2, hc3, hc4, hc5⟩ (fun hHeld => ?_)
   refine take_G (i := 0) (d := 27) (v := .pointer (some ⟨L, 2, none⟩)) rfl rfl (by kernel_rfl) (by kernel_rfl) (by kernel_rfl) (by kernel_rfl) (by kernel_rfl) (Or.inl ⟨by rfl, ?_⟩) (by assumption) ?_
   ·intro w hSw
    (try dsimp only at hSw)
    go_simp
   (try simp only [Act.put, List.setIfInBounds_toArray, List.set_cons_zero, List.set_cons_succ])
   refine take_G (i := 1) (d := 28) (v := v) rfl rfl (by kernel_rfl) (by kernel_rfl) (by kernel_rfl) (by kernel_rfl) (by kernel_rfl) (Or.inl ⟨by rfl, ?_⟩) (by assumption) ?_
   ·intro w hSw
    (try dsimp only at hSw)
    go_simp
   (try simp only [Act.put, List.setIfInBounds_toArray, List.set_cons_zero, List.set_cons_succ])
   refine take_G (i := 2) (d := 29) (v := .pointer (some ⟨R, 0, none⟩)) rfl rfl (by kernel_rfl) (by kernel_rfl) (by kernel_rfl) (by kernel_rfl) (by kernel_rfl) (Or.inl ⟨by rfl, ?_⟩) (by assumption) ?_
   ·intro w hSw
    (try dsimp only at hSw)
    go_simp
   (try simp only [Act.put, List.setIfInBounds_toArray, List.set_cons_zero, List.set_cons_succ])
   refine take_G (i := 3) (d := 30) (v := .pointer (some ⟨w.heap.size, 2, none⟩)) rfl rfl (by kernel_rfl) (by kernel_rfl) (by kernel_rfl) (by kernel_rfl) (by kernel_rfl) (Or.inl ⟨by rfl, ?_⟩) (by assumption) ?_
   ·intro w hSw
    (try dsimp only at hSw)
    go_simp
   (try simp only [Act.put, List.setIfInBounds_toArray, List.set_cons_zero, List.set_cons_succ])
   refine take_G (i := 4) (d := 31) (v := .slice (some ⟨b1, o1, none⟩) len p1) rfl rfl (by kernel_rfl) (by kernel_rfl) (by kernel_rfl) (by kernel_rfl) (by kernel_rfl) (Or.inl ⟨by rfl, ?_⟩) (by assumption) ?_
   ·intro w hSw
    (try dsimp only at hSw)
    go_simp
   (try simp only [Act.put, List.setIfInBounds_toArray, List.set_cons_zero, List.set_cons_succ])
   refine take_G (i := 5) (d := 32) (v := .int .i64 (k : Int)) rfl rfl (by kernel_rfl) (by kernel_rfl) (by kernel_rfl) (by kernel_rfl) (by kernel_rfl) (Or.inl ⟨by rfl, ?_⟩) (by assumption) ?_
   ·intro w hSw
    (try dsimp only at hSw)
    go_simp
   (try simp only [Act.put, List.setIfInBounds_toArray, List.set_cons_zero, List.set_cons_succ])
   refine take_G (i := 6) (d := 33) (v := .pointer (some ⟨b1, o1 + k, none⟩)) rfl rfl (by kernel_rfl) (by kernel_rfl) (by kernel_rfl) (by kernel_rfl) (by kernel_rfl) (Or.inl ⟨by rfl, ?_⟩) (by assumption) ?_
   ·intro w hSw
    (try dsimp only at hSw)
    go_simp
   (try simp only [Act.put, List.setIfInBounds_toArray, List.set_cons_zero, List.set_cons_succ])
   refine take_G (i := 7) (d := 34) (v := .int .i64 x) rfl rfl (by kernel_rfl) (by kernel_rfl) (by kernel_rfl) (by kernel_rfl) (by kernel_rfl) (Or.inl ⟨by rfl, ?_⟩) (by assumption) ?_
   ·intro w hSw
    (try dsimp only at hSw)
    go_simp
   (try simp only [Act.put, List.setIfInBounds_toArray, List.set_cons_zero, List.set_cons_succ])
   refine take_G (i := 8) (d := 35) (v := .pointer (some ⟨w.heap.size + 1, 2, none⟩)) rfl rfl (by kernel_rfl) (by kernel_rfl) (by kernel_rfl) (by kernel_rfl) (by kernel_rfl) (Or.inl ⟨by rfl, ?_⟩) (by assumption) ?_
   ·intro w hSw
    (try dsimp only at hSw)
    go_simp
   (try simp only [Act.put, List.setIfInBounds_toArray, List.set_cons_zero, List.set_cons_succ])
   refine take_G (i := 9) (d := 36) (v := .slice (some ⟨b2, o2, none⟩) len p2) rfl rfl (by kernel_rfl) (by kernel_rfl) (by kernel_rfl) (by kernel_rfl) (by kernel_rfl) (Or.inl ⟨by rfl, ?_⟩) (by assumption) ?_
   ·intro w hSw
    (try dsimp only at hSw)
    go_simp
   (try simp only [Act.put, List.setIfInBounds_toArray, List.set_cons_zero, List.set_cons_succ])
   refine take_G (i := 10) (d := 37) (v := .int .i64 (k : Int)) rfl rfl (by kernel_rfl) (by kernel_rfl) (by kernel_rfl) (by kernel_rfl) (by kernel_rfl) (Or.inl ⟨by rfl, ?_⟩) (by assumption) ?_
   ·intro w hSw
    (try dsimp only at hSw)
    go_simp
   (try simp only [Act.put, List.setIfInBounds_toArray, List.set_cons_zero, List.set_cons_succ])
   refine take_G (i := 11) (d := 38) (v := .pointer (some ⟨b2, o2 + k, none⟩)) rfl rfl (by kernel_rfl) (by kernel_rfl) (by kernel_rfl) (by kernel_rfl) (by kernel_rfl) (Or.inl ⟨by rfl, ?_⟩) (by assumption) ?_
   ·intro w hSw
    (try dsimp only at hSw)
    go_simp
   (try simp only [Act.put, List.setIfInBounds_toArray, List.set_cons_zero, List.set_cons_succ])
   refine take_G (i := 12) (d := 39) (v := .int .i64 y) rfl rfl (by kernel_rfl) (by kernel_rfl) (by kernel_rfl) (by kernel_rfl) (by kernel_rfl) (Or.inl ⟨by rfl, ?_⟩) (by assumption) ?_
   ·intro w hSw
    (try dsimp only at hSw)
    go_simp
   (try simp only [Act.put, List.setIfInBounds_toArray, List.set_cons_zero, List.set_cons_succ])
   refine step_G (i := 13) (by kernel_rfl) (fun K hK => ?_)
   refine wpOp_of rfl rfl ?_
   unfold Oper.wp
   go_simp
   refine hK _ _ (fun _ => ⟨by simp [go_sem, *], by simp [go_sem, *], by simp [go_sem, *], by simp [go_sem, *], by simp [go_sem, *]⟩) ?_
   clear hK K
   (try simp only [Act.put, List.setIfInBounds_toArray, List.set_cons_zero, List.set_cons_succ])
   refine step_G (i := 14) (by kernel_rfl) (fun K hK => ?_)
   refine wpOp_of rfl rfl ?_
   unfold Oper.wp
   go_simp
   refine (unhide RA _ _ _ (unhide A0).1.2.2.2.2.2.1 (unhide A0).2.1 (unhide A0).2.2).mono ?_
   rintro e w4 ⟨rfl, h4, m4⟩
   have I4 := (unhide A0).1.mod m4 h4
   obtain ⟨c21, c22, c23, c24, c25⟩ := unhide CW w4 _ _ _ I4.2
   have z21 := heap_gt c21
   have z22 := heap_gt c22
   have z23 := heap_gt c23
   have z24 := heap_gt c24
   have z25 := heap_gt c25
   have A2 := hide (I4.grown #[.int .i64 z] 3)
   clear h4 m4 A0 I4 hHeld hc1 hc2 hc3 hc4 hc5 hz1 hz2 hz3 hz4 hz5
   refine hK _ _ (fun _ => ⟨c21, c22, c23, c24, c25⟩) ?_
   clear hK K
   (try simp only [Act.put, List.setIfInBounds_toArray, List.set_cons_zero, List.set_cons_succ])
   refine step_G (i := 15) (by kernel_rfl) (fun K hK => ?_)
   refine wpOp_of rfl rfl ?_
   unfold Oper.wp
   go_simp
   refine hK _ _ (fun _ => ⟨by simp [go_sem, *], by simp [go_sem, *], by simp [go_sem, *], by simp [go_sem, *], by simp [go_sem, *]⟩) ?_
   clear hK K
   (try simp only [Act.put, List.setIfInBounds_toArray, List.set_cons_zero, List.set_cons_succ])
   refine step_G (i := 16) (by kernel_rfl) (fun K hK => ?_)
   refine wpOp_of rfl rfl ?_
   refine wp_append rfl (.tmp 28) (.tmp 42) rfl (L + 1) k v Z z (unhide EK).1 w4.heap.size (by first | rfl | simp [Act.eval, Act.put]) (by first | rfl | simp [Act.eval, Act.put]) (unhide A2).1 (Blk.cell (Blk.new w4 _ _) 0) hk1 (by have := Blk.lt (unhide A2).2.2.2.2.1; omega) ?_
   intro v' w5 hg5
   obtain ⟨g', cap', rfl⟩ := ownsRow_succ (unhide hg5).1
   have P := DI.app (unhide A2) (unhide hg5)
   obtain ⟨d1, d2, d3, d4, d5⟩ := unhide CW w5 _ _ _ P.1
   have q3 := Blk.free P.1.2.2.2.1 2
   have HP5 := hide P.2
   clear P hg5 A2 c21 c22 c23 c24 c25 z21 z22 z23 z24 z25
   refine hK _ _ (fun _ => ⟨d1, d2, d3, d4, d5⟩) ?_
   clear hK K
   (try simp only [Act.put, List.setIfInBounds_toArray, List.set_cons_zero, List.set_cons_succ])
   have hHeld := (And.intro d1 (And.intro d2 (And.intro d3 (And.intro d4 d5))))
   refine take_G (i := 17) (d := 44) (v := .pointer (some ⟨L, 2, none⟩)) rfl rfl (by kernel_rfl) (by kernel_rfl) (by kernel_rfl) (by kernel_rfl) (by kernel_rfl) (Or.inl ⟨by rfl, ?_⟩) (by assumption) ?_
   ·intro w hSw
    (try dsimp only at hSw)
    go_simp
   (try simp only [Act.put, List.setIfInBounds_toArray, List.set_cons_zero, List.set_cons_succ])
   refine step_G (i := 18) (by kernel_rfl) (fun K hK => ?_)
   refine wpOp_of rfl rfl ?_
   unfold Oper.wp
   go_simp
   refine hK _ _ (fun h => absurd rfl h) ?_
   clear hK K
   (try simp only [Act.put, List.setIfInBounds_toArray, List.set_cons_zero, List.set_cons_succ])
   refine done_G (by kernel_rfl) ?_
   have R5 : Hid (∃ v, DI w R w.heap.size (w.heap.size + 1) (w.heap.size + 1 + 1) L #[.int .i64 r, .int .i64 c, .slice (some ⟨b1, o1, none⟩) len p1] #[.int .i64 r, .int .i64 c, .slice (some ⟨b2, o2, none⟩) len p2] r c Z (c0 || orC (fun p => s2C (X p) (Y p)) (k + 1)) (n + 2 * ((k + 1 : Nat) : Int)) (k + 1) v (w5.setCell ⟨L, 2, none⟩ (.slice (some ⟨g', 0, none⟩) (k + 1) cap'))) := by
    show ∃ v, _
    rw [(unhide EK).2.1, (unhide EK).2.2]
    exact ⟨_, unhide HP5⟩
   clear HP5 EK RA CW d1 d2 d3 d4 d5 q3 hHeld
   refine noPanic_normal ?_
   go_wp2
   go_roundw
   case rel => exact ⟨k + 1, by omega, by go_num, R5⟩
   case measure => simp [intOf]; omega
  ·obtain rfl : k = len := by omega
   obtain ⟨v, h0, b0, b1, b2, hM, hu, hm, hl⟩ := unhide HI
   obtain ⟨Bq, cap2, rfl, h1, h3, h4⟩ := owns_ownC (unhide HPOS) h0
   have y0 : wr.cell? ⟨L, 0, none⟩ = some (.int .i64 r) := Blk.cell hM 0
   have y1 : wr.cell? ⟨L, 1, none⟩ = some (.int .i64 c) := Blk.cell hM 1
   have y2 : wr.cell? ⟨L, 2, none⟩ = some (.slice (some ⟨Bq, 0, none⟩) k cap2) := Blk.cell hM 2
   have t2 : wr.cell? ⟨w.heap.size, 2, none⟩ = some (.slice a1 k p1) := Blk.cell b0 2
   have e0 : wr.cell? ⟨w.heap.size + 1 + 1, 0, none⟩ = some (.int .i64 0) := Blk.cell b2 0
   have e1 : wr.cell? ⟨w.heap.size + 1 + 1, 1, none⟩ = some (.int .i64 0) := Blk.cell b2 1
   have e2 : wr.cell? ⟨w.heap.size + 1 + 1, 2, none⟩ = some (.slice none 0 0) := Blk.cell b2 2
   have f := Blk.free b2
   have R6 := hide (And.intro b2 (And.intro h1 (And.intro h3 (And.intro h4 (And.intro hu (And.intro hm hl))))))
   clear h0 b0 b1 b2 hM hu hm hl h1 h3 h4 HI
   go_wp2
   obtain ⟨b2, h1, h3, h4, hu, hm, hl⟩ := unhide R6
   have P := putM b2 (.int .i64 r) (.int .i64 c) (.slice (some ⟨Bq, 0, none⟩) k cap2)
   generalize (((wr.setCell ⟨w.heap.size + 1 + 1, 0, none⟩ (.int .i64 r)).setCell ⟨w.heap.size + 1 + 1, 1, none⟩ (.int .i64 c)).setCell ⟨w.heap.size + 1 + 1, 2, none⟩ (.slice (some ⟨Bq, 0, none⟩) k cap2)) = wE at *
   have c0 : wE.cell? ⟨w.heap.size + 1 + 1, 0, none⟩ = some (.int .i64 r) := Blk.cell P.1 0
   have c1 : wE.cell? ⟨w.heap.size + 1 + 1, 1, none⟩ = some (.int .i64 c) := Blk.cell P.1 1
   have c2 : wE.cell? ⟨w.heap.size + 1 + 1, 2, none⟩ = some (.slice (some ⟨Bq, 0, none⟩) k cap2) := Blk.cell P.1 2
   refine bodyPost_ret (v := .tuple #[.agg #[.int .i64 r, .int .i64 c, .slice (some ⟨Bq, 0, none⟩) k cap2], .int .i64 0]) (by simp [results, Tryz.results95, go_sem, c0, c1, c2]) rfl ?_
   exact (show DocB _ _ _ _ _ _ _ _ _ from ⟨_, _, rfl, h1, by omega, h4.mk (Mk.of P.2) (by omega), Blk.keep hu P.2 (by omega), hm.new P.2 (by omega)⟩)
end Go.Proofs.YtjobgjcfkomhpaaGreat
