/- MdlKa MdlKb MdlKc MdlKd MdlH, one after another. -/
import Derived.Test.YtpanfppnkgokdaaMdlDoc
import Derived.Test.YtpanfppnkgokdaaMdlBase
import Derived.Deep.RegionHeld3
import Derived.Deep.DrawnRows
/- The kit's LongModel, LongBelief, SameRows, SameBelief, SameModel. -/
namespace Go.Proofs.Ytpanfppnkgokdaa
open Go.RowKit Go.Shelf Go.Proofs.Wd
set_option linter.unusedVariables false
set_option linter.unusedSimpArgs false
set_option maxRecDepth 10000
attribute [local go_sem ↓] Go.wp_at_zero Go.wp_at_succ

/-- Not more than is gone through. -/
def smallM (m : DV) : Prop := m.A.len ≤ 40 ∧ m.Q.len ≤ 12 ∧ m.rl ≤ 30 ∧ ∀ i, i < m.rl → (m.X i).h.len ≤ 12
def smallB (b : BV) : Prop := b.x.len ≤ 12 ∧ b.p.len ≤ 40
def LongMP (m : DV) (w : World) (e : Ending) (w' : World) : Prop := ∃ r : Bool, e = .returned (.bool r) ∧ Grown w w' ∧ (r = false → smallM m)
def smallC (al ql rl : Nat) (X : Nat → RV) : Prop := al ≤ 40 ∧ ql ≤ 12 ∧ rl ≤ 30 ∧ ∀ i, i < rl → (X i).h.len ≤ 12
def LongMC (al ql rl : Nat) (X : Nat → RV) (w : World) (e : Ending) (w' : World) : Prop := ∃ r : Bool, e = .returned (.bool r) ∧ Grown w w' ∧ (r = false → smallC al ql rl X)
set_option maxHeartbeats 1000000 in
theorem kitLongB (b : BV) (w : World) : Calls Try.prog 9 #[.agg b.cells] w fun e w' => e = .returned (.bool (decide (12 < b.x.len) || decide (40 < b.p.len))) ∧ Grown w w' := by
  obtain ⟨ti, ⟨xa, xl, xc, xz⟩, ⟨pa, pl, pc, pz⟩, flag, pass, fail⟩ := b
  show Calls Try.prog 9 #[.agg #[.int .i64 ti, .slice xa xl xc, .slice pa pl pc, .bool flag, .int .i64 pass, .int .i64 fail]] w fun e w' => e = .returned (.bool (decide (12 < xl) || decide (40 < pl))) ∧ Grown w w'
  have G1 : Hid (Grown w (w.alloc (.cells #[.int .i64 ti, .slice xa xl xc, .slice pa pl pc, .bool flag, .int .i64 pass, .int .i64 fail] 27))) := (Grown.refl _).alloc _ _
  by_cases h1 : 12 < xl
  · have d1 : decide ((12 : Int) < (xl : Int)) = true := decide_eq_true (by omega)
    rw [decide_eq_true h1]
    clear h1
    go_enter Try.func9, Try.ntmps9
    go_wp2
    go_ret
    exact ⟨by simp, unhide G1⟩
  · have d1 : decide ((12 : Int) < (xl : Int)) = false := decide_eq_false (by omega)
    rw [decide_eq_false h1]
    clear h1
    by_cases h2 : 40 < pl
    · have d2 : decide ((40 : Int) < (pl : Int)) = true := decide_eq_true (by omega)
      rw [decide_eq_true h2]
      clear h2
      go_enter Try.func9, Try.ntmps9
      go_wp2
      go_ret
      exact ⟨by simp, unhide G1⟩
    · have d2 : decide ((40 : Int) < (pl : Int)) = false := decide_eq_false (by omega)
      rw [decide_eq_false h2]
      clear h2
      go_enter Try.func9, Try.ntmps9
      go_wp2
      go_ret
      exact ⟨by simp, unhide G1⟩

set_option maxRecDepth 20000 in
set_option maxHeartbeats 4000000 in
theorem kitLongC (N : Int) (aa qa ro : Option Addr) (al ac ql qc rl rc : Nat) (tick gate rmin : Int) (X : Nat → RV) (w : World) (hr : RVs w ro rl X) :
    Calls Try.prog 8 #[.agg #[.int .i64 N, .slice aa al ac, .slice qa ql qc, .int .i64 tick, .int .i64 gate, .int .i64 rmin, .slice ro rl rc]] w fun e w' => LongMC al ql rl X w e w' := by
  have G1 : Hid (Grown w (w.alloc (.cells #[.int .i64 N, .slice aa al ac, .slice qa ql qc, .int .i64 tick, .int .i64 gate, .int .i64 rmin, .slice ro rl rc] 25))) := (Grown.refl _).alloc _ _
  have bl := Blk.new w #[.int .i64 N, .slice aa al ac, .slice qa ql qc, .int .i64 tick, .int .i64 gate, .int .i64 rmin, .slice ro rl rc] 25
  have y1 : (w.alloc (.cells #[.int .i64 N, .slice aa al ac, .slice qa ql qc, .int .i64 tick, .int .i64 gate, .int .i64 rmin, .slice ro rl rc] 25)).cell? ⟨w.heap.size, 1, none⟩ = some (.slice aa al ac) := Blk.cell bl 1
  have y2 : (w.alloc (.cells #[.int .i64 N, .slice aa al ac, .slice qa ql qc, .int .i64 tick, .int .i64 gate, .int .i64 rmin, .slice ro rl rc] 25)).cell? ⟨w.heap.size, 2, none⟩ = some (.slice qa ql qc) := Blk.cell bl 2
  have y6 : (w.alloc (.cells #[.int .i64 N, .slice aa al ac, .slice qa ql qc, .int .i64 tick, .int .i64 gate, .int .i64 rmin, .slice ro rl rc] 25)).cell? ⟨w.heap.size, 6, none⟩ = some (.slice ro rl rc) := Blk.cell bl 6
  have HR := hide (hr.grown (unhide G1))
  clear bl hr
  go_enter Try.func8, Try.ntmps8
  go_wp2_with fail
  generalize (w.alloc (.cells #[.int .i64 N, .slice aa al ac, .slice qa ql qc, .int .i64 tick, .int .i64 gate, .int .i64 rmin, .slice ro rl rc] 25)) = w1 at *
  go_loop [3] (fun i => ∃ k : Nat, k ≤ 31 ∧ k ≤ rl ∧ i = .int .i64 k ∧ Hid (∀ j, j < k → (X j).h.len ≤ 12)) (fun i => 31 - (intOf i).toNat)
  case atStart => exact ⟨0, Nat.zero_le _, Nat.zero_le _, rfl, fun j hj => absurd hj (Nat.not_lt_zero _)⟩
  case round =>
    obtain ⟨k, hk31, hk, rfl, HK⟩ := hrel
    by_cases hlt : k < rl
    · have dk : decide ((k : Int) < (rl : Int)) = true := decide_eq_true (by omega)
      by_cases h31 : k < 31
      · have dk2 : decide ((k : Int) < 31) = true := decide_eq_true (by omega)
        obtain ⟨b, o, rfl, c0, c1, c2⟩ := (unhide HR).at hlt
        have i0 : (0 : Int) ≤ (k : Int) := Int.natCast_nonneg _
        have i1 : (k : Int) < (rl : Int) := Int.ofNat_lt.2 hlt
        have B1 : Hid (k + 1 ≤ 31 ∧ k + 1 ≤ rl) := ⟨h31, hlt⟩
        by_cases hh : 12 < (X k).h.len
        · have dh : decide ((12 : Int) < ((X k).h.len : Int)) = true := decide_eq_true (by omega)
          clear hh HK
          have RR2 : Hid (LongMC al ql rl X w (.returned (.bool true)) w1) := ⟨_, rfl, unhide G1, fun h => by cases h⟩
          go_wp2
          go_ret
          exact unhide RR2
        · have dh : decide ((12 : Int) < ((X k).h.len : Int)) = false := decide_eq_false (by omega)
          have HK2 : Hid (∀ j, j < k + 1 → (X j).h.len ≤ 12) := fun j hj => by
            by_cases e : j = k
            · subst e; omega
            · exact unhide HK j (by omega)
          clear hh HK
          go_wp2
          go_round
          case rel => exact ⟨k + 1, (unhide B1).1, (unhide B1).2, by go_num, HK2⟩
          case measure => have := unhide B1; simp [intOf]; omega
      · obtain rfl : k = 31 := by omega
        have dr : decide ((30 : Int) < (rl : Int)) = true := decide_eq_true (by omega)
        have di : decide ((31 : Int) < (rl : Int)) = true := decide_eq_true (by omega)
        clear h31 HK dk
        by_cases ha : 40 < al
        · have da : decide ((40 : Int) < (al : Int)) = true := decide_eq_true (by omega)
          clear ha
          have RR2 : Hid (LongMC al ql rl X w (.returned (.bool true)) w1) := ⟨_, rfl, unhide G1, fun h => by cases h⟩
          go_wp2
          go_ret
          exact unhide RR2
        · have da : decide ((40 : Int) < (al : Int)) = false := decide_eq_false (by omega)
          clear ha
          by_cases hq : 12 < ql
          · have dq : decide ((12 : Int) < (ql : Int)) = true := decide_eq_true (by omega)
            clear hq
            have RR2 : Hid (LongMC al ql rl X w (.returned (.bool true)) w1) := ⟨_, rfl, unhide G1, fun h => by cases h⟩
            go_wp2
            go_ret
            exact unhide RR2
          · have dq : decide ((12 : Int) < (ql : Int)) = false := decide_eq_false (by omega)
            clear hq
            have RR2 : Hid (LongMC al ql rl X w (.returned (.bool true)) w1) := ⟨_, rfl, unhide G1, fun h => by cases h⟩
            go_wp2
            go_ret
            exact unhide RR2
    · obtain rfl : k = rl := by omega
      have dk : decide ((k : Int) < (k : Int)) = false := decide_eq_false (by omega)
      by_cases ha : 40 < al
      · have da : decide ((40 : Int) < (al : Int)) = true := decide_eq_true (by omega)
        clear ha
        have RR2 : Hid (LongMC al ql k X w (.returned (.bool true)) w1) := ⟨_, rfl, unhide G1, fun h => by cases h⟩
        go_wp2
        go_ret
        exact unhide RR2
      · have da : decide ((40 : Int) < (al : Int)) = false := decide_eq_false (by omega)
        by_cases hq : 12 < ql
        · have dq : decide ((12 : Int) < (ql : Int)) = true := decide_eq_true (by omega)
          clear ha hq
          have RR2 : Hid (LongMC al ql k X w (.returned (.bool true)) w1) := ⟨_, rfl, unhide G1, fun h => by cases h⟩
          go_wp2
          go_ret
          exact unhide RR2
        · have dq : decide ((12 : Int) < (ql : Int)) = false := decide_eq_false (by omega)
          by_cases hr : 30 < k
          · have dr : decide ((30 : Int) < (k : Int)) = true := decide_eq_true (by omega)
            clear ha hq hr
            have RR2 : Hid (LongMC al ql k X w (.returned (.bool true)) w1) := ⟨_, rfl, unhide G1, fun h => by cases h⟩
            go_wp2
            go_ret
            exact unhide RR2
          · have dr : decide ((30 : Int) < (k : Int)) = false := decide_eq_false (by omega)
            have SM : Hid (smallC al ql k X) := ⟨by omega, by omega, by omega, unhide HK⟩
            clear ha hq hr
            have RR2 : Hid (LongMC al ql k X w (.returned (.bool false)) w1) := ⟨_, rfl, unhide G1, fun _ => unhide SM⟩
            go_wp2
            go_ret
            exact unhide RR2

theorem kitLongM (m : DV) (w : World) (h : RVs w m.ro m.rl m.X) : Calls Try.prog 8 #[.agg m.cells] w fun e w' => LongMP m w e w' :=
  kitLongC m.N m.A.ao m.Q.ao m.ro m.A.len m.A.cap m.Q.len m.Q.cap m.rl m.rc m.tick m.gate m.rmin m.X w h

/-- Two rows are the same. -/
def eqRV (x y : RV) : Prop := x.s = y.s ∧ x.r = y.r ∧ x.h.len = y.h.len ∧ ∀ p, p < x.h.len → x.h.Z p = y.h.Z p
theorem rowCongrR {w : World} {ao : Option Addr} {len : Nat} {Z Y : Nat → Int} (h : Row w ao len Z) (e : ∀ i, i < len → Z i = Y i) : Row w ao len Y := by
  rcases h with h | ⟨b, o, rfl, hc⟩
  · exact Or.inl h
  · exact Or.inr ⟨b, o, rfl, fun i hi => by rw [hc i hi, e i hi]⟩
theorem kitSameK (ao bo : Option Addr) (len c1 c2 : Nat) (X : Nat → Int) (hl : len ≤ 1000000) (w : World) (hr : Row w ao len X) (ht : Row w bo len X) :
    Calls Try.prog 49 #[.slice ao len c1, .slice bo len c2] w fun e w' => e = .returned (.bool true) ∧ Kp w w' :=
  (kitSameQ ao bo len c1 c2 X hl w hr ht).mono (fun e w' ⟨h1, n, h2⟩ => ⟨h1, by subst h2; exact (show Kp w (w.drewN n) from Kp.refl w)⟩)
/-- What is asked of two lists of rows. -/
def sameRs (n : Nat) (X Y : Nat → RV) (ao bo : Option Addr) (w : World) : Prop := RVs w ao n X ∧ RVs w bo n Y ∧ ∀ i, i < n → eqRV (X i) (Y i) ∧ (X i).h.len ≤ 1000000 ∧ Row w (X i).h.ao (X i).h.len (X i).h.Z ∧ Row w (Y i).h.ao (Y i).h.len (Y i).h.Z
theorem sameRs.one {n : Nat} {X Y : Nat → RV} {ao bo : Option Addr} {w : World} (h : sameRs n X Y ao bo w) {k : Nat} (hk : k < n) (W : World) (g : Kp w W) : Calls Try.prog 49 #[.slice (X k).h.ao (X k).h.len (X k).h.cap, .slice (Y k).h.ao (X k).h.len (Y k).h.cap] W fun e w' => e = .returned (.bool true) ∧ Kp W w' := by
  obtain ⟨⟨e1, e2, e3, e4⟩, hl, r1, r2⟩ := h.2.2 k hk
  rw [← e3] at r2
  exact kitSameK _ _ _ _ _ _ hl W (r1.kp g) (rowCongrR (r2.kp g) (fun i hi => (e4 i hi).symm))
set_option maxRecDepth 20000 in
set_option maxHeartbeats 4000000 in
theorem kitSameR (ao bo : Option Addr) (n ca cb : Nat) (hn : n ≤ 1000) (X Y : Nat → RV) (w : World) (h : sameRs n X Y ao bo w) :
    Calls Try.prog 20 #[.slice ao n ca, .slice bo n cb] w fun e w' => e = .returned (.bool true) ∧ Kp w w' := by
  have H0 := hide h
  clear h
  go_enter Try.func20, Try.ntmps20
  go_wp2_with fail
  go_loopw [5] (fun i wr => ∃ k : Nat, k ≤ n ∧ i = .int .i64 k ∧ Hid (Kp w wr)) (fun i _ => n - (intOf i).toNat)
  case atStart => exact ⟨0, Nat.zero_le _, rfl, Kp.refl _⟩
  case round =>
    obtain ⟨k, hk, rfl, HI⟩ := hrel
    by_cases hlt : k < n
    · have S1 := hide (fun W (g : Kp wr W) => (unhide H0).one hlt W ((unhide HI).trans g))
      obtain ⟨b, o, rfl, c0, c1, c2⟩ := ((unhide H0).1.kp (unhide HI)).at hlt
      obtain ⟨b2, o2, rfl, d0, d1, d2⟩ := ((unhide H0).2.1.kp (unhide HI)).at hlt
      obtain ⟨e1, e2, e3, _⟩ := ((unhide H0).2.2 k hlt).1
      rw [← e1] at d0
      rw [← e3] at d1
      rw [← e2] at d2
      clear e1 e2 e3
      have i0 : (0 : Int) ≤ (k : Int) := Int.natCast_nonneg _
      have i1 : (k : Int) < (n : Int) := Int.ofNat_lt.2 hlt
      have B1 : Hid (k + 1 ≤ n) := hlt
      generalize (X k).s = s at *
      generalize (X k).r = r at *
      generalize (X k).h.ao = a1 at *
      generalize (X k).h.len = len at *
      generalize (X k).h.cap = p1 at *
      generalize (Y k).h.ao = a2 at *
      generalize (Y k).h.cap = p2 at *
      have CW : Hid (∀ W, Kp wr W → (W.cell? ⟨b, o + k * 3, none⟩ = some (.int .i64 s) ∧ W.cell? ⟨b, o + k * 3 + 1, none⟩ = some (.slice a1 len p1) ∧ W.cell? ⟨b, o + k * 3 + 2, none⟩ = some (.int .i64 r)) ∧ (W.cell? ⟨b2, o2 + k * 3, none⟩ = some (.int .i64 s) ∧ W.cell? ⟨b2, o2 + k * 3 + 1, none⟩ = some (.slice a2 len p2) ∧ W.cell? ⟨b2, o2 + k * 3 + 2, none⟩ = some (.int .i64 r))) := fun W g => ⟨⟨g.cell c0, g.cell c1, g.cell c2⟩, ⟨g.cell d0, g.cell d1, g.cell d2⟩⟩
      have gx := heap_gt c0
      have gy := heap_gt d0
      go_wp2_with fail
      go_region_held3 (fun w' => w'.cell? ⟨b, o + k * 3, none⟩ = some (.int .i64 s) ∧ w'.cell? ⟨b, o + k * 3 + 1, none⟩ = some (.slice a1 len p1) ∧ w'.cell? ⟨b, o + k * 3 + 2, none⟩ = some (.int .i64 r) ∧ w'.cell? ⟨b2, o2 + k * 3, none⟩ = some (.int .i64 s) ∧ w'.cell? ⟨b2, o2 + k * 3 + 1, none⟩ = some (.slice a2 len p2) ∧ w'.cell? ⟨b2, o2 + k * 3 + 2, none⟩ = some (.int .i64 r))
          (simp [go_sem, *])
          (first
            | (go_at_call 49; refine (unhide S1 _ (show Kp wr wr.drew from Kp.refl _)).mono ?_; clear S1; rintro e w5 ⟨rfl, k5⟩; have K5 : Hid (Kp wr w5) := k5; obtain ⟨⟨y0, y1, y2⟩, ⟨y3, y4, y5⟩⟩ := unhide CW w5 (unhide K5); have gy1 := heap_gt y0; have gy2 := heap_gt y3; clear k5))
      have K6 : Hid (Kp w w5) := (unhide HI).trans (unhide K5)
      clear CW HI
      go_wp2
      go_roundw
      case rel => exact ⟨k + 1, unhide B1, by go_num, K6⟩
      case measure => have := unhide B1; simp [intOf]; omega
    · obtain rfl : k = n := by omega
      go_wp2
      go_ret
      exact ⟨rfl, unhide HI⟩

set_option maxRecDepth 20000 in
set_option maxHeartbeats 4000000 in
theorem kitSameBc (ti pass fail : Int) (flag : Bool) (xa xb pa pb : Option Addr) (xl xc xd pl pc pd : Nat) (XZ PZ : Nat → Int) (hx : xl ≤ 1000000) (hp : pl ≤ 1000000) (w : World) (r1 : Row w xa xl XZ) (r2 : Row w xb xl XZ) (r3 : Row w pa pl PZ) (r4 : Row w pb pl PZ) :
    Calls Try.prog 23 #[.agg #[.int .i64 ti, .slice xa xl xc, .slice pa pl pc, .bool flag, .int .i64 pass, .int .i64 fail], .agg #[.int .i64 ti, .slice xb xl xd, .slice pb pl pd, .bool flag, .int .i64 pass, .int .i64 fail]] w fun e w' => e = .returned (.bool true) ∧ Kp w w' := by
  have G1 : Hid (Kp w ((w.alloc (.cells #[.int .i64 ti, .slice xa xl xc, .slice pa pl pc, .bool flag, .int .i64 pass, .int .i64 fail] 27)).alloc (.cells #[.int .i64 ti, .slice xb xl xd, .slice pb pl pd, .bool flag, .int .i64 pass, .int .i64 fail] 27)) ∧ Blk w.heap.size #[.int .i64 ti, .slice xa xl xc, .slice pa pl pc, .bool flag, .int .i64 pass, .int .i64 fail] 27 ((w.alloc (.cells #[.int .i64 ti, .slice xa xl xc, .slice pa pl pc, .bool flag, .int .i64 pass, .int .i64 fail] 27)).alloc (.cells #[.int .i64 ti, .slice xb xl xd, .slice pb pl pd, .bool flag, .int .i64 pass, .int .i64 fail] 27)) ∧ Blk (w.heap.size + 1) #[.int .i64 ti, .slice xb xl xd, .slice pb pl pd, .bool flag, .int .i64 pass, .int .i64 fail] 27 ((w.alloc (.cells #[.int .i64 ti, .slice xa xl xc, .slice pa pl pc, .bool flag, .int .i64 pass, .int .i64 fail] 27)).alloc (.cells #[.int .i64 ti, .slice xb xl xd, .slice pb pl pd, .bool flag, .int .i64 pass, .int .i64 fail] 27))) := ⟨((Kp.refl _).alloc _ _).alloc _ _, Blk.grown (Blk.new w _ _) ((Grown.refl _).alloc _ _), blk_new2 w _ _ _⟩
  have SX := hide (fun W (g : Kp w W) => kitSameK xa xb xl xc xd XZ hx W (r1.kp g) (r2.kp g))
  have SP := hide (fun W (g : Kp w W) => kitSameK pa pb pl pc pd PZ hp W (r3.kp g) (r4.kp g))
  have y0 : ((w.alloc (.cells #[.int .i64 ti, .slice xa xl xc, .slice pa pl pc, .bool flag, .int .i64 pass, .int .i64 fail] 27)).alloc (.cells #[.int .i64 ti, .slice xb xl xd, .slice pb pl pd, .bool flag, .int .i64 pass, .int .i64 fail] 27)).cell? ⟨w.heap.size, 0, none⟩ = some (.int .i64 ti) := Blk.cell (unhide G1).2.1 0
  have y1 : ((w.alloc (.cells #[.int .i64 ti, .slice xa xl xc, .slice pa pl pc, .bool flag, .int .i64 pass, .int .i64 fail] 27)).alloc (.cells #[.int .i64 ti, .slice xb xl xd, .slice pb pl pd, .bool flag, .int .i64 pass, .int .i64 fail] 27)).cell? ⟨w.heap.size, 1, none⟩ = some (.slice xa xl xc) := Blk.cell (unhide G1).2.1 1
  have y2 : ((w.alloc (.cells #[.int .i64 ti, .slice xa xl xc, .slice pa pl pc, .bool flag, .int .i64 pass, .int .i64 fail] 27)).alloc (.cells #[.int .i64 ti, .slice xb xl xd, .slice pb pl pd, .bool flag, .int .i64 pass, .int .i64 fail] 27)).cell? ⟨w.heap.size, 2, none⟩ = some (.slice pa pl pc) := Blk.cell (unhide G1).2.1 2
  have y3 : ((w.alloc (.cells #[.int .i64 ti, .slice xa xl xc, .slice pa pl pc, .bool flag, .int .i64 pass, .int .i64 fail] 27)).alloc (.cells #[.int .i64 ti, .slice xb xl xd, .slice pb pl pd, .bool flag, .int .i64 pass, .int .i64 fail] 27)).cell? ⟨w.heap.size, 3, none⟩ = some (.bool flag) := Blk.cell (unhide G1).2.1 3
  have y4 : ((w.alloc (.cells #[.int .i64 ti, .slice xa xl xc, .slice pa pl pc, .bool flag, .int .i64 pass, .int .i64 fail] 27)).alloc (.cells #[.int .i64 ti, .slice xb xl xd, .slice pb pl pd, .bool flag, .int .i64 pass, .int .i64 fail] 27)).cell? ⟨w.heap.size, 4, none⟩ = some (.int .i64 pass) := Blk.cell (unhide G1).2.1 4
  have y5 : ((w.alloc (.cells #[.int .i64 ti, .slice xa xl xc, .slice pa pl pc, .bool flag, .int .i64 pass, .int .i64 fail] 27)).alloc (.cells #[.int .i64 ti, .slice xb xl xd, .slice pb pl pd, .bool flag, .int .i64 pass, .int .i64 fail] 27)).cell? ⟨w.heap.size, 5, none⟩ = some (.int .i64 fail) := Blk.cell (unhide G1).2.1 5
  have z0 : ((w.alloc (.cells #[.int .i64 ti, .slice xa xl xc, .slice pa pl pc, .bool flag, .int .i64 pass, .int .i64 fail] 27)).alloc (.cells #[.int .i64 ti, .slice xb xl xd, .slice pb pl pd, .bool flag, .int .i64 pass, .int .i64 fail] 27)).cell? ⟨w.heap.size + 1, 0, none⟩ = some (.int .i64 ti) := Blk.cell (unhide G1).2.2 0
  have z1 : ((w.alloc (.cells #[.int .i64 ti, .slice xa xl xc, .slice pa pl pc, .bool flag, .int .i64 pass, .int .i64 fail] 27)).alloc (.cells #[.int .i64 ti, .slice xb xl xd, .slice pb pl pd, .bool flag, .int .i64 pass, .int .i64 fail] 27)).cell? ⟨w.heap.size + 1, 1, none⟩ = some (.slice xb xl xd) := Blk.cell (unhide G1).2.2 1
  have z2 : ((w.alloc (.cells #[.int .i64 ti, .slice xa xl xc, .slice pa pl pc, .bool flag, .int .i64 pass, .int .i64 fail] 27)).alloc (.cells #[.int .i64 ti, .slice xb xl xd, .slice pb pl pd, .bool flag, .int .i64 pass, .int .i64 fail] 27)).cell? ⟨w.heap.size + 1, 2, none⟩ = some (.slice pb pl pd) := Blk.cell (unhide G1).2.2 2
  have z3 : ((w.alloc (.cells #[.int .i64 ti, .slice xa xl xc, .slice pa pl pc, .bool flag, .int .i64 pass, .int .i64 fail] 27)).alloc (.cells #[.int .i64 ti, .slice xb xl xd, .slice pb pl pd, .bool flag, .int .i64 pass, .int .i64 fail] 27)).cell? ⟨w.heap.size + 1, 3, none⟩ = some (.bool flag) := Blk.cell (unhide G1).2.2 3
  have z4 : ((w.alloc (.cells #[.int .i64 ti, .slice xa xl xc, .slice pa pl pc, .bool flag, .int .i64 pass, .int .i64 fail] 27)).alloc (.cells #[.int .i64 ti, .slice xb xl xd, .slice pb pl pd, .bool flag, .int .i64 pass, .int .i64 fail] 27)).cell? ⟨w.heap.size + 1, 4, none⟩ = some (.int .i64 pass) := Blk.cell (unhide G1).2.2 4
  have z5 : ((w.alloc (.cells #[.int .i64 ti, .slice xa xl xc, .slice pa pl pc, .bool flag, .int .i64 pass, .int .i64 fail] 27)).alloc (.cells #[.int .i64 ti, .slice xb xl xd, .slice pb pl pd, .bool flag, .int .i64 pass, .int .i64 fail] 27)).cell? ⟨w.heap.size + 1, 5, none⟩ = some (.int .i64 fail) := Blk.cell (unhide G1).2.2 5
  clear hx hp r1 r2 r3 r4
  go_enter Try.func23, Try.ntmps23
  go_wp2_with fail
  generalize ((w.alloc (.cells #[.int .i64 ti, .slice xa xl xc, .slice pa pl pc, .bool flag, .int .i64 pass, .int .i64 fail] 27)).alloc (.cells #[.int .i64 ti, .slice xb xl xd, .slice pb pl pd, .bool flag, .int .i64 pass, .int .i64 fail] 27)) = w1 at *
  refine (unhide SX _ (unhide G1).1).mono ?_
  rintro e w2 ⟨rfl, k2⟩
  have G2 := hide (And.intro ((unhide G1).1.trans k2) (And.intro (Blk.kp (unhide G1).2.1 k2) (Blk.kp (unhide G1).2.2 k2)))
  clear k2 G1 SX y0 y1 y2 y3 y4 y5 z0 z1 z2 z3 z4 z5
  have y0 : w2.cell? ⟨w.heap.size, 0, none⟩ = some (.int .i64 ti) := Blk.cell (unhide G2).2.1 0
  have y1 : w2.cell? ⟨w.heap.size, 1, none⟩ = some (.slice xa xl xc) := Blk.cell (unhide G2).2.1 1
  have y2 : w2.cell? ⟨w.heap.size, 2, none⟩ = some (.slice pa pl pc) := Blk.cell (unhide G2).2.1 2
  have y3 : w2.cell? ⟨w.heap.size, 3, none⟩ = some (.bool flag) := Blk.cell (unhide G2).2.1 3
  have y4 : w2.cell? ⟨w.heap.size, 4, none⟩ = some (.int .i64 pass) := Blk.cell (unhide G2).2.1 4
  have y5 : w2.cell? ⟨w.heap.size, 5, none⟩ = some (.int .i64 fail) := Blk.cell (unhide G2).2.1 5
  have z0 : w2.cell? ⟨w.heap.size + 1, 0, none⟩ = some (.int .i64 ti) := Blk.cell (unhide G2).2.2 0
  have z1 : w2.cell? ⟨w.heap.size + 1, 1, none⟩ = some (.slice xb xl xd) := Blk.cell (unhide G2).2.2 1
  have z2 : w2.cell? ⟨w.heap.size + 1, 2, none⟩ = some (.slice pb pl pd) := Blk.cell (unhide G2).2.2 2
  have z3 : w2.cell? ⟨w.heap.size + 1, 3, none⟩ = some (.bool flag) := Blk.cell (unhide G2).2.2 3
  have z4 : w2.cell? ⟨w.heap.size + 1, 4, none⟩ = some (.int .i64 pass) := Blk.cell (unhide G2).2.2 4
  have z5 : w2.cell? ⟨w.heap.size + 1, 5, none⟩ = some (.int .i64 fail) := Blk.cell (unhide G2).2.2 5
  go_wp2_with fail
  refine (unhide SP _ (unhide G2).1).mono ?_
  rintro e w3 ⟨rfl, k3⟩
  have G3 := hide (And.intro ((unhide G2).1.trans k3) (And.intro (Blk.kp (unhide G2).2.1 k3) (Blk.kp (unhide G2).2.2 k3)))
  clear k3 G2 SP y0 y1 y2 y3 y4 y5 z0 z1 z2 z3 z4 z5
  have y0 : w3.cell? ⟨w.heap.size, 0, none⟩ = some (.int .i64 ti) := Blk.cell (unhide G3).2.1 0
  have y1 : w3.cell? ⟨w.heap.size, 1, none⟩ = some (.slice xa xl xc) := Blk.cell (unhide G3).2.1 1
  have y2 : w3.cell? ⟨w.heap.size, 2, none⟩ = some (.slice pa pl pc) := Blk.cell (unhide G3).2.1 2
  have y3 : w3.cell? ⟨w.heap.size, 3, none⟩ = some (.bool flag) := Blk.cell (unhide G3).2.1 3
  have y4 : w3.cell? ⟨w.heap.size, 4, none⟩ = some (.int .i64 pass) := Blk.cell (unhide G3).2.1 4
  have y5 : w3.cell? ⟨w.heap.size, 5, none⟩ = some (.int .i64 fail) := Blk.cell (unhide G3).2.1 5
  have z0 : w3.cell? ⟨w.heap.size + 1, 0, none⟩ = some (.int .i64 ti) := Blk.cell (unhide G3).2.2 0
  have z1 : w3.cell? ⟨w.heap.size + 1, 1, none⟩ = some (.slice xb xl xd) := Blk.cell (unhide G3).2.2 1
  have z2 : w3.cell? ⟨w.heap.size + 1, 2, none⟩ = some (.slice pb pl pd) := Blk.cell (unhide G3).2.2 2
  have z3 : w3.cell? ⟨w.heap.size + 1, 3, none⟩ = some (.bool flag) := Blk.cell (unhide G3).2.2 3
  have z4 : w3.cell? ⟨w.heap.size + 1, 4, none⟩ = some (.int .i64 pass) := Blk.cell (unhide G3).2.2 4
  have z5 : w3.cell? ⟨w.heap.size + 1, 5, none⟩ = some (.int .i64 fail) := Blk.cell (unhide G3).2.2 5
  go_wp2
  go_ret
  exact ⟨by simp, (unhide G3).1⟩

set_option maxRecDepth 20000 in
set_option maxHeartbeats 8000000 in
theorem kitSameMc (N tick gate rmin : Int) (aa ab qa qb ro rp : Option Addr) (al ac ad ql qc qd rl rc rd : Nat) (A Q : Nat → Int) (X Y : Nat → RV) (h1 : al ≤ 1000000) (h2 : ql ≤ 1000000) (h3 : rl ≤ 1000) (w : World) (r1 : Row w aa al A) (r2 : Row w ab al A) (r3 : Row w qa ql Q) (r4 : Row w qb ql Q) (hs : sameRs rl X Y ro rp w) :
    Calls Try.prog 22 #[.agg #[.int .i64 N, .slice aa al ac, .slice qa ql qc, .int .i64 tick, .int .i64 gate, .int .i64 rmin, .slice ro rl rc], .agg #[.int .i64 N, .slice ab al ad, .slice qb ql qd, .int .i64 tick, .int .i64 gate, .int .i64 rmin, .slice rp rl rd]] w fun e w' => e = .returned (.bool true) ∧ Kp w w' := by
  have G1 : Hid (Kp w ((w.alloc (.cells #[.int .i64 N, .slice aa al ac, .slice qa ql qc, .int .i64 tick, .int .i64 gate, .int .i64 rmin, .slice ro rl rc] 25)).alloc (.cells #[.int .i64 N, .slice ab al ad, .slice qb ql qd, .int .i64 tick, .int .i64 gate, .int .i64 rmin, .slice rp rl rd] 25)) ∧ Blk w.heap.size #[.int .i64 N, .slice aa al ac, .slice qa ql qc, .int .i64 tick, .int .i64 gate, .int .i64 rmin, .slice ro rl rc] 25 ((w.alloc (.cells #[.int .i64 N, .slice aa al ac, .slice qa ql qc, .int .i64 tick, .int .i64 gate, .int .i64 rmin, .slice ro rl rc] 25)).alloc (.cells #[.int .i64 N, .slice ab al ad, .slice qb ql qd, .int .i64 tick, .int .i64 gate, .int .i64 rmin, .slice rp rl rd] 25)) ∧ Blk (w.heap.size + 1) #[.int .i64 N, .slice ab al ad, .slice qb ql qd, .int .i64 tick, .int .i64 gate, .int .i64 rmin, .slice rp rl rd] 25 ((w.alloc (.cells #[.int .i64 N, .slice aa al ac, .slice qa ql qc, .int .i64 tick, .int .i64 gate, .int .i64 rmin, .slice ro rl rc] 25)).alloc (.cells #[.int .i64 N, .slice ab al ad, .slice qb ql qd, .int .i64 tick, .int .i64 gate, .int .i64 rmin, .slice rp rl rd] 25))) := ⟨((Kp.refl _).alloc _ _).alloc _ _, Blk.grown (Blk.new w _ _) ((Grown.refl _).alloc _ _), blk_new2 w _ _ _⟩
  have SX := hide (fun W (g : Kp w W) => kitSameK aa ab al ac ad A h1 W (r1.kp g) (r2.kp g))
  have SP := hide (fun W (g : Kp w W) => kitSameK qa qb ql qc qd Q h2 W (r3.kp g) (r4.kp g))
  have H0 := hide hs
  have y0 : ((w.alloc (.cells #[.int .i64 N, .slice aa al ac, .slice qa ql qc, .int .i64 tick, .int .i64 gate, .int .i64 rmin, .slice ro rl rc] 25)).alloc (.cells #[.int .i64 N, .slice ab al ad, .slice qb ql qd, .int .i64 tick, .int .i64 gate, .int .i64 rmin, .slice rp rl rd] 25)).cell? ⟨w.heap.size, 0, none⟩ = some (.int .i64 N) := Blk.cell (unhide G1).2.1 0
  have y1 : ((w.alloc (.cells #[.int .i64 N, .slice aa al ac, .slice qa ql qc, .int .i64 tick, .int .i64 gate, .int .i64 rmin, .slice ro rl rc] 25)).alloc (.cells #[.int .i64 N, .slice ab al ad, .slice qb ql qd, .int .i64 tick, .int .i64 gate, .int .i64 rmin, .slice rp rl rd] 25)).cell? ⟨w.heap.size, 1, none⟩ = some (.slice aa al ac) := Blk.cell (unhide G1).2.1 1
  have y2 : ((w.alloc (.cells #[.int .i64 N, .slice aa al ac, .slice qa ql qc, .int .i64 tick, .int .i64 gate, .int .i64 rmin, .slice ro rl rc] 25)).alloc (.cells #[.int .i64 N, .slice ab al ad, .slice qb ql qd, .int .i64 tick, .int .i64 gate, .int .i64 rmin, .slice rp rl rd] 25)).cell? ⟨w.heap.size, 2, none⟩ = some (.slice qa ql qc) := Blk.cell (unhide G1).2.1 2
  have y3 : ((w.alloc (.cells #[.int .i64 N, .slice aa al ac, .slice qa ql qc, .int .i64 tick, .int .i64 gate, .int .i64 rmin, .slice ro rl rc] 25)).alloc (.cells #[.int .i64 N, .slice ab al ad, .slice qb ql qd, .int .i64 tick, .int .i64 gate, .int .i64 rmin, .slice rp rl rd] 25)).cell? ⟨w.heap.size, 3, none⟩ = some (.int .i64 tick) := Blk.cell (unhide G1).2.1 3
  have y4 : ((w.alloc (.cells #[.int .i64 N, .slice aa al ac, .slice qa ql qc, .int .i64 tick, .int .i64 gate, .int .i64 rmin, .slice ro rl rc] 25)).alloc (.cells #[.int .i64 N, .slice ab al ad, .slice qb ql qd, .int .i64 tick, .int .i64 gate, .int .i64 rmin, .slice rp rl rd] 25)).cell? ⟨w.heap.size, 4, none⟩ = some (.int .i64 gate) := Blk.cell (unhide G1).2.1 4
  have y5 : ((w.alloc (.cells #[.int .i64 N, .slice aa al ac, .slice qa ql qc, .int .i64 tick, .int .i64 gate, .int .i64 rmin, .slice ro rl rc] 25)).alloc (.cells #[.int .i64 N, .slice ab al ad, .slice qb ql qd, .int .i64 tick, .int .i64 gate, .int .i64 rmin, .slice rp rl rd] 25)).cell? ⟨w.heap.size, 5, none⟩ = some (.int .i64 rmin) := Blk.cell (unhide G1).2.1 5
  have y6 : ((w.alloc (.cells #[.int .i64 N, .slice aa al ac, .slice qa ql qc, .int .i64 tick, .int .i64 gate, .int .i64 rmin, .slice ro rl rc] 25)).alloc (.cells #[.int .i64 N, .slice ab al ad, .slice qb ql qd, .int .i64 tick, .int .i64 gate, .int .i64 rmin, .slice rp rl rd] 25)).cell? ⟨w.heap.size, 6, none⟩ = some (.slice ro rl rc) := Blk.cell (unhide G1).2.1 6
  have z0 : ((w.alloc (.cells #[.int .i64 N, .slice aa al ac, .slice qa ql qc, .int .i64 tick, .int .i64 gate, .int .i64 rmin, .slice ro rl rc] 25)).alloc (.cells #[.int .i64 N, .slice ab al ad, .slice qb ql qd, .int .i64 tick, .int .i64 gate, .int .i64 rmin, .slice rp rl rd] 25)).cell? ⟨w.heap.size + 1, 0, none⟩ = some (.int .i64 N) := Blk.cell (unhide G1).2.2 0
  have z1 : ((w.alloc (.cells #[.int .i64 N, .slice aa al ac, .slice qa ql qc, .int .i64 tick, .int .i64 gate, .int .i64 rmin, .slice ro rl rc] 25)).alloc (.cells #[.int .i64 N, .slice ab al ad, .slice qb ql qd, .int .i64 tick, .int .i64 gate, .int .i64 rmin, .slice rp rl rd] 25)).cell? ⟨w.heap.size + 1, 1, none⟩ = some (.slice ab al ad) := Blk.cell (unhide G1).2.2 1
  have z2 : ((w.alloc (.cells #[.int .i64 N, .slice aa al ac, .slice qa ql qc, .int .i64 tick, .int .i64 gate, .int .i64 rmin, .slice ro rl rc] 25)).alloc (.cells #[.int .i64 N, .slice ab al ad, .slice qb ql qd, .int .i64 tick, .int .i64 gate, .int .i64 rmin, .slice rp rl rd] 25)).cell? ⟨w.heap.size + 1, 2, none⟩ = some (.slice qb ql qd) := Blk.cell (unhide G1).2.2 2
  have z3 : ((w.alloc (.cells #[.int .i64 N, .slice aa al ac, .slice qa ql qc, .int .i64 tick, .int .i64 gate, .int .i64 rmin, .slice ro rl rc] 25)).alloc (.cells #[.int .i64 N, .slice ab al ad, .slice qb ql qd, .int .i64 tick, .int .i64 gate, .int .i64 rmin, .slice rp rl rd] 25)).cell? ⟨w.heap.size + 1, 3, none⟩ = some (.int .i64 tick) := Blk.cell (unhide G1).2.2 3
  have z4 : ((w.alloc (.cells #[.int .i64 N, .slice aa al ac, .slice qa ql qc, .int .i64 tick, .int .i64 gate, .int .i64 rmin, .slice ro rl rc] 25)).alloc (.cells #[.int .i64 N, .slice ab al ad, .slice qb ql qd, .int .i64 tick, .int .i64 gate, .int .i64 rmin, .slice rp rl rd] 25)).cell? ⟨w.heap.size + 1, 4, none⟩ = some (.int .i64 gate) := Blk.cell (unhide G1).2.2 4
  have z5 : ((w.alloc (.cells #[.int .i64 N, .slice aa al ac, .slice qa ql qc, .int .i64 tick, .int .i64 gate, .int .i64 rmin, .slice ro rl rc] 25)).alloc (.cells #[.int .i64 N, .slice ab al ad, .slice qb ql qd, .int .i64 tick, .int .i64 gate, .int .i64 rmin, .slice rp rl rd] 25)).cell? ⟨w.heap.size + 1, 5, none⟩ = some (.int .i64 rmin) := Blk.cell (unhide G1).2.2 5
  have z6 : ((w.alloc (.cells #[.int .i64 N, .slice aa al ac, .slice qa ql qc, .int .i64 tick, .int .i64 gate, .int .i64 rmin, .slice ro rl rc] 25)).alloc (.cells #[.int .i64 N, .slice ab al ad, .slice qb ql qd, .int .i64 tick, .int .i64 gate, .int .i64 rmin, .slice rp rl rd] 25)).cell? ⟨w.heap.size + 1, 6, none⟩ = some (.slice rp rl rd) := Blk.cell (unhide G1).2.2 6
  clear h1 h2 r1 r2 r3 r4 hs
  go_enter Try.func22, Try.ntmps22
  go_wp2_with fail
  generalize ((w.alloc (.cells #[.int .i64 N, .slice aa al ac, .slice qa ql qc, .int .i64 tick, .int .i64 gate, .int .i64 rmin, .slice ro rl rc] 25)).alloc (.cells #[.int .i64 N, .slice ab al ad, .slice qb ql qd, .int .i64 tick, .int .i64 gate, .int .i64 rmin, .slice rp rl rd] 25)) = w1 at *
  refine (unhide SX _ (unhide G1).1).mono ?_
  rintro e w2 ⟨rfl, k2⟩
  have G2 := hide (And.intro ((unhide G1).1.trans k2) (And.intro (Blk.kp (unhide G1).2.1 k2) (Blk.kp (unhide G1).2.2 k2)))
  clear k2 G1 SX y0 y1 y2 y3 y4 y5 y6 z0 z1 z2 z3 z4 z5 z6
  have y0 : w2.cell? ⟨w.heap.size, 0, none⟩ = some (.int .i64 N) := Blk.cell (unhide G2).2.1 0
  have y1 : w2.cell? ⟨w.heap.size, 1, none⟩ = some (.slice aa al ac) := Blk.cell (unhide G2).2.1 1
  have y2 : w2.cell? ⟨w.heap.size, 2, none⟩ = some (.slice qa ql qc) := Blk.cell (unhide G2).2.1 2
  have y3 : w2.cell? ⟨w.heap.size, 3, none⟩ = some (.int .i64 tick) := Blk.cell (unhide G2).2.1 3
  have y4 : w2.cell? ⟨w.heap.size, 4, none⟩ = some (.int .i64 gate) := Blk.cell (unhide G2).2.1 4
  have y5 : w2.cell? ⟨w.heap.size, 5, none⟩ = some (.int .i64 rmin) := Blk.cell (unhide G2).2.1 5
  have y6 : w2.cell? ⟨w.heap.size, 6, none⟩ = some (.slice ro rl rc) := Blk.cell (unhide G2).2.1 6
  have z0 : w2.cell? ⟨w.heap.size + 1, 0, none⟩ = some (.int .i64 N) := Blk.cell (unhide G2).2.2 0
  have z1 : w2.cell? ⟨w.heap.size + 1, 1, none⟩ = some (.slice ab al ad) := Blk.cell (unhide G2).2.2 1
  have z2 : w2.cell? ⟨w.heap.size + 1, 2, none⟩ = some (.slice qb ql qd) := Blk.cell (unhide G2).2.2 2
  have z3 : w2.cell? ⟨w.heap.size + 1, 3, none⟩ = some (.int .i64 tick) := Blk.cell (unhide G2).2.2 3
  have z4 : w2.cell? ⟨w.heap.size + 1, 4, none⟩ = some (.int .i64 gate) := Blk.cell (unhide G2).2.2 4
  have z5 : w2.cell? ⟨w.heap.size + 1, 5, none⟩ = some (.int .i64 rmin) := Blk.cell (unhide G2).2.2 5
  have z6 : w2.cell? ⟨w.heap.size + 1, 6, none⟩ = some (.slice rp rl rd) := Blk.cell (unhide G2).2.2 6
  go_wp2_with fail
  refine (unhide SP _ (unhide G2).1).mono ?_
  rintro e w3 ⟨rfl, k3⟩
  have G3 := hide (And.intro ((unhide G2).1.trans k3) (And.intro (Blk.kp (unhide G2).2.1 k3) (Blk.kp (unhide G2).2.2 k3)))
  clear k3 G2 SP y0 y1 y2 y3 y4 y5 y6 z0 z1 z2 z3 z4 z5 z6
  have y0 : w3.cell? ⟨w.heap.size, 0, none⟩ = some (.int .i64 N) := Blk.cell (unhide G3).2.1 0
  have y1 : w3.cell? ⟨w.heap.size, 1, none⟩ = some (.slice aa al ac) := Blk.cell (unhide G3).2.1 1
  have y2 : w3.cell? ⟨w.heap.size, 2, none⟩ = some (.slice qa ql qc) := Blk.cell (unhide G3).2.1 2
  have y3 : w3.cell? ⟨w.heap.size, 3, none⟩ = some (.int .i64 tick) := Blk.cell (unhide G3).2.1 3
  have y4 : w3.cell? ⟨w.heap.size, 4, none⟩ = some (.int .i64 gate) := Blk.cell (unhide G3).2.1 4
  have y5 : w3.cell? ⟨w.heap.size, 5, none⟩ = some (.int .i64 rmin) := Blk.cell (unhide G3).2.1 5
  have y6 : w3.cell? ⟨w.heap.size, 6, none⟩ = some (.slice ro rl rc) := Blk.cell (unhide G3).2.1 6
  have z0 : w3.cell? ⟨w.heap.size + 1, 0, none⟩ = some (.int .i64 N) := Blk.cell (unhide G3).2.2 0
  have z1 : w3.cell? ⟨w.heap.size + 1, 1, none⟩ = some (.slice ab al ad) := Blk.cell (unhide G3).2.2 1
  have z2 : w3.cell? ⟨w.heap.size + 1, 2, none⟩ = some (.slice qb ql qd) := Blk.cell (unhide G3).2.2 2
  have z3 : w3.cell? ⟨w.heap.size + 1, 3, none⟩ = some (.int .i64 tick) := Blk.cell (unhide G3).2.2 3
  have z4 : w3.cell? ⟨w.heap.size + 1, 4, none⟩ = some (.int .i64 gate) := Blk.cell (unhide G3).2.2 4
  have z5 : w3.cell? ⟨w.heap.size + 1, 5, none⟩ = some (.int .i64 rmin) := Blk.cell (unhide G3).2.2 5
  have z6 : w3.cell? ⟨w.heap.size + 1, 6, none⟩ = some (.slice rp rl rd) := Blk.cell (unhide G3).2.2 6
  go_wp2_with fail
  clear y0 y1 y2 y3 y4 y5 y6 z0 z1 z2 z3 z4 z5 z6
  go_loopw [5] (fun i wr => ∃ k : Nat, k ≤ rl ∧ i = .int .i64 k ∧ Hid (Kp w wr ∧ Blk w.heap.size #[.int .i64 N, .slice aa al ac, .slice qa ql qc, .int .i64 tick, .int .i64 gate, .int .i64 rmin, .slice ro rl rc] 25 wr ∧ Blk (w.heap.size + 1) #[.int .i64 N, .slice ab al ad, .slice qb ql qd, .int .i64 tick, .int .i64 gate, .int .i64 rmin, .slice rp rl rd] 25 wr)) (fun i _ => rl - (intOf i).toNat)
  case atStart => exact ⟨0, Nat.zero_le _, rfl, unhide G3⟩
  case round =>
    obtain ⟨k, hk, rfl, HI⟩ := hrel
    clear G3
    by_cases hlt : k < rl
    · have S1 := hide (fun W (g : Kp wr W) => (unhide H0).one hlt W ((unhide HI).1.trans g))
      obtain ⟨b, o, rfl, c0, c1, c2⟩ := ((unhide H0).1.kp (unhide HI).1).at hlt
      obtain ⟨b2, o2, rfl, d0, d1, d2⟩ := ((unhide H0).2.1.kp (unhide HI).1).at hlt
      obtain ⟨e1, e2, e3, _⟩ := ((unhide H0).2.2 k hlt).1
      rw [← e1] at d0
      rw [← e3] at d1
      rw [← e2] at d2
      clear e1 e2 e3
      have i0 : (0 : Int) ≤ (k : Int) := Int.natCast_nonneg _
      have i1 : (k : Int) < (rl : Int) := Int.ofNat_lt.2 hlt
      have BB1 : Hid (k + 1 ≤ rl) := hlt
      generalize (X k).s = s at *
      generalize (X k).r = r at *
      generalize (X k).h.ao = a1 at *
      generalize (X k).h.len = len at *
      generalize (X k).h.cap = p1 at *
      generalize (Y k).h.ao = a2 at *
      generalize (Y k).h.cap = p2 at *
      have y6 : wr.cell? ⟨w.heap.size, 6, none⟩ = some (.slice (some ⟨b, o, none⟩) rl rc) := Blk.cell (unhide HI).2.1 6
      have z6 : wr.cell? ⟨w.heap.size + 1, 6, none⟩ = some (.slice (some ⟨b2, o2, none⟩) rl rd) := Blk.cell (unhide HI).2.2 6
      have CW : Hid (∀ W, Kp wr W → (W.cell? ⟨w.heap.size, 6, none⟩ = some (.slice (some ⟨b, o, none⟩) rl rc) ∧ W.cell? ⟨w.heap.size + 1, 6, none⟩ = some (.slice (some ⟨b2, o2, none⟩) rl rd)) ∧ (W.cell? ⟨b, o + k * 3, none⟩ = some (.int .i64 s) ∧ W.cell? ⟨b, o + k * 3 + 1, none⟩ = some (.slice a1 len p1) ∧ W.cell? ⟨b, o + k * 3 + 2, none⟩ = some (.int .i64 r)) ∧ (W.cell? ⟨b2, o2 + k * 3, none⟩ = some (.int .i64 s) ∧ W.cell? ⟨b2, o2 + k * 3 + 1, none⟩ = some (.slice a2 len p2) ∧ W.cell? ⟨b2, o2 + k * 3 + 2, none⟩ = some (.int .i64 r))) := fun W g => ⟨⟨g.cell y6, g.cell z6⟩, ⟨g.cell c0, g.cell c1, g.cell c2⟩, ⟨g.cell d0, g.cell d1, g.cell d2⟩⟩
      have gx := heap_gt c0
      have gy := heap_gt d0
      have gz := heap_gt y6
      have gv := heap_gt z6
      go_wp2_with fail
      go_region_held3 (fun w' => w'.cell? ⟨w.heap.size, 6, none⟩ = some (.slice (some ⟨b, o, none⟩) rl rc) ∧ w'.cell? ⟨w.heap.size + 1, 6, none⟩ = some (.slice (some ⟨b2, o2, none⟩) rl rd) ∧ w'.cell? ⟨b, o + k * 3, none⟩ = some (.int .i64 s) ∧ w'.cell? ⟨b, o + k * 3 + 1, none⟩ = some (.slice a1 len p1) ∧ w'.cell? ⟨b, o + k * 3 + 2, none⟩ = some (.int .i64 r) ∧ w'.cell? ⟨b2, o2 + k * 3, none⟩ = some (.int .i64 s) ∧ w'.cell? ⟨b2, o2 + k * 3 + 1, none⟩ = some (.slice a2 len p2) ∧ w'.cell? ⟨b2, o2 + k * 3 + 2, none⟩ = some (.int .i64 r))
          (simp [go_sem, *])
          (first
            | (go_at_call 49; refine (unhide S1 _ (show Kp wr wr.drew from Kp.refl _)).mono ?_; clear S1; rintro e w5 ⟨rfl, k5⟩; have K5 : Hid (Kp wr w5) := k5; obtain ⟨⟨x6, x7⟩, ⟨x0, x1, x2⟩, ⟨x3, x4, x5⟩⟩ := unhide CW w5 (unhide K5); have gy1 := heap_gt x0; have gy2 := heap_gt x3; have gy3 := heap_gt x6; have gy4 := heap_gt x7; clear k5))
      have K6 : Hid (Kp w w5 ∧ Blk w.heap.size #[.int .i64 N, .slice aa al ac, .slice qa ql qc, .int .i64 tick, .int .i64 gate, .int .i64 rmin, .slice (some ⟨b, o, none⟩) rl rc] 25 w5 ∧ Blk (w.heap.size + 1) #[.int .i64 N, .slice ab al ad, .slice qb ql qd, .int .i64 tick, .int .i64 gate, .int .i64 rmin, .slice (some ⟨b2, o2, none⟩) rl rd] 25 w5) := ⟨(unhide HI).1.trans (unhide K5), Blk.kp (unhide HI).2.1 (unhide K5), Blk.kp (unhide HI).2.2 (unhide K5)⟩
      clear CW HI
      go_wp2
      go_roundw
      case rel => exact ⟨k + 1, unhide BB1, by go_num, K6⟩
      case measure => have := unhide BB1; simp [intOf]; omega
    · obtain rfl : k = rl := by omega
      have y6 : wr.cell? ⟨w.heap.size, 6, none⟩ = some (.slice ro k rc) := Blk.cell (unhide HI).2.1 6
      have z6 : wr.cell? ⟨w.heap.size + 1, 6, none⟩ = some (.slice rp k rd) := Blk.cell (unhide HI).2.2 6
      go_wp2
      go_ret
      exact ⟨rfl, (unhide HI).1⟩

end Go.Proofs.Ytpanfppnkgokdaa

/- The kit's CopyBelief, CopyModel. -/
namespace Go.Proofs.Ytpanfppnkgokdaa
open Go.RowKit Go.Shelf Go.Proofs.Wd
set_option linter.unusedVariables false
set_option linter.unusedSimpArgs false
set_option maxRecDepth 10000

/-- A copy of a belief. -/
def CopyBC (ti pass fail : Int) (flag : Bool) (xl pl : Nat) (XZ PZ : Nat → Int) (w : World) (e : Ending) (w' : World) : Prop :=
  ∃ a p a2 p2, e = .returned (.agg #[.int .i64 ti, .slice a xl p, .slice a2 pl p2, .bool flag, .int .i64 pass, .int .i64 fail]) ∧ FitL a xl p ∧ FitL a2 pl p2 ∧ Row w' a xl XZ ∧ Row w' a2 pl PZ ∧ (∀ U, U < w.heap.size → Off U xl a ∧ Off U pl a2) ∧ Kp w w'

set_option maxRecDepth 20000 in
set_option maxHeartbeats 4000000 in
theorem kitCopyBc (ti pass fail : Int) (flag : Bool) (xa pa : Option Addr) (xl xc pl pc : Nat) (XZ PZ : Nat → Int) (hx : xl ≤ 1000000) (hp : pl ≤ 1000000) (nx : xa = none → xl = 0 ∧ xc = 0) (np : pa = none → pl = 0 ∧ pc = 0) (w : World) (r1 : Row w xa xl XZ) (r2 : Row w pa pl PZ) :
    Calls Try.prog 12 #[.agg #[.int .i64 ti, .slice xa xl xc, .slice pa pl pc, .bool flag, .int .i64 pass, .int .i64 fail]] w fun e w' => CopyBC ti pass fail flag xl pl XZ PZ w e w' := by
  have G1 : Hid (Kp w ((w.alloc (.cells #[.int .i64 ti, .slice xa xl xc, .slice pa pl pc, .bool flag, .int .i64 pass, .int .i64 fail] 27)).alloc (.cells #[.int .i64 0, .slice none 0 0, .slice none 0 0, .bool false, .int .i64 0, .int .i64 0] 27)) ∧ Blk w.heap.size #[.int .i64 ti, .slice xa xl xc, .slice pa pl pc, .bool flag, .int .i64 pass, .int .i64 fail] 27 ((w.alloc (.cells #[.int .i64 ti, .slice xa xl xc, .slice pa pl pc, .bool flag, .int .i64 pass, .int .i64 fail] 27)).alloc (.cells #[.int .i64 0, .slice none 0 0, .slice none 0 0, .bool false, .int .i64 0, .int .i64 0] 27)) ∧ Blk (w.heap.size + 1) #[.int .i64 0, .slice none 0 0, .slice none 0 0, .bool false, .int .i64 0, .int .i64 0] 27 ((w.alloc (.cells #[.int .i64 ti, .slice xa xl xc, .slice pa pl pc, .bool flag, .int .i64 pass, .int .i64 fail] 27)).alloc (.cells #[.int .i64 0, .slice none 0 0, .slice none 0 0, .bool false, .int .i64 0, .int .i64 0] 27))) := ⟨((Kp.refl _).alloc _ _).alloc _ _, Blk.grown (Blk.new w _ _) ((Grown.refl _).alloc _ _), blk_new2 w _ _ _⟩
  have CX := hide (fun W (g : Kp w W) => kitCopyN xa xl xc XZ hx nx W (r1.kp g))
  have CP := hide (fun W (g : Kp w W) => kitCopyN pa pl pc PZ hp np W (r2.kp g))
  have y0 : ((w.alloc (.cells #[.int .i64 ti, .slice xa xl xc, .slice pa pl pc, .bool flag, .int .i64 pass, .int .i64 fail] 27)).alloc (.cells #[.int .i64 0, .slice none 0 0, .slice none 0 0, .bool false, .int .i64 0, .int .i64 0] 27)).cell? ⟨w.heap.size, 0, none⟩ = some (.int .i64 ti) := Blk.cell (unhide G1).2.1 0
  have y1 : ((w.alloc (.cells #[.int .i64 ti, .slice xa xl xc, .slice pa pl pc, .bool flag, .int .i64 pass, .int .i64 fail] 27)).alloc (.cells #[.int .i64 0, .slice none 0 0, .slice none 0 0, .bool false, .int .i64 0, .int .i64 0] 27)).cell? ⟨w.heap.size, 1, none⟩ = some (.slice xa xl xc) := Blk.cell (unhide G1).2.1 1
  have y2 : ((w.alloc (.cells #[.int .i64 ti, .slice xa xl xc, .slice pa pl pc, .bool flag, .int .i64 pass, .int .i64 fail] 27)).alloc (.cells #[.int .i64 0, .slice none 0 0, .slice none 0 0, .bool false, .int .i64 0, .int .i64 0] 27)).cell? ⟨w.heap.size, 2, none⟩ = some (.slice pa pl pc) := Blk.cell (unhide G1).2.1 2
  have y3 : ((w.alloc (.cells #[.int .i64 ti, .slice xa xl xc, .slice pa pl pc, .bool flag, .int .i64 pass, .int .i64 fail] 27)).alloc (.cells #[.int .i64 0, .slice none 0 0, .slice none 0 0, .bool false, .int .i64 0, .int .i64 0] 27)).cell? ⟨w.heap.size, 3, none⟩ = some (.bool flag) := Blk.cell (unhide G1).2.1 3
  have y4 : ((w.alloc (.cells #[.int .i64 ti, .slice xa xl xc, .slice pa pl pc, .bool flag, .int .i64 pass, .int .i64 fail] 27)).alloc (.cells #[.int .i64 0, .slice none 0 0, .slice none 0 0, .bool false, .int .i64 0, .int .i64 0] 27)).cell? ⟨w.heap.size, 4, none⟩ = some (.int .i64 pass) := Blk.cell (unhide G1).2.1 4
  have y5 : ((w.alloc (.cells #[.int .i64 ti, .slice xa xl xc, .slice pa pl pc, .bool flag, .int .i64 pass, .int .i64 fail] 27)).alloc (.cells #[.int .i64 0, .slice none 0 0, .slice none 0 0, .bool false, .int .i64 0, .int .i64 0] 27)).cell? ⟨w.heap.size, 5, none⟩ = some (.int .i64 fail) := Blk.cell (unhide G1).2.1 5
  clear hx hp nx np r1 r2
  go_enter Try.func12, Try.ntmps12
  go_wp2_with fail
  generalize ((w.alloc (.cells #[.int .i64 ti, .slice xa xl xc, .slice pa pl pc, .bool flag, .int .i64 pass, .int .i64 fail] 27)).alloc (.cells #[.int .i64 0, .slice none 0 0, .slice none 0 0, .bool false, .int .i64 0, .int .i64 0] 27)) = w1 at *
  refine (unhide CX _ (unhide G1).1).mono ?_
  rintro e w2 ⟨a, p, rfl, hp, hr, ho, k2⟩
  have l1 := Blk.lt (unhide G1).2.2
  have b2 := Blk.kp (unhide G1).2.1 k2
  have f2 := Blk.free b2
  have sm : Mod w.heap.size w2 (w2.setCell ⟨w.heap.size, 1, none⟩ (.slice a xl p)) := (Mod.refl _ _).setCell _ _
  have G2 : Hid (Kp w (w2.setCell ⟨w.heap.size, 1, none⟩ (.slice a xl p)) ∧ Blk w.heap.size #[.int .i64 ti, .slice a xl p, .slice pa pl pc, .bool flag, .int .i64 pass, .int .i64 fail] 27 (w2.setCell ⟨w.heap.size, 1, none⟩ (.slice a xl p)) ∧ Blk (w.heap.size + 1) #[.int .i64 0, .slice none 0 0, .slice none 0 0, .bool false, .int .i64 0, .int .i64 0] 27 (w2.setCell ⟨w.heap.size, 1, none⟩ (.slice a xl p)) ∧ FitL a xl p ∧ Row (w2.setCell ⟨w.heap.size, 1, none⟩ (.slice a xl p)) a xl XZ ∧ ∀ U, U < w.heap.size + 2 → Off U xl a) := ⟨((unhide G1).1.trans k2).mod sm (Nat.le_refl _), Blk.set b2 1 _, Blk.keep (Blk.kp (unhide G1).2.2 k2) sm (by omega), hp, hr.mk (Mk.of sm) (ho _ (by omega)), fun U hU => ho U (by omega)⟩
  have z0 : w2.cell? ⟨w.heap.size, 0, none⟩ = some (.int .i64 ti) := Blk.cell b2 0
  have z1 : w2.cell? ⟨w.heap.size, 1, none⟩ = some (.slice xa xl xc) := Blk.cell b2 1
  have z2 : w2.cell? ⟨w.heap.size, 2, none⟩ = some (.slice pa pl pc) := Blk.cell b2 2
  have z3 : w2.cell? ⟨w.heap.size, 3, none⟩ = some (.bool flag) := Blk.cell b2 3
  have z4 : w2.cell? ⟨w.heap.size, 4, none⟩ = some (.int .i64 pass) := Blk.cell b2 4
  have z5 : w2.cell? ⟨w.heap.size, 5, none⟩ = some (.int .i64 fail) := Blk.cell b2 5
  clear hp hr ho k2 b2 sm CX G1 l1 y0 y1 y2 y3 y4 y5
  go_upto_region 2 with fail
  clear f2 z0 z1 z2 z3 z4 z5
  generalize (w2.setCell ⟨w.heap.size, 1, none⟩ (.slice a xl p)) = w3 at *
  have y0 : w3.cell? ⟨w.heap.size, 0, none⟩ = some (.int .i64 ti) := Blk.cell (unhide G2).2.1 0
  have y1 : w3.cell? ⟨w.heap.size, 1, none⟩ = some (.slice a xl p) := Blk.cell (unhide G2).2.1 1
  have y2 : w3.cell? ⟨w.heap.size, 2, none⟩ = some (.slice pa pl pc) := Blk.cell (unhide G2).2.1 2
  have y3 : w3.cell? ⟨w.heap.size, 3, none⟩ = some (.bool flag) := Blk.cell (unhide G2).2.1 3
  have y4 : w3.cell? ⟨w.heap.size, 4, none⟩ = some (.int .i64 pass) := Blk.cell (unhide G2).2.1 4
  have y5 : w3.cell? ⟨w.heap.size, 5, none⟩ = some (.int .i64 fail) := Blk.cell (unhide G2).2.1 5
  go_wp2_with fail
  refine (unhide CP _ (unhide G2).1).mono ?_
  rintro e w4 ⟨a2, p2, rfl, hp2, hr2, ho2, k4⟩
  have l3 := Blk.lt (unhide G2).2.2.1
  have b4 := Blk.kp (unhide G2).2.1 k4
  have f4 := Blk.free b4
  have sm : Mod w.heap.size w4 (w4.setCell ⟨w.heap.size, 2, none⟩ (.slice a2 pl p2)) := (Mod.refl _ _).setCell _ _
  have G4 : Hid (Kp w (w4.setCell ⟨w.heap.size, 2, none⟩ (.slice a2 pl p2)) ∧ Blk w.heap.size #[.int .i64 ti, .slice a xl p, .slice a2 pl p2, .bool flag, .int .i64 pass, .int .i64 fail] 27 (w4.setCell ⟨w.heap.size, 2, none⟩ (.slice a2 pl p2)) ∧ Blk (w.heap.size + 1) #[.int .i64 0, .slice none 0 0, .slice none 0 0, .bool false, .int .i64 0, .int .i64 0] 27 (w4.setCell ⟨w.heap.size, 2, none⟩ (.slice a2 pl p2)) ∧ (FitL a xl p ∧ FitL a2 pl p2) ∧ Row (w4.setCell ⟨w.heap.size, 2, none⟩ (.slice a2 pl p2)) a xl XZ ∧ Row (w4.setCell ⟨w.heap.size, 2, none⟩ (.slice a2 pl p2)) a2 pl PZ ∧ ∀ U, U < w.heap.size + 2 → Off U xl a ∧ Off U pl a2) := ⟨((unhide G2).1.trans k4).mod sm (Nat.le_refl _), Blk.set b4 2 _, Blk.keep (Blk.kp (unhide G2).2.2.1 k4) sm (by omega), ⟨(unhide G2).2.2.2.1, hp2⟩, ((unhide G2).2.2.2.2.1.kp k4).mk (Mk.of sm) ((unhide G2).2.2.2.2.2 _ (by omega)), hr2.mk (Mk.of sm) (ho2 _ (by omega)), fun U hU => ⟨(unhide G2).2.2.2.2.2 U hU, ho2 U (by omega)⟩⟩
  have z0 : w4.cell? ⟨w.heap.size, 0, none⟩ = some (.int .i64 ti) := Blk.cell b4 0
  have z1 : w4.cell? ⟨w.heap.size, 1, none⟩ = some (.slice a xl p) := Blk.cell b4 1
  have z2 : w4.cell? ⟨w.heap.size, 2, none⟩ = some (.slice pa pl pc) := Blk.cell b4 2
  have z3 : w4.cell? ⟨w.heap.size, 3, none⟩ = some (.bool flag) := Blk.cell b4 3
  have z4 : w4.cell? ⟨w.heap.size, 4, none⟩ = some (.int .i64 pass) := Blk.cell b4 4
  have z5 : w4.cell? ⟨w.heap.size, 5, none⟩ = some (.int .i64 fail) := Blk.cell b4 5
  clear hp2 hr2 ho2 k4 b4 sm CP G2 l3 y0 y1 y2 y3 y4 y5
  go_upto_region 3 with fail
  clear f4 z0 z1 z2 z3 z4 z5
  generalize (w4.setCell ⟨w.heap.size, 2, none⟩ (.slice a2 pl p2)) = w5 at *
  have y0 : w5.cell? ⟨w.heap.size, 0, none⟩ = some (.int .i64 ti) := Blk.cell (unhide G4).2.1 0
  have y1 : w5.cell? ⟨w.heap.size, 1, none⟩ = some (.slice a xl p) := Blk.cell (unhide G4).2.1 1
  have y2 : w5.cell? ⟨w.heap.size, 2, none⟩ = some (.slice a2 pl p2) := Blk.cell (unhide G4).2.1 2
  have y3 : w5.cell? ⟨w.heap.size, 3, none⟩ = some (.bool flag) := Blk.cell (unhide G4).2.1 3
  have y4 : w5.cell? ⟨w.heap.size, 4, none⟩ = some (.int .i64 pass) := Blk.cell (unhide G4).2.1 4
  have y5 : w5.cell? ⟨w.heap.size, 5, none⟩ = some (.int .i64 fail) := Blk.cell (unhide G4).2.1 5
  have x0 : w5.cell? ⟨w.heap.size + 1, 0, none⟩ = some (.int .i64 0) := Blk.cell (unhide G4).2.2.1 0
  have x1 : w5.cell? ⟨w.heap.size + 1, 1, none⟩ = some (.slice none 0 0) := Blk.cell (unhide G4).2.2.1 1
  have x2 : w5.cell? ⟨w.heap.size + 1, 2, none⟩ = some (.slice none 0 0) := Blk.cell (unhide G4).2.2.1 2
  have x3 : w5.cell? ⟨w.heap.size + 1, 3, none⟩ = some (.bool false) := Blk.cell (unhide G4).2.2.1 3
  have x4 : w5.cell? ⟨w.heap.size + 1, 4, none⟩ = some (.int .i64 0) := Blk.cell (unhide G4).2.2.1 4
  have x5 : w5.cell? ⟨w.heap.size + 1, 5, none⟩ = some (.int .i64 0) := Blk.cell (unhide G4).2.2.1 5
  have fx := Blk.free (unhide G4).2.2.1
  go_wp2
  have P : Blk (w.heap.size + 1) #[.int .i64 ti, .slice a xl p, .slice a2 pl p2, .bool flag, .int .i64 pass, .int .i64 fail] 27 ((((((w5.setCell ⟨w.heap.size + 1, 0, none⟩ (.int .i64 ti)).setCell ⟨w.heap.size + 1, 1, none⟩ (.slice a xl p)).setCell ⟨w.heap.size + 1, 2, none⟩ (.slice a2 pl p2)).setCell ⟨w.heap.size + 1, 3, none⟩ (.bool flag)).setCell ⟨w.heap.size + 1, 4, none⟩ (.int .i64 pass)).setCell ⟨w.heap.size + 1, 5, none⟩ (.int .i64 fail)) := Blk.set (Blk.set (Blk.set (Blk.set (Blk.set (Blk.set (unhide G4).2.2.1 0 _) 1 _) 2 _) 3 _) 4 _) 5 _
  have sm : Mod (w.heap.size + 1) w5 ((((((w5.setCell ⟨w.heap.size + 1, 0, none⟩ (.int .i64 ti)).setCell ⟨w.heap.size + 1, 1, none⟩ (.slice a xl p)).setCell ⟨w.heap.size + 1, 2, none⟩ (.slice a2 pl p2)).setCell ⟨w.heap.size + 1, 3, none⟩ (.bool flag)).setCell ⟨w.heap.size + 1, 4, none⟩ (.int .i64 pass)).setCell ⟨w.heap.size + 1, 5, none⟩ (.int .i64 fail)) := ((((((Mod.refl _ _).setCell _ _).setCell _ _).setCell _ _).setCell _ _).setCell _ _).setCell _ _
  generalize ((((((w5.setCell ⟨w.heap.size + 1, 0, none⟩ (.int .i64 ti)).setCell ⟨w.heap.size + 1, 1, none⟩ (.slice a xl p)).setCell ⟨w.heap.size + 1, 2, none⟩ (.slice a2 pl p2)).setCell ⟨w.heap.size + 1, 3, none⟩ (.bool flag)).setCell ⟨w.heap.size + 1, 4, none⟩ (.int .i64 pass)).setCell ⟨w.heap.size + 1, 5, none⟩ (.int .i64 fail)) = wE at *
  have c0' : wE.cell? ⟨w.heap.size + 1, 0, none⟩ = some (.int .i64 ti) := Blk.cell P 0
  have c1' : wE.cell? ⟨w.heap.size + 1, 1, none⟩ = some (.slice a xl p) := Blk.cell P 1
  have c2' : wE.cell? ⟨w.heap.size + 1, 2, none⟩ = some (.slice a2 pl p2) := Blk.cell P 2
  have c3' : wE.cell? ⟨w.heap.size + 1, 3, none⟩ = some (.bool flag) := Blk.cell P 3
  have c4' : wE.cell? ⟨w.heap.size + 1, 4, none⟩ = some (.int .i64 pass) := Blk.cell P 4
  have c5' : wE.cell? ⟨w.heap.size + 1, 5, none⟩ = some (.int .i64 fail) := Blk.cell P 5
  refine bodyPost_ret (v := .agg #[.int .i64 ti, .slice a xl p, .slice a2 pl p2, .bool flag, .int .i64 pass, .int .i64 fail]) (by simp [results, Try.results12, go_sem, c0', c1', c2', c3', c4', c5']) rfl ?_
  obtain ⟨g1, g2, g3, g4, g5, g6, g7⟩ := unhide G4
  exact ⟨a, p, a2, p2, rfl, g4.1, g4.2, g5.mk (Mk.of sm) (g7 _ (by omega)).1, g6.mk (Mk.of sm) (g7 _ (by omega)).2, fun U hU => g7 U (by omega), g1.mod sm (by omega)⟩

/-- A list of rows in a block of its own. -/
def OwnR (g n : Nat) (X : Nat → RV) (W : World) : Prop := ∃ cur, Blk g cur 41 W ∧ ∀ i, i < n → ∀ j, j < 3 → cur[i * 3 + j]? = (X i).cells[j]?
theorem OwnR.rvs {g n : Nat} {X : Nat → RV} {W : World} (h : OwnR g n X W) : RVs W (some ⟨g, 0, none⟩) n X := by
  obtain ⟨cur, h1, h2⟩ := h
  exact Or.inr ⟨g, 0, rfl, fun i hi j hj => by rw [Nat.zero_add, Blk.cell h1, h2 i hi j hj]⟩
theorem OwnR.kp {g n : Nat} {X : Nat → RV} {W W' : World} (h : OwnR g n X W) (k : Kp W W') : OwnR g n X W' := let ⟨cur, h1, h2⟩ := h; ⟨cur, Blk.kp h1 k, h2⟩
theorem OwnR.mod {g b n : Nat} {X : Nat → RV} {W W' : World} (h : OwnR g n X W) (k : Mod b W W') (hb : g ≠ b) : OwnR g n X W' := let ⟨cur, h1, h2⟩ := h; ⟨cur, Blk.keep h1 k hb, h2⟩
theorem OwnR.setH {g n k p : Nat} {X : Nat → RV} {W : World} {a : Option Addr} (h : OwnR g n X W) (hk : k < n) : OwnR g n (fun i => if i = k then cpRV (X k) a p else X i) (W.setCell ⟨g, k * 3 + 1, none⟩ (.slice a (X k).h.len p)) := by
  obtain ⟨cur, h1, h2⟩ := h
  refine ⟨_, Blk.set h1 (k * 3 + 1) _, fun i hi j hj => ?_⟩
  rw [Array.getElem?_setIfInBounds]
  by_cases e : k * 3 + 1 = i * 3 + j
  · have e1 : i = k := by omega
    have e2 : j = 1 := by omega
    subst e1 e2
    have : i * 3 + 1 < cur.size := by
      have := h2 i hi 1 (by omega)
      rcases Nat.lt_or_ge (i * 3 + 1) cur.size with h | h
      · exact h
      · rw [Array.getElem?_eq_none (by omega)] at this; cases this
    rw [if_pos e, if_pos this]
    dsimp only
    rw [if_pos rfl]
    rfl
  · rw [if_neg e, h2 i hi j hj]
    by_cases e1 : i = k
    · subst e1
      dsimp only
      rw [if_pos rfl]
      have : j = 0 ∨ j = 2 := by omega
      rcases this with rfl | rfl
      · rfl
      · rfl
    · dsimp only
      rw [if_neg e1]
theorem OwnR.free {g n o : Nat} {X : Nat → RV} {W : World} (h : OwnR g n X W) : W.frozen? ⟨g, o, none⟩ = false := let ⟨_, h1, _⟩ := h; Blk.free h1 o
theorem OwnR.lt {g n : Nat} {X : Nat → RV} {W : World} (h : OwnR g n X W) : g < W.heap.size := let ⟨_, h1, _⟩ := h; Blk.lt h1
theorem rls_own {w : World} {base n : Nat} {v : Value} {X : Nat → RV} (h : w.ownsRow base 41 3 v n (flatR ((List.range n).map X))) : ∃ lo lc, v = .slice lo n lc ∧ FitL lo n lc ∧ (n = 0 ∨ ∃ g, lo = some ⟨g, 0, none⟩ ∧ base ≤ g ∧ OwnR g n X w) := by
  have hl : ((List.range n).map X).length = n := by simp
  have h' : RLs w base v ((List.range n).map X) := by unfold RLs; rw [hl]; exact h
  obtain ⟨lo, lc, e, _, hc, _⟩ := h'.rvs
  rw [hl] at e hc
  refine ⟨lo, lc, e, owns_fit (by rw [e] at h; exact h) hc, ?_⟩
  rcases h.2 with ⟨_, e2⟩ | ⟨g, cap, cur, e2, hb, hg, _⟩
  · exact Or.inl e2
  · rw [e] at e2
    injection e2 with e3 e4 e5
    subst e3
    refine Or.inr ⟨g, rfl, hb, cur, hg, fun i hi j hj => ?_⟩
    have hx : ((List.range n).map X)[i]? = some (X i) := by rw [List.getElem?_map, List.getElem?_range hi]; rfl
    have hf := flatR_at _ i j _ hx hj
    obtain ⟨u, hu⟩ : ∃ u, (X i).cells[j]? = some u := ⟨_, Array.getElem?_eq_getElem (by show j < 3; exact hj)⟩
    have := World.ownsRow.cells h (g := g) (by rw [e]; rfl) (i * 3 + j) u (by rw [hf, hu])
    rw [Go.WideShapes.add_plain, Nat.zero_add, Blk.cell (show Blk g cur 41 w from hg)] at this
    rw [this, hu]
/-- The list of rows, of which k have numbers of their own already. -/
def CpI (w : World) (X : Nat → RV) (rl al ql : Nat) (a q : Option Addr) (k : Nat) (lo : Option Addr) (W : World) : Prop :=
  rl = 0 ∨ ∃ g Xk, lo = some ⟨g, 0, none⟩ ∧ w.heap.size + 2 ≤ g ∧ OwnR g rl Xk W ∧ (Off g al a ∧ Off g ql q) ∧ ∀ i, i < rl → (i < k → ∃ b p, Xk i = cpRV (X i) b p ∧ FitL b (X i).h.len p ∧ Row W b (X i).h.len (X i).h.Z ∧ (∀ U, U < w.heap.size + 2 → Off U (X i).h.len b) ∧ Off g (X i).h.len b) ∧ (k ≤ i → Xk i = X i)
def CmS (w : World) (N tick gate rmin : Int) (ro : Option Addr) (al ql rl rc : Nat) (A Q : Nat → Int) (X : Nat → RV) (a q : Option Addr) (ap qp k : Nat) (lo : Option Addr) (W : World) : Prop :=
  Kp w W ∧ Blk w.heap.size #[.int .i64 N, .slice a al ap, .slice q ql qp, .int .i64 tick, .int .i64 gate, .int .i64 rmin, .slice ro rl rc] 25 W ∧ Blk (w.heap.size + 1) #[.int .i64 0, .slice none 0 0, .slice none 0 0, .int .i64 0, .int .i64 0, .int .i64 0, .slice none 0 0] 25 W ∧ Row W a al A ∧ Row W q ql Q ∧ (∀ U, U < w.heap.size + 2 → Off U al a ∧ Off U ql q) ∧ (FitL a al ap ∧ FitL q ql qp) ∧ CpI w X rl al ql a q k lo W
theorem CmS.step {w W W' : World} {N tick gate rmin : Int} {ro : Option Addr} {al ql rl rc : Nat} {A Q : Nat → Int} {X : Nat → RV} {a q : Option Addr} {ap qp k g p : Nat} {b : Option Addr} (h : CmS w N tick gate rmin ro al ql rl rc A Q X a q ap qp k (some ⟨g, 0, none⟩) W) (hk : k < rl) (kk : Kp W W') (hp : FitL b (X k).h.len p) (hr : Row W' b (X k).h.len (X k).h.Z) (ho : ∀ U, U < W.heap.size → Off U (X k).h.len b) :
    CmS w N tick gate rmin ro al ql rl rc A Q X a q ap qp (k + 1) (some ⟨g, 0, none⟩) (W'.setCell ⟨g, k * 3 + 1, none⟩ (.slice b (X k).h.len p)) ∧ W'.frozen? ⟨g, k * 3 + 1, none⟩ = false ∧ W'.cell? ⟨g, k * 3 + 1, none⟩ = some (.slice (X k).h.ao (X k).h.len (X k).h.cap) := by
  obtain ⟨h1, h2, h3, h4, h5, h6, h7, h8⟩ := h
  obtain ⟨g', Xk, e, hg, hO, hoff, hX⟩ := h8.resolve_left (by omega)
  injection e with e
  injection e with e _ _
  subst e
  have eXk : Xk k = X k := (hX k hk).2 (Nat.le_refl _)
  have sm : Mod g W' (W'.setCell ⟨g, k * 3 + 1, none⟩ (.slice b (X k).h.len p)) := (Mod.refl _ _).setCell _ _
  have lg := hO.lt
  have hO' := hO.kp kk
  refine ⟨⟨(h1.trans kk).mod sm (by omega), Blk.keep (Blk.kp h2 kk) sm (by omega), Blk.keep (Blk.kp h3 kk) sm (by omega), (h4.kp kk).mk (Mk.of sm) hoff.1, (h5.kp kk).mk (Mk.of sm) hoff.2, h6, h7, Or.inr ⟨g, _, rfl, hg, (by have := hO'.setH (a := b) (p := p) hk; rw [eXk] at this; exact this), hoff, fun i hi => ⟨fun hik => ?_, fun hik => ?_⟩⟩⟩, hO'.free, ?_⟩
  · by_cases e : i = k
    · subst e
      rw [if_pos rfl]
      exact ⟨b, p, rfl, hp, hr.mk (Mk.of sm) (ho g lg), fun U hU => ho U (by omega), ho g lg⟩
    · rw [if_neg e]
      obtain ⟨b', p', e1, e2, e3, e4, e5⟩ := (hX i hi).1 (by omega)
      exact ⟨b', p', e1, e2, (e3.kp kk).mk (Mk.of sm) e5, e4, e5⟩
  · rw [if_neg (by omega)]
    exact (hX i hi).2 (by omega)
  · obtain ⟨_, _, e0, _, c1, _⟩ := hO'.rvs.at hk
    injection e0 with e0
    injection e0 with e0 e00 _
    subst e0 e00
    rw [eXk, Nat.zero_add] at c1
    exact c1
/-- A copy of a model. -/
def CopyMC (N tick gate rmin : Int) (ro : Option Addr) (al ql rl rc : Nat) (A Q : Nat → Int) (X : Nat → RV) (w : World) (e : Ending) (w' : World) : Prop :=
  ∃ a q lo ap qp lc Y, e = .returned (.agg #[.int .i64 N, .slice a al ap, .slice q ql qp, .int .i64 tick, .int .i64 gate, .int .i64 rmin, .slice lo rl lc]) ∧ FitL a al ap ∧ FitL q ql qp ∧ FitL lo rl lc ∧ Row w' a al A ∧ Row w' q ql Q ∧ RVs w' lo rl Y ∧ (∀ i, i < rl → ∃ b p, Y i = cpRV (X i) b p ∧ FitL b (X i).h.len p ∧ Row w' b (X i).h.len (X i).h.Z ∧ ∀ U, U < w.heap.size → Off U (X i).h.len b) ∧ (∀ U, U < w.heap.size → Off U al a ∧ Off U ql q ∧ Off U rl lo) ∧ Kp w w'

theorem cmStart {w w5 wm w6 : World} {N tick gate rmin : Int} {ro : Option Addr} {al ql rl rc : Nat} {A Q : Nat → Int} {X : Nat → RV} {a q : Option Addr} {ap qp : Nat} {v6 md : Value} (h : Kp w w5 ∧ Blk w.heap.size #[.int .i64 N, .slice a al ap, .slice q ql qp, .int .i64 tick, .int .i64 gate, .int .i64 rmin, .slice ro rl rc] 25 w5 ∧ Blk (w.heap.size + 1) #[.int .i64 0, .slice none 0 0, .slice none 0 0, .int .i64 0, .int .i64 0, .int .i64 0, .slice none 0 0] 25 w5 ∧ (FitL a al ap ∧ FitL q ql qp) ∧ Row w5 a al A ∧ Row w5 q ql Q ∧ ∀ U, U < w.heap.size + 2 → Off U al a ∧ Off U ql q) (ka : Kp w5 wm) (om : wm.ownsRow w5.heap.size 41 3 md 0 []) (hown : w6.ownsRow w5.heap.size 41 3 v6 (0 + rl) ([] ++ flatR ((List.range rl).map X))) (hg : wm.grownBy w6 md.ownBlock) (l5 : w.heap.size + 1 < w5.heap.size) :
    ∃ lo lc, v6 = .slice lo rl lc ∧ FitL lo rl lc ∧ CmS w N tick gate rmin ro al ql rl rc A Q X a q ap qp 0 lo w6 := by
  rw [Nat.zero_add, List.nil_append] at hown
  obtain ⟨lo, lc, rfl, hc, hO⟩ := rls_own hown
  obtain ⟨h1, h2, h3, h4, h5, h6, h7⟩ := h
  have kk : Kp w5 w6 := Kp.by ka hg (fun g e => (om.lt g e).1)
  refine ⟨lo, lc, rfl, hc, h1.trans kk, Blk.kp h2 kk, Blk.kp h3 kk, h5.kp kk, h6.kp kk, h7, h4, hO.imp id fun ⟨g, e, hge, hO⟩ => ⟨g, X, e, by omega, hO, ⟨h5.off hge, h6.off hge⟩, fun i hi => ⟨fun h => absurd h (Nat.not_lt_zero _), fun _ => rfl⟩⟩⟩
theorem cmEnd {w wr wS wE : World} {N tick gate rmin : Int} {ro lo : Option Addr} {al ql k rc : Nat} {A Q : Nat → Int} {X : Nat → RV} {a q : Option Addr} {ap qp lc : Nat} (h : CmS w N tick gate rmin ro al ql k rc A Q X a q ap qp k lo wr) (hc : FitL lo k lc) (s1 : Mod w.heap.size wr wS) (s2 : Mod (w.heap.size + 1) wS wE) :
    CopyMC N tick gate rmin ro al ql k rc A Q X w (.returned (.agg #[.int .i64 N, .slice a al ap, .slice q ql qp, .int .i64 tick, .int .i64 gate, .int .i64 rmin, .slice lo k lc])) wE := by
  obtain ⟨h1, h2, h3, h4, h5, h6, h7, h8⟩ := h
  have row : ∀ {b : Option Addr} {len : Nat} {Z : Nat → Int}, Row wr b len Z → (∀ U, U < w.heap.size + 2 → Off U len b) → Row wE b len Z := fun r o => (r.mk (Mk.of s1) (o _ (by omega))).mk (Mk.of s2) (o _ (by omega))
  rcases h8 with rfl | ⟨g, Xk, rfl, hg, hO, hoff, hX⟩
  · exact ⟨a, q, lo, ap, qp, lc, X, rfl, h7.1, h7.2, hc, row h4 (fun U hU => (h6 U hU).1), row h5 (fun U hU => (h6 U hU).2), Or.inl rfl, fun i hi => absurd hi (Nat.not_lt_zero _), fun U hU => ⟨(h6 U (by omega)).1, (h6 U (by omega)).2, fun h => absurd h (Nat.lt_irrefl _)⟩, (h1.mod s1 (Nat.le_refl _)).mod s2 (by omega)⟩
  · refine ⟨a, q, _, ap, qp, lc, Xk, rfl, h7.1, h7.2, hc, row h4 (fun U hU => (h6 U hU).1), row h5 (fun U hU => (h6 U hU).2), ((hO.mod s1 (by omega)).mod s2 (by omega)).rvs, fun i hi => ?_, fun U hU => ⟨(h6 U (by omega)).1, (h6 U (by omega)).2, fun _ a ha => by cases ha; show g ≠ U; omega⟩, (h1.mod s1 (Nat.le_refl _)).mod s2 (by omega)⟩
    obtain ⟨b, p, e, e2, e3, e4, _⟩ := (hX i hi).1 hi
    exact ⟨b, p, e, e2, row e3 e4, fun U hU => e4 U (by omega)⟩

set_option maxRecDepth 20000 in
set_option maxHeartbeats 8000000 in
theorem kitCopyMc (N tick gate rmin : Int) (aa qa ro : Option Addr) (al ac ql qc rl rc : Nat) (A Q : Nat → Int) (X : Nat → RV) (ha : al ≤ 1000000) (hq : ql ≤ 1000000) (hl : rl ≤ 1000) (na : aa = none → al = 0 ∧ ac = 0) (nq : qa = none → ql = 0 ∧ qc = 0) (nr : ro = none → rl = 0 ∧ rc = 0) (w : World) (r1 : Row w aa al A) (r2 : Row w qa ql Q) (r3 : RVs w ro rl X) (r4 : ∀ i, i < rl → Row w (X i).h.ao (X i).h.len (X i).h.Z ∧ (X i).h.len ≤ 1000000 ∧ ((X i).h.ao = none → (X i).h.len = 0 ∧ (X i).h.cap = 0)) :
    Calls Try.prog 11 #[.agg #[.int .i64 N, .slice aa al ac, .slice qa ql qc, .int .i64 tick, .int .i64 gate, .int .i64 rmin, .slice ro rl rc]] w fun e w' => CopyMC N tick gate rmin ro al ql rl rc A Q X w e w' := by
  have G1 : Hid (Kp w ((w.alloc (.cells #[.int .i64 N, .slice aa al ac, .slice qa ql qc, .int .i64 tick, .int .i64 gate, .int .i64 rmin, .slice ro rl rc] 25)).alloc (.cells #[.int .i64 0, .slice none 0 0, .slice none 0 0, .int .i64 0, .int .i64 0, .int .i64 0, .slice none 0 0] 25)) ∧ Blk w.heap.size #[.int .i64 N, .slice aa al ac, .slice qa ql qc, .int .i64 tick, .int .i64 gate, .int .i64 rmin, .slice ro rl rc] 25 ((w.alloc (.cells #[.int .i64 N, .slice aa al ac, .slice qa ql qc, .int .i64 tick, .int .i64 gate, .int .i64 rmin, .slice ro rl rc] 25)).alloc (.cells #[.int .i64 0, .slice none 0 0, .slice none 0 0, .int .i64 0, .int .i64 0, .int .i64 0, .slice none 0 0] 25)) ∧ Blk (w.heap.size + 1) #[.int .i64 0, .slice none 0 0, .slice none 0 0, .int .i64 0, .int .i64 0, .int .i64 0, .slice none 0 0] 25 ((w.alloc (.cells #[.int .i64 N, .slice aa al ac, .slice qa ql qc, .int .i64 tick, .int .i64 gate, .int .i64 rmin, .slice ro rl rc] 25)).alloc (.cells #[.int .i64 0, .slice none 0 0, .slice none 0 0, .int .i64 0, .int .i64 0, .int .i64 0, .slice none 0 0] 25))) := ⟨((Kp.refl _).alloc _ _).alloc _ _, Blk.grown (Blk.new w _ _) ((Grown.refl _).alloc _ _), blk_new2 w _ _ _⟩
  have CX := hide (fun W (g : Kp w W) => kitCopyN aa al ac A ha na W (r1.kp g))
  have CP := hide (fun W (g : Kp w W) => kitCopyN qa ql qc Q hq nq W (r2.kp g))
  have HR := hide (And.intro r3 (And.intro r4 nr))
  have y0 : ((w.alloc (.cells #[.int .i64 N, .slice aa al ac, .slice qa ql qc, .int .i64 tick, .int .i64 gate, .int .i64 rmin, .slice ro rl rc] 25)).alloc (.cells #[.int .i64 0, .slice none 0 0, .slice none 0 0, .int .i64 0, .int .i64 0, .int .i64 0, .slice none 0 0] 25)).cell? ⟨w.heap.size, 0, none⟩ = some (.int .i64 N) := Blk.cell (unhide G1).2.1 0
  have y1 : ((w.alloc (.cells #[.int .i64 N, .slice aa al ac, .slice qa ql qc, .int .i64 tick, .int .i64 gate, .int .i64 rmin, .slice ro rl rc] 25)).alloc (.cells #[.int .i64 0, .slice none 0 0, .slice none 0 0, .int .i64 0, .int .i64 0, .int .i64 0, .slice none 0 0] 25)).cell? ⟨w.heap.size, 1, none⟩ = some (.slice aa al ac) := Blk.cell (unhide G1).2.1 1
  have y2 : ((w.alloc (.cells #[.int .i64 N, .slice aa al ac, .slice qa ql qc, .int .i64 tick, .int .i64 gate, .int .i64 rmin, .slice ro rl rc] 25)).alloc (.cells #[.int .i64 0, .slice none 0 0, .slice none 0 0, .int .i64 0, .int .i64 0, .int .i64 0, .slice none 0 0] 25)).cell? ⟨w.heap.size, 2, none⟩ = some (.slice qa ql qc) := Blk.cell (unhide G1).2.1 2
  have y3 : ((w.alloc (.cells #[.int .i64 N, .slice aa al ac, .slice qa ql qc, .int .i64 tick, .int .i64 gate, .int .i64 rmin, .slice ro rl rc] 25)).alloc (.cells #[.int .i64 0, .slice none 0 0, .slice none 0 0, .int .i64 0, .int .i64 0, .int .i64 0, .slice none 0 0] 25)).cell? ⟨w.heap.size, 3, none⟩ = some (.int .i64 tick) := Blk.cell (unhide G1).2.1 3
  have y4 : ((w.alloc (.cells #[.int .i64 N, .slice aa al ac, .slice qa ql qc, .int .i64 tick, .int .i64 gate, .int .i64 rmin, .slice ro rl rc] 25)).alloc (.cells #[.int .i64 0, .slice none 0 0, .slice none 0 0, .int .i64 0, .int .i64 0, .int .i64 0, .slice none 0 0] 25)).cell? ⟨w.heap.size, 4, none⟩ = some (.int .i64 gate) := Blk.cell (unhide G1).2.1 4
  have y5 : ((w.alloc (.cells #[.int .i64 N, .slice aa al ac, .slice qa ql qc, .int .i64 tick, .int .i64 gate, .int .i64 rmin, .slice ro rl rc] 25)).alloc (.cells #[.int .i64 0, .slice none 0 0, .slice none 0 0, .int .i64 0, .int .i64 0, .int .i64 0, .slice none 0 0] 25)).cell? ⟨w.heap.size, 5, none⟩ = some (.int .i64 rmin) := Blk.cell (unhide G1).2.1 5
  have y6 : ((w.alloc (.cells #[.int .i64 N, .slice aa al ac, .slice qa ql qc, .int .i64 tick, .int .i64 gate, .int .i64 rmin, .slice ro rl rc] 25)).alloc (.cells #[.int .i64 0, .slice none 0 0, .slice none 0 0, .int .i64 0, .int .i64 0, .int .i64 0, .slice none 0 0] 25)).cell? ⟨w.heap.size, 6, none⟩ = some (.slice ro rl rc) := Blk.cell (unhide G1).2.1 6
  clear ha hq na nq nr r1 r2 r3 r4
  go_enter Try.func11, Try.ntmps11
  go_wp2_with fail
  generalize ((w.alloc (.cells #[.int .i64 N, .slice aa al ac, .slice qa ql qc, .int .i64 tick, .int .i64 gate, .int .i64 rmin, .slice ro rl rc] 25)).alloc (.cells #[.int .i64 0, .slice none 0 0, .slice none 0 0, .int .i64 0, .int .i64 0, .int .i64 0, .slice none 0 0] 25)) = w1 at *
  refine (unhide CX _ (unhide G1).1).mono ?_
  rintro e w2 ⟨a, ap, rfl, hp, hr, ho, k2⟩
  have l1 := Blk.lt (unhide G1).2.2
  have b2 := Blk.kp (unhide G1).2.1 k2
  have f2 := Blk.free b2
  have sm : Mod w.heap.size w2 (w2.setCell ⟨w.heap.size, 1, none⟩ (.slice a al ap)) := (Mod.refl _ _).setCell _ _
  have G2 : Hid (Kp w (w2.setCell ⟨w.heap.size, 1, none⟩ (.slice a al ap)) ∧ Blk w.heap.size #[.int .i64 N, .slice a al ap, .slice qa ql qc, .int .i64 tick, .int .i64 gate, .int .i64 rmin, .slice ro rl rc] 25 (w2.setCell ⟨w.heap.size, 1, none⟩ (.slice a al ap)) ∧ Blk (w.heap.size + 1) #[.int .i64 0, .slice none 0 0, .slice none 0 0, .int .i64 0, .int .i64 0, .int .i64 0, .slice none 0 0] 25 (w2.setCell ⟨w.heap.size, 1, none⟩ (.slice a al ap)) ∧ FitL a al ap ∧ Row (w2.setCell ⟨w.heap.size, 1, none⟩ (.slice a al ap)) a al A ∧ ∀ U, U < w.heap.size + 2 → Off U al a) := ⟨((unhide G1).1.trans k2).mod sm (Nat.le_refl _), Blk.set b2 1 _, Blk.keep (Blk.kp (unhide G1).2.2 k2) sm (by omega), hp, hr.mk (Mk.of sm) (ho _ (by omega)), fun U hU => ho U (by omega)⟩
  have z0 : w2.cell? ⟨w.heap.size, 0, none⟩ = some (.int .i64 N) := Blk.cell b2 0
  have z1 : w2.cell? ⟨w.heap.size, 1, none⟩ = some (.slice aa al ac) := Blk.cell b2 1
  have z2 : w2.cell? ⟨w.heap.size, 2, none⟩ = some (.slice qa ql qc) := Blk.cell b2 2
  have z3 : w2.cell? ⟨w.heap.size, 3, none⟩ = some (.int .i64 tick) := Blk.cell b2 3
  have z4 : w2.cell? ⟨w.heap.size, 4, none⟩ = some (.int .i64 gate) := Blk.cell b2 4
  have z5 : w2.cell? ⟨w.heap.size, 5, none⟩ = some (.int .i64 rmin) := Blk.cell b2 5
  have z6 : w2.cell? ⟨w.heap.size, 6, none⟩ = some (.slice ro rl rc) := Blk.cell b2 6
  clear hp hr ho k2 b2 sm CX G1 l1 y0 y1 y2 y3 y4 y5 y6
  go_upto_region 2 with fail
  clear f2 z0 z1 z2 z3 z4 z5 z6
  generalize (w2.setCell ⟨w.heap.size, 1, none⟩ (.slice a al ap)) = w3 at *
  have y0 : w3.cell? ⟨w.heap.size, 0, none⟩ = some (.int .i64 N) := Blk.cell (unhide G2).2.1 0
  have y1 : w3.cell? ⟨w.heap.size, 1, none⟩ = some (.slice a al ap) := Blk.cell (unhide G2).2.1 1
  have y2 : w3.cell? ⟨w.heap.size, 2, none⟩ = some (.slice qa ql qc) := Blk.cell (unhide G2).2.1 2
  have y3 : w3.cell? ⟨w.heap.size, 3, none⟩ = some (.int .i64 tick) := Blk.cell (unhide G2).2.1 3
  have y4 : w3.cell? ⟨w.heap.size, 4, none⟩ = some (.int .i64 gate) := Blk.cell (unhide G2).2.1 4
  have y5 : w3.cell? ⟨w.heap.size, 5, none⟩ = some (.int .i64 rmin) := Blk.cell (unhide G2).2.1 5
  have y6 : w3.cell? ⟨w.heap.size, 6, none⟩ = some (.slice ro rl rc) := Blk.cell (unhide G2).2.1 6
  go_wp2_with fail
  refine (unhide CP _ (unhide G2).1).mono ?_
  rintro e w4 ⟨q, qp, rfl, hp2, hr2, ho2, k4⟩
  have l3 := Blk.lt (unhide G2).2.2.1
  have b4 := Blk.kp (unhide G2).2.1 k4
  have f4 := Blk.free b4
  have sm : Mod w.heap.size w4 (w4.setCell ⟨w.heap.size, 2, none⟩ (.slice q ql qp)) := (Mod.refl _ _).setCell _ _
  have G4 : Hid (Kp w (w4.setCell ⟨w.heap.size, 2, none⟩ (.slice q ql qp)) ∧ Blk w.heap.size #[.int .i64 N, .slice a al ap, .slice q ql qp, .int .i64 tick, .int .i64 gate, .int .i64 rmin, .slice ro rl rc] 25 (w4.setCell ⟨w.heap.size, 2, none⟩ (.slice q ql qp)) ∧ Blk (w.heap.size + 1) #[.int .i64 0, .slice none 0 0, .slice none 0 0, .int .i64 0, .int .i64 0, .int .i64 0, .slice none 0 0] 25 (w4.setCell ⟨w.heap.size, 2, none⟩ (.slice q ql qp)) ∧ (FitL a al ap ∧ FitL q ql qp) ∧ Row (w4.setCell ⟨w.heap.size, 2, none⟩ (.slice q ql qp)) a al A ∧ Row (w4.setCell ⟨w.heap.size, 2, none⟩ (.slice q ql qp)) q ql Q ∧ ∀ U, U < w.heap.size + 2 → Off U al a ∧ Off U ql q) := ⟨((unhide G2).1.trans k4).mod sm (Nat.le_refl _), Blk.set b4 2 _, Blk.keep (Blk.kp (unhide G2).2.2.1 k4) sm (by omega), ⟨(unhide G2).2.2.2.1, hp2⟩, ((unhide G2).2.2.2.2.1.kp k4).mk (Mk.of sm) ((unhide G2).2.2.2.2.2 _ (by omega)), hr2.mk (Mk.of sm) (ho2 _ (by omega)), fun U hU => ⟨(unhide G2).2.2.2.2.2 U hU, ho2 U (by omega)⟩⟩
  have z0 : w4.cell? ⟨w.heap.size, 0, none⟩ = some (.int .i64 N) := Blk.cell b4 0
  have z1 : w4.cell? ⟨w.heap.size, 1, none⟩ = some (.slice a al ap) := Blk.cell b4 1
  have z2 : w4.cell? ⟨w.heap.size, 2, none⟩ = some (.slice qa ql qc) := Blk.cell b4 2
  have z3 : w4.cell? ⟨w.heap.size, 3, none⟩ = some (.int .i64 tick) := Blk.cell b4 3
  have z4 : w4.cell? ⟨w.heap.size, 4, none⟩ = some (.int .i64 gate) := Blk.cell b4 4
  have z5 : w4.cell? ⟨w.heap.size, 5, none⟩ = some (.int .i64 rmin) := Blk.cell b4 5
  have z6 : w4.cell? ⟨w.heap.size, 6, none⟩ = some (.slice ro rl rc) := Blk.cell b4 6
  clear hp2 hr2 ho2 k4 b4 sm CP G2 l3 y0 y1 y2 y3 y4 y5 y6
  go_upto_region 3 with fail
  clear f4 z0 z1 z2 z3 z4 z5 z6
  generalize (w4.setCell ⟨w.heap.size, 2, none⟩ (.slice q ql qp)) = w5 at *
  have y6 : w5.cell? ⟨w.heap.size, 6, none⟩ = some (.slice ro rl rc) := Blk.cell (unhide G4).2.1 6
  go_cut [3] (fun s3 wx => ∃ lo lc, s3 = .slice lo rl lc ∧ Hid (FitL lo rl lc ∧ CmS w N tick gate rmin ro al ql rl rc A Q X a q ap qp 0 lo wx))
  case first =>
    obtain ⟨i0, hi, hz0, hz1, hz2⟩ := info_parts Try.infoRow
    have gy := heap_gt y6
    have OM := hide (World.ownsRow_made (base := w5.heap.size) (e := 41) (size := 3) w5 #[] 0 (Nat.le_refl _) (by unfold maxLen; omega) (by simp))
    have KA : Hid (Kp w5 (w5.alloc (.cells #[] 41))) := (Kp.refl _).alloc _ _
    cases ro with
    | none =>
      obtain ⟨rfl, rfl⟩ := (unhide HR).2.2 rfl
      have DN : Hid (FitL (some ⟨w5.heap.size, 0, none⟩) 0 0 ∧ CmS w N tick gate rmin none al ql 0 0 A Q X a q ap qp 0 (some ⟨w5.heap.size, 0, none⟩) (w5.alloc (.cells #[] 41))) := ⟨⟨Nat.le_refl _, fun e => by cases e⟩, (unhide G4).1.trans (unhide KA), Blk.kp (unhide G4).2.1 (unhide KA), Blk.kp (unhide G4).2.2.1 (unhide KA), (unhide G4).2.2.2.2.1.kp (unhide KA), (unhide G4).2.2.2.2.2.1.kp (unhide KA), (unhide G4).2.2.2.2.2.2, (unhide G4).2.2.2.1, Or.inl rfl⟩
      clear G4
      go_wp2_with (at_builtin; refine wpList_append_own_none rfl _ _ 23 rfl w5.heap.size 41 i0 3 Try.underlying23 hi _ _ _ rfl (unhide OM) rfl ?_)
      go_meet
      exact ⟨_, _, rfl, DN⟩
    | some ad =>
      have NEW : Hid (∀ j u, (flatR ((List.range rl).map X))[j]? = some u → (w5.alloc (.cells #[] 41)).cell? (ad.add j) = some u) := fun j u hu => by
        have hlen : (flatR ((List.range rl).map X)).length = rl * 3 := by rw [flatR_len]; simp
        have hj : j < rl * 3 := by
          rcases Nat.lt_or_ge j (rl * 3) with h | h
          · exact h
          · rw [List.getElem?_eq_none (by omega)] at hu; cases hu
        obtain ⟨i, r, hj2, hr3⟩ : ∃ i r, j = i * 3 + r ∧ r < 3 := ⟨j / 3, j % 3, by omega, by omega⟩
        have hil : i < rl := by omega
        have hx : ((List.range rl).map X)[i]? = some (X i) := by rw [List.getElem?_map, List.getElem?_range hil]; rfl
        have hf := flatR_at _ i r _ hx hr3
        rw [hj2, hf] at hu
        have kk := ((unhide G4).1.trans (unhide KA))
        have hc := (unhide HR).1.kp kk
        rcases hc with hc | ⟨b, o, e, hc⟩
        · omega
        · cases e
          have := hc i hil r hr3
          rw [Go.WideShapes.add_plain, hj2, ← Nat.add_assoc, this, hu]
      have LN : Hid ((flatR ((List.range rl).map X)).length = rl * 3) := by show _ = _; rw [flatR_len]; simp
      have ONE : Hid (∀ u ∈ flatR ((List.range rl).map X), u.oneCell' = true) := fun u hu => by
        obtain ⟨x, hx, hu⟩ := List.mem_flatMap.1 hu
        exact cells_oneRV x u hu
      have rl1 := hl
      go_wp2_with (at_builtin; refine wpList_append_own _ rfl _ _ 23 rfl w5.heap.size 41 i0 (.agg #[.int .i64 0, .slice none 0 0, .int .i64 0]) 3 40 Try.underlying23 hi hz0 hz1 hz2 rfl (by decide) _ _ _ rfl (unhide OM) ad rl rc (flatR ((List.range rl).map X)) rfl (unhide LN) (unhide NEW) (unhide ONE) (by unfold maxLen; omega) (by omega) (by simp) ?_; intro v6 w6 hown6 hgrow6 _; obtain ⟨lo, lc, rfl, DN⟩ := cmStart (unhide G4) (unhide KA) (unhide OM) hown6 hgrow6 (Blk.lt (unhide G4).2.2.1); have HDN := hide DN; clear hown6 hgrow6 DN)
      go_meet
      exact ⟨lo, lc, rfl, HDN⟩
  case rest =>
    obtain ⟨lo, lc, rfl, HD⟩ := hcut
    clear G4 y6
    have LC := hide (unhide HD).1
    have HS := hide (unhide HD).2
    clear HD
    go_wp2_with fail
    go_loopw [4] (fun i wr => ∃ k : Nat, k ≤ rl ∧ i = .int .i64 k ∧ Hid (CmS w N tick gate rmin ro al ql rl rc A Q X a q ap qp k lo wr)) (fun i _ => rl - (intOf i).toNat)
    case atStart => exact ⟨0, Nat.zero_le _, rfl, HS⟩
    case round =>
      obtain ⟨k, hk, rfl, HI⟩ := hrel
      clear HS
      by_cases hlt : k < rl
      · obtain ⟨g, Xk, rfl, hg, hO, _, hX⟩ := (unhide HI).2.2.2.2.2.2.2.resolve_left (by omega)
        obtain ⟨_, _, e0, c0, c1, c2⟩ := hO.rvs.at hlt
        cases e0
        rw [(hX k hlt).2 (Nat.le_refl _), Nat.zero_add] at c1
        have i0 : (0 : Int) ≤ (k : Int) := Int.natCast_nonneg _
        have i1 : (k : Int) < (rl : Int) := Int.ofNat_lt.2 hlt
        have B1 : Hid (k + 1 ≤ rl) := hlt
        obtain ⟨q1, q2, q3⟩ := (unhide HR).2.1 k hlt
        have CK := hide (kitCopyN (X k).h.ao (X k).h.len (X k).h.cap (X k).h.Z q2 q3 wr (q1.kp (unhide HI).1))
        clear hg hO hX c0 c2 q1 q2 q3
        go_wp2_with fail
        refine (unhide CK).mono ?_
        rintro e w6 ⟨b, p, rfl, hp, hr, ho, k6⟩
        have P := CmS.step (unhide HI) hlt k6 hp hr ho
        have f6 : w6.frozen? ⟨g, k * 3 + 1, none⟩ = false := P.2.1
        have c6 := P.2.2
        have S7 := hide P.1
        clear P hp hr ho k6 CK c1 HI
        go_wp2
        go_roundw
        case rel => exact ⟨k + 1, unhide B1, by go_num, S7⟩
        case measure => have := unhide B1; simp [intOf]; omega
      · obtain rfl : k = rl := by omega
        have b1 := (unhide HI).2.1
        have b2 := (unhide HI).2.2.1
        have y0 : wr.cell? ⟨w.heap.size, 0, none⟩ = some (.int .i64 N) := Blk.cell b1 0
        have y1 : wr.cell? ⟨w.heap.size, 1, none⟩ = some (.slice a al ap) := Blk.cell b1 1
        have y2 : wr.cell? ⟨w.heap.size, 2, none⟩ = some (.slice q ql qp) := Blk.cell b1 2
        have y3 : wr.cell? ⟨w.heap.size, 3, none⟩ = some (.int .i64 tick) := Blk.cell b1 3
        have y4 : wr.cell? ⟨w.heap.size, 4, none⟩ = some (.int .i64 gate) := Blk.cell b1 4
        have y5 : wr.cell? ⟨w.heap.size, 5, none⟩ = some (.int .i64 rmin) := Blk.cell b1 5
        have y6 : wr.cell? ⟨w.heap.size, 6, none⟩ = some (.slice ro k rc) := Blk.cell b1 6
        have x0 : wr.cell? ⟨w.heap.size + 1, 0, none⟩ = some (.int .i64 0) := Blk.cell b2 0
        have x1 : wr.cell? ⟨w.heap.size + 1, 1, none⟩ = some (.slice none 0 0) := Blk.cell b2 1
        have x2 : wr.cell? ⟨w.heap.size + 1, 2, none⟩ = some (.slice none 0 0) := Blk.cell b2 2
        have x3 : wr.cell? ⟨w.heap.size + 1, 3, none⟩ = some (.int .i64 0) := Blk.cell b2 3
        have x4 : wr.cell? ⟨w.heap.size + 1, 4, none⟩ = some (.int .i64 0) := Blk.cell b2 4
        have x5 : wr.cell? ⟨w.heap.size + 1, 5, none⟩ = some (.int .i64 0) := Blk.cell b2 5
        have x6 : wr.cell? ⟨w.heap.size + 1, 6, none⟩ = some (.slice none 0 0) := Blk.cell b2 6
        have f1 := Blk.free b1
        have f3 := Blk.free b2
        clear b1 b2
        go_upto_region 9 with fail
        have s1 : Mod w.heap.size wr (wr.setCell ⟨w.heap.size, 6, none⟩ (.slice lo k lc)) := (Mod.refl _ _).setCell _ _
        have b1 := Blk.set (unhide HI).2.1 6 (.slice lo k lc)
        have b2 := Blk.keep (unhide HI).2.2.1 s1 (by omega)
        have S1 := hide (And.intro s1 b2)
        clear y0 y1 y2 y3 y4 y5 y6 x0 x1 x2 x3 x4 x5 x6 f1 f3 s1
        generalize wr.setCell ⟨w.heap.size, 6, none⟩ (.slice lo k lc) = wS at *
        have y0 : wS.cell? ⟨w.heap.size, 0, none⟩ = some (.int .i64 N) := Blk.cell b1 0
        have y1 : wS.cell? ⟨w.heap.size, 1, none⟩ = some (.slice a al ap) := Blk.cell b1 1
        have y2 : wS.cell? ⟨w.heap.size, 2, none⟩ = some (.slice q ql qp) := Blk.cell b1 2
        have y3 : wS.cell? ⟨w.heap.size, 3, none⟩ = some (.int .i64 tick) := Blk.cell b1 3
        have y4 : wS.cell? ⟨w.heap.size, 4, none⟩ = some (.int .i64 gate) := Blk.cell b1 4
        have y5 : wS.cell? ⟨w.heap.size, 5, none⟩ = some (.int .i64 rmin) := Blk.cell b1 5
        have y6 : wS.cell? ⟨w.heap.size, 6, none⟩ = some (.slice lo k lc) := Blk.cell b1 6
        have x0 : wS.cell? ⟨w.heap.size + 1, 0, none⟩ = some (.int .i64 0) := Blk.cell b2 0
        have x1 : wS.cell? ⟨w.heap.size + 1, 1, none⟩ = some (.slice none 0 0) := Blk.cell b2 1
        have x2 : wS.cell? ⟨w.heap.size + 1, 2, none⟩ = some (.slice none 0 0) := Blk.cell b2 2
        have x3 : wS.cell? ⟨w.heap.size + 1, 3, none⟩ = some (.int .i64 0) := Blk.cell b2 3
        have x4 : wS.cell? ⟨w.heap.size + 1, 4, none⟩ = some (.int .i64 0) := Blk.cell b2 4
        have x5 : wS.cell? ⟨w.heap.size + 1, 5, none⟩ = some (.int .i64 0) := Blk.cell b2 5
        have x6 : wS.cell? ⟨w.heap.size + 1, 6, none⟩ = some (.slice none 0 0) := Blk.cell b2 6
        have f3 := Blk.free b2
        clear b1 b2
        go_wp2
        have P : Blk (w.heap.size + 1) #[.int .i64 N, .slice a al ap, .slice q ql qp, .int .i64 tick, .int .i64 gate, .int .i64 rmin, .slice lo k lc] 25 (((((((wS.setCell ⟨w.heap.size + 1, 0, none⟩ (.int .i64 N)).setCell ⟨w.heap.size + 1, 1, none⟩ (.slice a al ap)).setCell ⟨w.heap.size + 1, 2, none⟩ (.slice q ql qp)).setCell ⟨w.heap.size + 1, 3, none⟩ (.int .i64 tick)).setCell ⟨w.heap.size + 1, 4, none⟩ (.int .i64 gate)).setCell ⟨w.heap.size + 1, 5, none⟩ (.int .i64 rmin)).setCell ⟨w.heap.size + 1, 6, none⟩ (.slice lo k lc)) := Blk.set (Blk.set (Blk.set (Blk.set (Blk.set (Blk.set (Blk.set (unhide S1).2 0 _) 1 _) 2 _) 3 _) 4 _) 5 _) 6 _
        have sm : Mod (w.heap.size + 1) wS (((((((wS.setCell ⟨w.heap.size + 1, 0, none⟩ (.int .i64 N)).setCell ⟨w.heap.size + 1, 1, none⟩ (.slice a al ap)).setCell ⟨w.heap.size + 1, 2, none⟩ (.slice q ql qp)).setCell ⟨w.heap.size + 1, 3, none⟩ (.int .i64 tick)).setCell ⟨w.heap.size + 1, 4, none⟩ (.int .i64 gate)).setCell ⟨w.heap.size + 1, 5, none⟩ (.int .i64 rmin)).setCell ⟨w.heap.size + 1, 6, none⟩ (.slice lo k lc)) := (((((((Mod.refl _ _).setCell _ _).setCell _ _).setCell _ _).setCell _ _).setCell _ _).setCell _ _).setCell _ _
        generalize (((((((wS.setCell ⟨w.heap.size + 1, 0, none⟩ (.int .i64 N)).setCell ⟨w.heap.size + 1, 1, none⟩ (.slice a al ap)).setCell ⟨w.heap.size + 1, 2, none⟩ (.slice q ql qp)).setCell ⟨w.heap.size + 1, 3, none⟩ (.int .i64 tick)).setCell ⟨w.heap.size + 1, 4, none⟩ (.int .i64 gate)).setCell ⟨w.heap.size + 1, 5, none⟩ (.int .i64 rmin)).setCell ⟨w.heap.size + 1, 6, none⟩ (.slice lo k lc)) = wE at *
        have c0' : wE.cell? ⟨w.heap.size + 1, 0, none⟩ = some (.int .i64 N) := Blk.cell P 0
        have c1' : wE.cell? ⟨w.heap.size + 1, 1, none⟩ = some (.slice a al ap) := Blk.cell P 1
        have c2' : wE.cell? ⟨w.heap.size + 1, 2, none⟩ = some (.slice q ql qp) := Blk.cell P 2
        have c3' : wE.cell? ⟨w.heap.size + 1, 3, none⟩ = some (.int .i64 tick) := Blk.cell P 3
        have c4' : wE.cell? ⟨w.heap.size + 1, 4, none⟩ = some (.int .i64 gate) := Blk.cell P 4
        have c5' : wE.cell? ⟨w.heap.size + 1, 5, none⟩ = some (.int .i64 rmin) := Blk.cell P 5
        have c6' : wE.cell? ⟨w.heap.size + 1, 6, none⟩ = some (.slice lo k lc) := Blk.cell P 6
        refine bodyPost_ret (v := .agg #[.int .i64 N, .slice a al ap, .slice q ql qp, .int .i64 tick, .int .i64 gate, .int .i64 rmin, .slice lo k lc]) (by simp [results, Try.results11, go_sem, c0', c1', c2', c3', c4', c5', c6']) rfl ?_
        exact cmEnd (unhide HI) (unhide LC) (unhide S1).1 sm

end Go.Proofs.Ytpanfppnkgokdaa

/- Copies of models and beliefs, as they are handed on: they may be, and fit, as what they are copies of. -/
namespace Go.Proofs.Ytpanfppnkgokdaa
open Go.RowKit Go.Shelf Go.Proofs.Wd
set_option linter.unusedVariables false
set_option linter.unusedSimpArgs false
set_option maxRecDepth 10000

/-- The same numbers, wherever they lie. -/
def simRV (x y : RV) : Prop := x.s = y.s ∧ x.r = y.r ∧ x.h.len = y.h.len ∧ x.h.Z = y.h.Z
def simD (m m' : DV) : Prop := m'.N = m.N ∧ m'.tick = m.tick ∧ m'.gate = m.gate ∧ m'.rmin = m.rmin ∧ (m'.A.len = m.A.len ∧ m'.A.Z = m.A.Z) ∧ (m'.Q.len = m.Q.len ∧ m'.Q.Z = m.Q.Z) ∧ m'.rl = m.rl ∧ ∀ i, i < m.rl → simRV (m'.X i) (m.X i)
def simB (b b' : BV) : Prop := b'.at' = b.at' ∧ b'.flag = b.flag ∧ b'.pass = b.pass ∧ b'.fail = b.fail ∧ (b'.x.len = b.x.len ∧ b'.x.Z = b.x.Z) ∧ b'.p.len = b.p.len ∧ b'.p.Z = b.p.Z
theorem simD.symm {m m' : DV} (h : simD m m') : simD m' m := by
  obtain ⟨h1, h2, h3, h4, ⟨h5, h6⟩, ⟨h7, h8⟩, h9, h10⟩ := h
  exact ⟨h1.symm, h2.symm, h3.symm, h4.symm, ⟨h5.symm, h6.symm⟩, ⟨h7.symm, h8.symm⟩, h9.symm, fun i hi => by
    obtain ⟨a, b, c, d⟩ := h10 i (by omega)
    exact ⟨a.symm, b.symm, c.symm, d.symm⟩⟩
theorem simD.last {m m' : DV} (h : simD m m') : ∀ i, i ≤ m.rl → lastS m'.X i = lastS m.X i
  | 0, _ => rfl
  | i + 1, hi => (h.2.2.2.2.2.2.2 i hi).1
theorem simD.ok {m m' : DV} (h : simD m m') (k : okD m) : okD m' := by
  obtain ⟨h1, h2, h3, h4, ⟨h5, h6⟩, ⟨h7, h8⟩, h9, h10⟩ := h
  obtain ⟨k1, k2, k3, k4, k5, k6, k7⟩ := k
  have hl := simD.last (m := m) (m' := m') ⟨h1, h2, h3, h4, ⟨h5, h6⟩, ⟨h7, h8⟩, h9, h10⟩
  refine ⟨by rw [h1]; exact k1, by rw [h1, h5, h6, h7, h8]; exact k2, by rw [h2]; exact k3, by rw [h3]; exact k4, by rw [h4]; exact k5, by rw [h9]; exact k6, fun i hi => ?_⟩
  rw [h9] at hi
  obtain ⟨e1, e2, e3, e4⟩ := h10 i hi
  have := k7 i hi
  unfold okRow at *
  rw [h1, h4, hl i (by omega), e1, e2, e3, e4]
  exact this
theorem simD.chk {m m' : DV} (h : simD m m') : chkD m' = chkD m := by
  unfold chkD
  by_cases k : okD m
  · rw [if_pos k, if_pos (h.ok k)]
  · rw [if_neg k, if_neg (fun k' => k (h.symm.ok k'))]
theorem simD.fit {m m' : DV} {b b' : BV} (h : simD m m') (hb : simB b b') : fitD m' b' = fitD m b := by
  obtain ⟨b1, b2, b3, b4, ⟨b5, b6⟩, b7, b8⟩ := hb
  have e1 : sizeB m' b' = sizeB m b := by unfold sizeB; rw [h.1, b5, b7]
  have e2 : spanB b' = spanB b := by unfold spanB; rw [b1, b3, b4]
  have e3 : formB m'.N.toNat b'.x.Z b'.p.Z = formB m.N.toNat b.x.Z b.p.Z := by rw [h.1, b6, b8]
  unfold fitD
  by_cases k : okD m
  · rw [if_pos k, if_pos (h.ok k)]
    by_cases s1 : sizeB m b
    · rw [if_pos s1, if_pos (by rw [e1]; exact s1)]
      by_cases s2 : spanB b
      · rw [if_pos s2, if_pos (by rw [e2]; exact s2)]
        by_cases s3 : formB m.N.toNat b.x.Z b.p.Z
        · rw [if_pos s3, if_pos (by rw [e3]; exact s3)]
        · rw [if_neg s3, if_neg (by rw [e3]; exact s3)]
      · rw [if_neg s2, if_neg (by rw [e2]; exact s2)]
    · rw [if_neg s1, if_neg (by rw [e1]; exact s1)]
  · rw [if_neg k, if_neg (fun k' => k (h.symm.ok k'))]
/-- The rows of a sensor are the same. -/
theorem seen_sim {X Y : Nat → RV} {s : Int} : ∀ {n : Nat}, (∀ i, i < n → simRV (X i) (Y i)) → (seenR X s n).length = (seenR Y s n).length ∧ ∀ (i : Nat) (x y : RV), (seenR X s n)[i]? = some x → (seenR Y s n)[i]? = some y → simRV x y
  | 0, _ => ⟨rfl, fun i x y hx => by cases hx⟩
  | n + 1, h => by
    obtain ⟨h1, h2⟩ := seen_sim (n := n) (s := s) (fun i hi => h i (by omega))
    have e := (h n (by omega)).1
    unfold seenR
    by_cases k : (Y n).s = s
    · rw [if_pos k, if_pos (e.trans k)]
      refine ⟨by rw [List.length_append, List.length_append, h1]; rfl, fun i x y hx hy => ?_⟩
      rw [List.getElem?_append] at hx hy
      split at hx
      · rename_i hi
        rw [if_pos (by rw [← h1]; exact hi)] at hy
        exact h2 i x y hx hy
      · rename_i hi
        rw [if_neg (by rw [← h1]; exact hi)] at hy
        have e2 : i - (seenR X s n).length = 0 := by
          rcases Nat.lt_or_ge (i - (seenR X s n).length) 1 with h3 | h3
          · omega
          · rw [List.getElem?_eq_none (by simpa using h3)] at hx; cases hx
        rw [e2] at hx
        rw [← h1, e2] at hy
        cases hx
        cases hy
        exact h n (by omega)
    · rw [if_neg k, if_neg (fun k' => k (e.symm.trans k'))]
      exact ⟨h1, h2⟩
/-- What CopyModel and CopyBelief tell. -/
def CopyDP (m : DV) (w : World) (e : Ending) (w' : World) : Prop := ∃ m' : DV, e = .returned (.agg m'.cells) ∧ m'.good w' ∧ simD m m' ∧ (∀ U, U < w.heap.size → Off U m'.A.len m'.A.ao ∧ Off U m'.Q.len m'.Q.ao ∧ Off U m'.rl m'.ro ∧ ∀ i, i < m'.rl → Off U (m'.X i).h.len (m'.X i).h.ao) ∧ Kp w w'
def CopyBP (b : BV) (w : World) (e : Ending) (w' : World) : Prop := ∃ b' : BV, e = .returned (.agg b'.cells) ∧ b'.good w' ∧ simB b b' ∧ (∀ U, U < w.heap.size → Off U b'.x.len b'.x.ao ∧ Off U b'.p.len b'.p.ao) ∧ Kp w w'
theorem kitCopyD (m : DV) (w : World) (h : m.good w) : Calls Try.prog 11 #[.agg m.cells] w fun e w' => CopyDP m w e w' := by
  obtain ⟨hA, hQ, hr, hX, hf, hi, l1, l2, l3, l4⟩ := h
  refine (kitCopyMc m.N m.tick m.gate m.rmin m.A.ao m.Q.ao m.ro m.A.len m.A.cap m.Q.len m.Q.cap m.rl m.rc m.A.Z m.Q.Z m.X (by omega) (by omega) (by omega) hA.2.1.2 hQ.2.1.2 hf.2 w hA.1 hQ.1 hr (fun i hi => ⟨(hX i hi).1.1, by have := l4 i hi; omega, (hX i hi).1.2.1.2⟩)).mono ?_
  rintro e w' ⟨a, q, lo, ap, qp, lc, Y, rfl, f1, f2, f3, r1, r2, r3, hY, ho, kk⟩
  have hy : ∀ i, i < m.rl → simRV (Y i) (m.X i) := fun i hi => by
    obtain ⟨b, p, e, _⟩ := hY i hi
    rw [e]
    exact ⟨rfl, rfl, rfl, rfl⟩
  refine ⟨⟨m.N, ⟨a, m.A.len, ap, m.A.Z⟩, ⟨q, m.Q.len, qp, m.Q.Z⟩, m.tick, m.gate, m.rmin, lo, m.rl, lc, Y⟩, rfl, ⟨⟨r1, f1, hA.2.2⟩, ⟨r2, f2, hQ.2.2⟩, r3, fun i hi => ?_, f3, hi, l1, l2, l3, fun i hi => ?_⟩, ⟨rfl, rfl, rfl, rfl, ⟨rfl, rfl⟩, ⟨rfl, rfl⟩, rfl, hy⟩, fun U hU => ⟨(ho U hU).1, (ho U hU).2.1, (ho U hU).2.2, fun i hi => ?_⟩, kk⟩
  · have hi : i < m.rl := hi
    obtain ⟨b, p, e, e2, e3, _⟩ := hY i hi
    show (Y i).h.good w' ∧ I64 (Y i).s ∧ I64 (Y i).r
    rw [e]
    exact ⟨⟨e3, e2, (hX i hi).1.2.2⟩, (hX i hi).2⟩
  · have hi : i < m.rl := hi
    obtain ⟨b, p, e, _⟩ := hY i hi
    show (Y i).h.len ≤ 12
    rw [e]
    exact l4 i hi
  · have hi : i < m.rl := hi
    obtain ⟨b, p, e, _, _, e4⟩ := hY i hi
    show Off U (Y i).h.len (Y i).h.ao
    rw [e]
    exact e4 U hU
theorem kitCopyB (b : BV) (w : World) (h : b.good w) : Calls Try.prog 12 #[.agg b.cells] w fun e w' => CopyBP b w e w' := by
  obtain ⟨hx, hp, hi, l1, l2⟩ := h
  refine (kitCopyBc b.at' b.pass b.fail b.flag b.x.ao b.p.ao b.x.len b.x.cap b.p.len b.p.cap b.x.Z b.p.Z (by omega) (by omega) hx.2.1.2 hp.2.1.2 w hx.1 hp.1).mono ?_
  rintro e w' ⟨a, p, a2, p2, rfl, f1, f2, r1, r2, ho, kk⟩
  exact ⟨⟨b.at', ⟨a, b.x.len, p, b.x.Z⟩, ⟨a2, b.p.len, p2, b.p.Z⟩, b.flag, b.pass, b.fail⟩, rfl, ⟨⟨r1, f1, hx.2.2⟩, ⟨r2, f2, hp.2.2⟩, hi, l1, l2⟩, ⟨rfl, rfl, rfl, rfl, ⟨rfl, rfl⟩, rfl, rfl⟩, ho, kk⟩

theorem kitSameD (m m' : DV) (w : World) (h : m.good w) (h' : m'.good w) (s : simD m m') : Calls Try.prog 22 #[.agg m'.cells, .agg m.cells] w fun e w' => e = .returned (.bool true) ∧ Kp w w' := by
  obtain ⟨s1, s2, s3, s4, ⟨s5, s6⟩, ⟨s7, s8⟩, s9, s10⟩ := s
  have e : m'.cells = #[.int .i64 m.N, .slice m'.A.ao m.A.len m'.A.cap, .slice m'.Q.ao m.Q.len m'.Q.cap, .int .i64 m.tick, .int .i64 m.gate, .int .i64 m.rmin, .slice m'.ro m.rl m'.rc] := by
    unfold DV.cells
    rw [s1, s2, s3, s4, s5, s7, s9]
  obtain ⟨hA, hQ, hr, hX, hf, _, l1, l2, l3, l4⟩ := h
  obtain ⟨hA', hQ', hr', hX', hf', _⟩ := h'
  rw [e]
  have rA : Row w m'.A.ao m.A.len m.A.Z := by have := hA'.1; unfold LV.ok at this; rwa [s5, s6] at this
  have rQ : Row w m'.Q.ao m.Q.len m.Q.Z := by have := hQ'.1; unfold LV.ok at this; rwa [s7, s8] at this
  rw [s9] at hr' hX'
  exact kitSameMc m.N m.tick m.gate m.rmin m'.A.ao m.A.ao m'.Q.ao m.Q.ao m'.ro m.ro m.A.len m'.A.cap m.A.cap m.Q.len m'.Q.cap m.Q.cap m.rl m'.rc m.rc m.A.Z m.Q.Z m'.X m.X (by omega) (by omega) (by omega) w rA hA.1 rQ hQ.1 ⟨hr', hr, fun i hi => by
    obtain ⟨a, b, c, d⟩ := s10 i hi
    exact ⟨⟨a, b, c, fun p _ => by rw [d]⟩, by rw [c]; have := l4 i hi; omega, (hX' i hi).1.1, (hX i hi).1.1⟩⟩
theorem kitSameB (b b' : BV) (w : World) (h : b.good w) (h' : b'.good w) (s : simB b b') : Calls Try.prog 23 #[.agg b'.cells, .agg b.cells] w fun e w' => e = .returned (.bool true) ∧ Kp w w' := by
  obtain ⟨s1, s2, s3, s4, ⟨s5, s6⟩, s7, s8⟩ := s
  have e : b'.cells = #[.int .i64 b.at', .slice b'.x.ao b.x.len b'.x.cap, .slice b'.p.ao b.p.len b'.p.cap, .bool b.flag, .int .i64 b.pass, .int .i64 b.fail] := by
    unfold BV.cells
    rw [s1, s2, s3, s4, s5, s7]
  rw [e]
  have rx : Row w b'.x.ao b.x.len b.x.Z := by have := h'.1.1; unfold LV.ok at this; rwa [s5, s6] at this
  have rp : Row w b'.p.ao b.p.len b.p.Z := by have := h'.2.1.1; unfold LV.ok at this; rwa [s7, s8] at this
  exact kitSameBc b.at' b.pass b.fail b.flag b'.x.ao b.x.ao b'.p.ao b.p.ao b.x.len b'.x.cap b.x.cap b.p.len b'.p.cap b.p.cap b.x.Z b.p.Z (by have := h.2.2.2.1; omega) (by have := h.2.2.2.2; omega) w rx h.1.1 rp h.2.1.1

theorem refRowsD (m : DV) (s : Int) (w : World) (h : m.good w) : Calls Try.prog 14 #[.agg m.cells, .int .i64 s] w fun e w' => RowsP m.X s m.rl w e w' :=
  refRowsOf_c m.N m.A.ao m.Q.ao m.ro m.A.len m.A.cap m.Q.len m.Q.cap m.rl m.rc m.tick m.gate m.rmin s m.X (by have := h.2.2.2.2.2.2.2.2.1; omega) w h.2.2.1 (fun i hi => (h.2.2.2.1 i hi).1.1) (fun i hi => ⟨by have := h.2.2.2.2.2.2.2.2.2 i hi; omega, (h.2.2.2.1 i hi).1.2.1.2⟩)

end Go.Proofs.Ytpanfppnkgokdaa

/- Copies of beliefs whose lists are owned. -/
namespace Go.Proofs.Ytpanfppnkgokdaa
open Go.RowKit Go.Shelf Go.Proofs.Wd
set_option linter.unusedVariables false
set_option linter.unusedSimpArgs false
set_option maxRecDepth 10000

/-- A list of numbers in a block of its own, or nil. -/
def OwL (base : Nat) (ao : Option Addr) (n cap : Nat) (Z : Nat → Int) (W : World) : Prop := W.ownsRow base 3 1 (.slice ao n cap) n ((List.range n).map fun i => Value.int .i64 (Z i))
theorem OwL.blk {base n cap : Nat} {ao : Option Addr} {Z : Nat → Int} {w w' : World} (h : OwL base ao n cap Z w) (k : ∀ g cs, ao = some ⟨g, 0, none⟩ → base ≤ g → Blk g cs 3 w → Blk g cs 3 w') : OwL base ao n cap Z w' := by
  refine ⟨h.1, ?_⟩
  rcases h.2 with h2 | ⟨g, cap', cur, e, hb, hg, r⟩
  · exact Or.inl h2
  · refine Or.inr ⟨g, cap', cur, e, hb, k g cur ?_ hb hg, r⟩
    injection e
theorem OwL.kp {base n cap : Nat} {ao : Option Addr} {Z : Nat → Int} {w w' : World} (h : OwL base ao n cap Z w) (k : Kp w w') : OwL base ao n cap Z w' := h.blk fun _ _ _ _ hb => Blk.kp hb k
theorem OwL.mk {base n cap U : Nat} {ao : Option Addr} {Z : Nat → Int} {w w' : World} (h : OwL base ao n cap Z w) (k : Mk U w w') (hU : U < base) : OwL base ao n cap Z w' := h.blk fun g _ _ hg hb => Blk.mk hb k (by omega)
theorem OwL.mono {base base' n cap : Nat} {ao : Option Addr} {Z : Nat → Int} {w : World} (h : OwL base ao n cap Z w) (hb : base' ≤ base) : OwL base' ao n cap Z w := by
  refine ⟨h.1, ?_⟩
  rcases h.2 with h2 | ⟨g, cap', cur, e, hb', hg, r⟩
  · exact Or.inl h2
  · exact Or.inr ⟨g, cap', cur, e, by omega, hg, r⟩
theorem OwL.parts {base n cap : Nat} {ao : Option Addr} {Z : Nat → Int} {w : World} (h : OwL base ao n cap Z w) : FitL ao n cap ∧ Row w ao n Z ∧ (∀ U, U < base → Off U n ao) ∧ ((ao = none ∧ n = 0) ∨ ∃ g, ao = some ⟨g, 0, none⟩ ∧ base ≤ g ∧ g < w.heap.size) := by
  obtain ⟨a2, c2, e, h1, h2, h3⟩ := owns_rowC h
  cases e
  refine ⟨owns_fit h h1, h2, h3, ?_⟩
  rcases h.2 with ⟨e, h0⟩ | ⟨g, cap', cur, e, hb, hg, _⟩
  · injection e with e1
    exact Or.inl ⟨e1, h0⟩
  · injection e with e1
    exact Or.inr ⟨g, e1, hb, Blk.lt hg⟩
def CopyO (n : Nat) (Z : Nat → Int) (w : World) (e : Ending) (w' : World) : Prop := ∃ ao cap, e = .returned (.slice ao n cap) ∧ OwL w.heap.size ao n cap Z w' ∧ Kp w w'
set_option maxHeartbeats 1000000 in
theorem kitCopyO (ao : Option Addr) (n cap : Nat) (Z : Nat → Int) (hn : n ≤ 1000000) (h0 : ao = none → n = 0 ∧ cap = 0) (w : World) (hr : Row w ao n Z) :
    Calls Try.prog 27 #[.slice ao n cap] w fun e w' => CopyO n Z w e w' := by
  have HR := hide hr
  clear hr
  obtain ⟨i0, hi, hz0, hz1, hz2⟩ := info_parts Try.infoInt
  have OM := hide (World.ownsRow_made (base := w.heap.size) (e := 3) (size := 1) w #[] 0 (Nat.le_refl _) (by unfold maxLen; omega) (by simp))
  cases ao with
  | none =>
    obtain ⟨rfl, rfl⟩ := h0 rfl
    clear h0
    go_enter Try.func27, Try.ntmps27
    go_wp2_with (at_builtin; refine wpList_append_own_none rfl _ _ 22 rfl w.heap.size 3 i0 1 Try.underlying22 hi _ _ _ rfl (unhide OM) rfl ?_)
    go_ret
    exact (show CopyO _ _ _ _ _ from ⟨_, _, rfl, unhide OM, (Kp.refl _).alloc _ _⟩)
  | some a =>
    clear h0
    have NEW : ∀ j u, ((List.range n).map fun i => Value.int .i64 (Z i))[j]? = some u → (w.alloc (.cells #[] 3)).cell? (a.add j) = some u := by
      intro j u hu
      rw [List.getElem?_map] at hu
      by_cases hj : j < n
      · rw [List.getElem?_range hj] at hu
        simp at hu
        subst hu
        obtain ⟨b, o, e, hc⟩ := (unhide HR).at hj
        cases e
        rw [Go.WideShapes.add_plain]
        exact gat ((Grown.refl _).alloc _ _) hc
      · rw [List.getElem?_eq_none (by simpa using hj)] at hu
        simp at hu
    have NEWH := hide NEW
    clear NEW
    go_enter Try.func27, Try.ntmps27
    go_wp2_with (at_builtin; refine wpList_append_own _ rfl _ _ 22 rfl w.heap.size 3 i0 (.int .i64 0) 1 8 Try.underlying22 hi hz0 hz1 hz2 rfl (by decide) _ _ _ rfl (unhide OM) a n cap ((List.range n).map fun i => Value.int .i64 (Z i)) rfl (by simp) (unhide NEWH) (cells_one _ _) (by unfold maxLen; omega) (by omega) (by simp) ?_; intro v' w1 hown' hgrow _)
    rw [Nat.zero_add, List.nil_append] at hown'
    have ho2 := hown'
    obtain ⟨ao2, cap2, rfl, hc2, row2, off2⟩ := owns_rowC hown'
    have K1 : Hid (Kp w w1) := Kp.by ((Kp.refl _).alloc _ _) hgrow (fun k e => by have := ((unhide OM).lt k e).1; omega)
    have R1 : Hid (OwL w.heap.size ao2 n cap2 Z w1) := ho2
    clear hown' hgrow row2 off2 hc2 ho2
    go_wp2
    go_ret
    exact (show CopyO _ _ _ _ _ from ⟨_, _, rfl, unhide R1, unhide K1⟩)
/-- Two lists that do not lie in one block. -/
def ApL (a b : Option Addr) : Prop := ∀ g, a = some ⟨g, 0, none⟩ → b ≠ some ⟨g, 0, none⟩
def CopyBO (ti pass fail : Int) (flag : Bool) (xl pl : Nat) (XZ PZ : Nat → Int) (w : World) (e : Ending) (w' : World) : Prop :=
  ∃ a p a2 p2, e = .returned (.agg #[.int .i64 ti, .slice a xl p, .slice a2 pl p2, .bool flag, .int .i64 pass, .int .i64 fail]) ∧ OwL w.heap.size a xl p XZ w' ∧ OwL w.heap.size a2 pl p2 PZ w' ∧ ApL a a2 ∧ Kp w w'

set_option maxRecDepth 20000 in
set_option maxHeartbeats 4000000 in
theorem kitCopyBo (ti pass fail : Int) (flag : Bool) (xa pa : Option Addr) (xl xc pl pc : Nat) (XZ PZ : Nat → Int) (hx : xl ≤ 1000000) (hp : pl ≤ 1000000) (nx : xa = none → xl = 0 ∧ xc = 0) (np : pa = none → pl = 0 ∧ pc = 0) (w : World) (r1 : Row w xa xl XZ) (r2 : Row w pa pl PZ) :
    Calls Try.prog 12 #[.agg #[.int .i64 ti, .slice xa xl xc, .slice pa pl pc, .bool flag, .int .i64 pass, .int .i64 fail]] w fun e w' => CopyBO ti pass fail flag xl pl XZ PZ w e w' := by
  have G1 : Hid (Kp w ((w.alloc (.cells #[.int .i64 ti, .slice xa xl xc, .slice pa pl pc, .bool flag, .int .i64 pass, .int .i64 fail] 27)).alloc (.cells #[.int .i64 0, .slice none 0 0, .slice none 0 0, .bool false, .int .i64 0, .int .i64 0] 27)) ∧ Blk w.heap.size #[.int .i64 ti, .slice xa xl xc, .slice pa pl pc, .bool flag, .int .i64 pass, .int .i64 fail] 27 ((w.alloc (.cells #[.int .i64 ti, .slice xa xl xc, .slice pa pl pc, .bool flag, .int .i64 pass, .int .i64 fail] 27)).alloc (.cells #[.int .i64 0, .slice none 0 0, .slice none 0 0, .bool false, .int .i64 0, .int .i64 0] 27)) ∧ Blk (w.heap.size + 1) #[.int .i64 0, .slice none 0 0, .slice none 0 0, .bool false, .int .i64 0, .int .i64 0] 27 ((w.alloc (.cells #[.int .i64 ti, .slice xa xl xc, .slice pa pl pc, .bool flag, .int .i64 pass, .int .i64 fail] 27)).alloc (.cells #[.int .i64 0, .slice none 0 0, .slice none 0 0, .bool false, .int .i64 0, .int .i64 0] 27))) := ⟨((Kp.refl _).alloc _ _).alloc _ _, Blk.grown (Blk.new w _ _) ((Grown.refl _).alloc _ _), blk_new2 w _ _ _⟩
  have CX := hide (fun W (g : Kp w W) => kitCopyO xa xl xc XZ hx nx W (r1.kp g))
  have CP := hide (fun W (g : Kp w W) => kitCopyO pa pl pc PZ hp np W (r2.kp g))
  have y0 : ((w.alloc (.cells #[.int .i64 ti, .slice xa xl xc, .slice pa pl pc, .bool flag, .int .i64 pass, .int .i64 fail] 27)).alloc (.cells #[.int .i64 0, .slice none 0 0, .slice none 0 0, .bool false, .int .i64 0, .int .i64 0] 27)).cell? ⟨w.heap.size, 0, none⟩ = some (.int .i64 ti) := Blk.cell (unhide G1).2.1 0
  have y1 : ((w.alloc (.cells #[.int .i64 ti, .slice xa xl xc, .slice pa pl pc, .bool flag, .int .i64 pass, .int .i64 fail] 27)).alloc (.cells #[.int .i64 0, .slice none 0 0, .slice none 0 0, .bool false, .int .i64 0, .int .i64 0] 27)).cell? ⟨w.heap.size, 1, none⟩ = some (.slice xa xl xc) := Blk.cell (unhide G1).2.1 1
  have y2 : ((w.alloc (.cells #[.int .i64 ti, .slice xa xl xc, .slice pa pl pc, .bool flag, .int .i64 pass, .int .i64 fail] 27)).alloc (.cells #[.int .i64 0, .slice none 0 0, .slice none 0 0, .bool false, .int .i64 0, .int .i64 0] 27)).cell? ⟨w.heap.size, 2, none⟩ = some (.slice pa pl pc) := Blk.cell (unhide G1).2.1 2
  have y3 : ((w.alloc (.cells #[.int .i64 ti, .slice xa xl xc, .slice pa pl pc, .bool flag, .int .i64 pass, .int .i64 fail] 27)).alloc (.cells #[.int .i64 0, .slice none 0 0, .slice none 0 0, .bool false, .int .i64 0, .int .i64 0] 27)).cell? ⟨w.heap.size, 3, none⟩ = some (.bool flag) := Blk.cell (unhide G1).2.1 3
  have y4 : ((w.alloc (.cells #[.int .i64 ti, .slice xa xl xc, .slice pa pl pc, .bool flag, .int .i64 pass, .int .i64 fail] 27)).alloc (.cells #[.int .i64 0, .slice none 0 0, .slice none 0 0, .bool false, .int .i64 0, .int .i64 0] 27)).cell? ⟨w.heap.size, 4, none⟩ = some (.int .i64 pass) := Blk.cell (unhide G1).2.1 4
  have y5 : ((w.alloc (.cells #[.int .i64 ti, .slice xa xl xc, .slice pa pl pc, .bool flag, .int .i64 pass, .int .i64 fail] 27)).alloc (.cells #[.int .i64 0, .slice none 0 0, .slice none 0 0, .bool false, .int .i64 0, .int .i64 0] 27)).cell? ⟨w.heap.size, 5, none⟩ = some (.int .i64 fail) := Blk.cell (unhide G1).2.1 5
  clear hx hp nx np r1 r2
  go_enter Try.func12, Try.ntmps12
  go_wp2_with fail
  generalize ((w.alloc (.cells #[.int .i64 ti, .slice xa xl xc, .slice pa pl pc, .bool flag, .int .i64 pass, .int .i64 fail] 27)).alloc (.cells #[.int .i64 0, .slice none 0 0, .slice none 0 0, .bool false, .int .i64 0, .int .i64 0] 27)) = w1 at *
  refine (unhide CX _ (unhide G1).1).mono ?_
  rintro e w2 ⟨a, p, rfl, hr, k2⟩
  have l1 := Blk.lt (unhide G1).2.2
  have b2 := Blk.kp (unhide G1).2.1 k2
  have f2 := Blk.free b2
  have sm : Mod w.heap.size w2 (w2.setCell ⟨w.heap.size, 1, none⟩ (.slice a xl p)) := (Mod.refl _ _).setCell _ _
  have G2 : Hid (Kp w (w2.setCell ⟨w.heap.size, 1, none⟩ (.slice a xl p)) ∧ Blk w.heap.size #[.int .i64 ti, .slice a xl p, .slice pa pl pc, .bool flag, .int .i64 pass, .int .i64 fail] 27 (w2.setCell ⟨w.heap.size, 1, none⟩ (.slice a xl p)) ∧ Blk (w.heap.size + 1) #[.int .i64 0, .slice none 0 0, .slice none 0 0, .bool false, .int .i64 0, .int .i64 0] 27 (w2.setCell ⟨w.heap.size, 1, none⟩ (.slice a xl p)) ∧ OwL (w.heap.size + 2) a xl p XZ (w2.setCell ⟨w.heap.size, 1, none⟩ (.slice a xl p))) := ⟨((unhide G1).1.trans k2).mod sm (Nat.le_refl _), Blk.set b2 1 _, Blk.keep (Blk.kp (unhide G1).2.2 k2) sm (by omega), (hr.mono (by omega)).mk (Mk.of sm) (by omega)⟩
  have z0 : w2.cell? ⟨w.heap.size, 0, none⟩ = some (.int .i64 ti) := Blk.cell b2 0
  have z1 : w2.cell? ⟨w.heap.size, 1, none⟩ = some (.slice xa xl xc) := Blk.cell b2 1
  have z2 : w2.cell? ⟨w.heap.size, 2, none⟩ = some (.slice pa pl pc) := Blk.cell b2 2
  have z3 : w2.cell? ⟨w.heap.size, 3, none⟩ = some (.bool flag) := Blk.cell b2 3
  have z4 : w2.cell? ⟨w.heap.size, 4, none⟩ = some (.int .i64 pass) := Blk.cell b2 4
  have z5 : w2.cell? ⟨w.heap.size, 5, none⟩ = some (.int .i64 fail) := Blk.cell b2 5
  clear hr k2 b2 sm CX G1 l1 y0 y1 y2 y3 y4 y5
  go_upto_region 2 with fail
  clear f2 z0 z1 z2 z3 z4 z5
  generalize (w2.setCell ⟨w.heap.size, 1, none⟩ (.slice a xl p)) = w3 at *
  have y0 : w3.cell? ⟨w.heap.size, 0, none⟩ = some (.int .i64 ti) := Blk.cell (unhide G2).2.1 0
  have y1 : w3.cell? ⟨w.heap.size, 1, none⟩ = some (.slice a xl p) := Blk.cell (unhide G2).2.1 1
  have y2 : w3.cell? ⟨w.heap.size, 2, none⟩ = some (.slice pa pl pc) := Blk.cell (unhide G2).2.1 2
  have y3 : w3.cell? ⟨w.heap.size, 3, none⟩ = some (.bool flag) := Blk.cell (unhide G2).2.1 3
  have y4 : w3.cell? ⟨w.heap.size, 4, none⟩ = some (.int .i64 pass) := Blk.cell (unhide G2).2.1 4
  have y5 : w3.cell? ⟨w.heap.size, 5, none⟩ = some (.int .i64 fail) := Blk.cell (unhide G2).2.1 5
  go_wp2_with fail
  refine (unhide CP _ (unhide G2).1).mono ?_
  rintro e w4 ⟨a2, p2, rfl, hr2, k4⟩
  have l3 := Blk.lt (unhide G2).2.2.1
  have b4 := Blk.kp (unhide G2).2.1 k4
  have f4 := Blk.free b4
  have sm : Mod w.heap.size w4 (w4.setCell ⟨w.heap.size, 2, none⟩ (.slice a2 pl p2)) := (Mod.refl _ _).setCell _ _
  have ap : ApL a a2 := fun g e1 e2 => by
    rcases (unhide G2).2.2.2.parts.2.2.2 with ⟨h, _⟩ | ⟨g1, h1, _, h2⟩
    · rw [h] at e1; cases e1
    · rw [h1] at e1
      cases e1
      rcases hr2.parts.2.2.2 with ⟨h, _⟩ | ⟨g2, h3, h4, _⟩
      · rw [h] at e2; cases e2
      · rw [h3] at e2
        cases e2
        omega
  have G4 : Hid (Kp w (w4.setCell ⟨w.heap.size, 2, none⟩ (.slice a2 pl p2)) ∧ Blk w.heap.size #[.int .i64 ti, .slice a xl p, .slice a2 pl p2, .bool flag, .int .i64 pass, .int .i64 fail] 27 (w4.setCell ⟨w.heap.size, 2, none⟩ (.slice a2 pl p2)) ∧ Blk (w.heap.size + 1) #[.int .i64 0, .slice none 0 0, .slice none 0 0, .bool false, .int .i64 0, .int .i64 0] 27 (w4.setCell ⟨w.heap.size, 2, none⟩ (.slice a2 pl p2)) ∧ OwL (w.heap.size + 2) a xl p XZ (w4.setCell ⟨w.heap.size, 2, none⟩ (.slice a2 pl p2)) ∧ OwL (w.heap.size + 2) a2 pl p2 PZ (w4.setCell ⟨w.heap.size, 2, none⟩ (.slice a2 pl p2)) ∧ ApL a a2) := ⟨((unhide G2).1.trans k4).mod sm (Nat.le_refl _), Blk.set b4 2 _, Blk.keep (Blk.kp (unhide G2).2.2.1 k4) sm (by omega), ((unhide G2).2.2.2.kp k4).mk (Mk.of sm) (by omega), (hr2.mono (by omega)).mk (Mk.of sm) (by omega), ap⟩
  have z0 : w4.cell? ⟨w.heap.size, 0, none⟩ = some (.int .i64 ti) := Blk.cell b4 0
  have z1 : w4.cell? ⟨w.heap.size, 1, none⟩ = some (.slice a xl p) := Blk.cell b4 1
  have z2 : w4.cell? ⟨w.heap.size, 2, none⟩ = some (.slice pa pl pc) := Blk.cell b4 2
  have z3 : w4.cell? ⟨w.heap.size, 3, none⟩ = some (.bool flag) := Blk.cell b4 3
  have z4 : w4.cell? ⟨w.heap.size, 4, none⟩ = some (.int .i64 pass) := Blk.cell b4 4
  have z5 : w4.cell? ⟨w.heap.size, 5, none⟩ = some (.int .i64 fail) := Blk.cell b4 5
  clear hr2 k4 b4 sm CP G2 l3 y0 y1 y2 y3 y4 y5 ap
  go_upto_region 3 with fail
  clear f4 z0 z1 z2 z3 z4 z5
  generalize (w4.setCell ⟨w.heap.size, 2, none⟩ (.slice a2 pl p2)) = w5 at *
  have y0 : w5.cell? ⟨w.heap.size, 0, none⟩ = some (.int .i64 ti) := Blk.cell (unhide G4).2.1 0
  have y1 : w5.cell? ⟨w.heap.size, 1, none⟩ = some (.slice a xl p) := Blk.cell (unhide G4).2.1 1
  have y2 : w5.cell? ⟨w.heap.size, 2, none⟩ = some (.slice a2 pl p2) := Blk.cell (unhide G4).2.1 2
  have y3 : w5.cell? ⟨w.heap.size, 3, none⟩ = some (.bool flag) := Blk.cell (unhide G4).2.1 3
  have y4 : w5.cell? ⟨w.heap.size, 4, none⟩ = some (.int .i64 pass) := Blk.cell (unhide G4).2.1 4
  have y5 : w5.cell? ⟨w.heap.size, 5, none⟩ = some (.int .i64 fail) := Blk.cell (unhide G4).2.1 5
  have x0 : w5.cell? ⟨w.heap.size + 1, 0, none⟩ = some (.int .i64 0) := Blk.cell (unhide G4).2.2.1 0
  have x1 : w5.cell? ⟨w.heap.size + 1, 1, none⟩ = some (.slice none 0 0) := Blk.cell (unhide G4).2.2.1 1
  have x2 : w5.cell? ⟨w.heap.size + 1, 2, none⟩ = some (.slice none 0 0) := Blk.cell (unhide G4).2.2.1 2
  have x3 : w5.cell? ⟨w.heap.size + 1, 3, none⟩ = some (.bool false) := Blk.cell (unhide G4).2.2.1 3
  have x4 : w5.cell? ⟨w.heap.size + 1, 4, none⟩ = some (.int .i64 0) := Blk.cell (unhide G4).2.2.1 4
  have x5 : w5.cell? ⟨w.heap.size + 1, 5, none⟩ = some (.int .i64 0) := Blk.cell (unhide G4).2.2.1 5
  have fx := Blk.free (unhide G4).2.2.1
  go_wp2
  have P : Blk (w.heap.size + 1) #[.int .i64 ti, .slice a xl p, .slice a2 pl p2, .bool flag, .int .i64 pass, .int .i64 fail] 27 ((((((w5.setCell ⟨w.heap.size + 1, 0, none⟩ (.int .i64 ti)).setCell ⟨w.heap.size + 1, 1, none⟩ (.slice a xl p)).setCell ⟨w.heap.size + 1, 2, none⟩ (.slice a2 pl p2)).setCell ⟨w.heap.size + 1, 3, none⟩ (.bool flag)).setCell ⟨w.heap.size + 1, 4, none⟩ (.int .i64 pass)).setCell ⟨w.heap.size + 1, 5, none⟩ (.int .i64 fail)) := Blk.set (Blk.set (Blk.set (Blk.set (Blk.set (Blk.set (unhide G4).2.2.1 0 _) 1 _) 2 _) 3 _) 4 _) 5 _
  have sm : Mod (w.heap.size + 1) w5 ((((((w5.setCell ⟨w.heap.size + 1, 0, none⟩ (.int .i64 ti)).setCell ⟨w.heap.size + 1, 1, none⟩ (.slice a xl p)).setCell ⟨w.heap.size + 1, 2, none⟩ (.slice a2 pl p2)).setCell ⟨w.heap.size + 1, 3, none⟩ (.bool flag)).setCell ⟨w.heap.size + 1, 4, none⟩ (.int .i64 pass)).setCell ⟨w.heap.size + 1, 5, none⟩ (.int .i64 fail)) := ((((((Mod.refl _ _).setCell _ _).setCell _ _).setCell _ _).setCell _ _).setCell _ _).setCell _ _
  generalize ((((((w5.setCell ⟨w.heap.size + 1, 0, none⟩ (.int .i64 ti)).setCell ⟨w.heap.size + 1, 1, none⟩ (.slice a xl p)).setCell ⟨w.heap.size + 1, 2, none⟩ (.slice a2 pl p2)).setCell ⟨w.heap.size + 1, 3, none⟩ (.bool flag)).setCell ⟨w.heap.size + 1, 4, none⟩ (.int .i64 pass)).setCell ⟨w.heap.size + 1, 5, none⟩ (.int .i64 fail)) = wE at *
  have c0' : wE.cell? ⟨w.heap.size + 1, 0, none⟩ = some (.int .i64 ti) := Blk.cell P 0
  have c1' : wE.cell? ⟨w.heap.size + 1, 1, none⟩ = some (.slice a xl p) := Blk.cell P 1
  have c2' : wE.cell? ⟨w.heap.size + 1, 2, none⟩ = some (.slice a2 pl p2) := Blk.cell P 2
  have c3' : wE.cell? ⟨w.heap.size + 1, 3, none⟩ = some (.bool flag) := Blk.cell P 3
  have c4' : wE.cell? ⟨w.heap.size + 1, 4, none⟩ = some (.int .i64 pass) := Blk.cell P 4
  have c5' : wE.cell? ⟨w.heap.size + 1, 5, none⟩ = some (.int .i64 fail) := Blk.cell P 5
  refine bodyPost_ret (v := .agg #[.int .i64 ti, .slice a xl p, .slice a2 pl p2, .bool flag, .int .i64 pass, .int .i64 fail]) (by simp [results, Try.results12, go_sem, c0', c1', c2', c3', c4', c5']) rfl ?_
  obtain ⟨g1, g2, g3, g4, g5, g6⟩ := unhide G4
  exact ⟨a, p, a2, p2, rfl, (g4.mk (Mk.of sm) (by omega)).mono (by omega), (g5.mk (Mk.of sm) (by omega)).mono (by omega), g6, g1.mod sm (by omega)⟩

end Go.Proofs.Ytpanfppnkgokdaa

/- What the laws want of package model, as premises; the law's helper awake. -/
namespace Go.Proofs.Ytpanfppnkgokdaa
open Go.RowKit Go.Shelf Go.Proofs.Wd
set_option linter.unusedVariables false
set_option linter.unusedSimpArgs false
set_option maxRecDepth 10000

/-- Each list of numbers of a list of rows, if there are any, in a block of its own. -/
def OwnRs (base : Nat) (l : List RV) (W : World) : Prop := ∀ (i : Nat) (x : RV), l[i]? = some x → x.h.len = 0 ∨ ∃ B, x.h.ao = some ⟨B, 0, none⟩ ∧ base ≤ B ∧ Own B x.h.len x.h.Z W ∧ ∀ (j : Nat) (y : RV), i < j → l[j]? = some y → Off B y.h.len y.h.ao
/-- What the program's RowsOf tells: it may be written over. -/
def ORowsP (X : Nat → RV) (s : Int) (n : Nat) (w : World) (e : Ending) (w' : World) : Prop := ∃ v l, e = .returned v ∧ RCp w.heap.size v (seenR X s n) l w' ∧ OwnRs w.heap.size l w' ∧ Kp w w'
def PCheck : Prop := ∀ (m : DV) (w : World), m.good w → Calls Try.prog 15 #[.agg m.cells] w fun e w' => e = .returned (.int .i64 (chkD m)) ∧ Kp w w'
def PDim : Prop := ∀ (m : DV) (s : Int) (w : World), I64 s → m.good w → Calls Try.prog 19 #[.agg m.cells, .int .i64 s] w fun e w' => e = .returned (.int .i64 ((seenR m.X s m.rl).length : Nat)) ∧ Kp w w'
def PRows : Prop := ∀ (m : DV) (s : Int) (w : World), I64 s → m.good w → Calls Try.prog 13 #[.agg m.cells, .int .i64 s] w fun e w' => ORowsP m.X s m.rl w e w'
def PFits : Prop := ∀ (m : DV) (b : BV) (w : World), m.good w → b.good w → Calls Try.prog 17 #[.agg m.cells, .agg b.cells] w fun e w' => e = .returned (.int .i64 (fitD m b)) ∧ Kp w w'

theorem two_dim3 (ba bq br b0 b1 b2 : Nat) : ((seenR (twoV ba bq br b0 b1 b2).X 3 (twoV ba bq br b0 b1 b2).rl).length : Nat) = 2 := rfl
theorem two_dim1 (ba bq br b0 b1 b2 : Nat) : ((seenR (twoV ba bq br b0 b1 b2).X 1 (twoV ba bq br b0 b1 b2).rl).length : Nat) = 0 := rfl
theorem two_seen7 (ba bq br b0 b1 b2 : Nat) : seenR (twoV ba bq br b0 b1 b2).X 7 (twoV ba bq br b0 b1 b2).rl = [(twoV ba bq br b0 b1 b2).X 2] := rfl
theorem two_fit2 (ba bq br b0 b1 b2 bx bp : Nat) : fitD (twoV ba bq br b0 b1 b2) (belV bx bp 2) = 5 := by
  unfold fitD
  rw [if_pos (twoV_okD ba bq br b0 b1 b2), if_pos (show sizeB _ _ from ⟨rfl, rfl⟩), if_pos (show spanB _ from ⟨⟨by show (0 : Int) ≤ 4; omega, by show (4 : Int) ≤ 1099511627776; omega⟩, ⟨by show (0 : Int) ≤ 0; omega, by show (0 : Int) ≤ 1099511627776; omega⟩, by show (0 : Int) ≤ 0; omega, by show (0 : Int) ≤ 1099511627776; omega⟩), if_neg (fun h => ?_)]
  have := ((h 0 (by show 0 < 2; omega)).2.2 1 (by show 1 < 2; omega)).2
  have : (1 : Int) = 2 := this
  omega
theorem slice_from2 (br : Nat) (w : World) : (Instr.sliceAt 23 (.slice (some ⟨br, 0, none⟩) 3 3) (some (.int .i64 2)) none none).run Try.prog w = .ok (.slice (some ⟨br, 6, none⟩) 1 1) w := by
  kernel_rfl
set_option maxRecDepth 20000 in
set_option maxHeartbeats 8000000 in
theorem lawAwake10 (pc : PCheck) (pd : PDim) (pr : PRows) (pf : PFits) (w : World) : Calls Try.prog 10 #[] w fun e w' => e = .returned (.bool true) ∧ Kp w w' := by
  have PC := hide pc
  have PD := hide pd
  have PR := hide pr
  have PF := hide pf
  clear pc pd pr pf
  go_enter Try.func10, Try.ntmps10
  go_wp2_with fail
  refine (lawTwo10 w).mono ?_
  rintro e w1 ⟨ba, bq, br, b0, b1, b2, rfl, g1, _, _, k1⟩
  have C1' := hide (unhide PC _ w1 g1)
  have K1 : Hid (Kp w w1) := k1
  rw [twoV_ok] at C1'
  clear g1 k1
  go_wp2_with fail
  refine (unhide C1').mono ?_
  rintro e w2 ⟨rfl, k2⟩
  have K2 : Hid (Kp w w2) := (unhide K1).trans k2
  clear k2 K1 C1'
  go_wp2_with fail
  refine (lawTwo10 w2).mono ?_
  rintro e w3 ⟨ba, bq, br, b0, b1, b2, rfl, g3, _, _, k3⟩
  have C3 := hide (unhide PD _ 3 w3 (by unfold I64; omega) g3)
  rw [two_dim3] at C3
  have K3 : Hid (Kp w w3) := (unhide K2).trans k3
  clear g3 k3 K2
  go_wp2_with fail
  refine (unhide C3).mono ?_
  rintro e w4 ⟨rfl, k4⟩
  have K4 : Hid (Kp w w4) := (unhide K3).trans k4
  clear k4 K3 C3
  go_wp2_with fail
  refine (lawTwo10 w4).mono ?_
  rintro e w5 ⟨ba, bq, br, b0, b1, b2, rfl, g5, _, _, k5⟩
  have C5 := hide (unhide PD _ 1 w5 (by unfold I64; omega) g5)
  rw [two_dim1] at C5
  have K5 : Hid (Kp w w5) := (unhide K4).trans k5
  clear g5 k5 K4
  go_wp2_with fail
  refine (unhide C5).mono ?_
  rintro e w6 ⟨rfl, k6⟩
  have K6 : Hid (Kp w w6) := (unhide K5).trans k6
  clear k6 K5 C5
  go_wp2_with fail
  refine (lawTwo10 w6).mono ?_
  rintro e w7 ⟨ba, bq, br, b0, b1, b2, rfl, g7, _, _, k7⟩
  have C7 := hide (unhide PR _ 7 w7 (by unfold I64; omega) g7)
  have K7 : Hid (Kp w w7) := (unhide K6).trans k7
  clear g7 k7 K6
  go_wp2_with fail
  refine (unhide C7).mono ?_
  rintro e w8 ⟨v, l, rfl, hL, _, k8⟩
  rw [two_seen7] at hL
  obtain ⟨lo, lc, rfl, hM, hlc, _⟩ := hL.1.rvs
  have hl1 : l.length = 1 := hL.2.1
  rw [hl1] at hM ⊢
  obtain ⟨a, p, ex, _, hrow, _⟩ := hL.2.2 0 (ixR l 0) _ (by rw [ixR_at (List.getElem?_eq_getElem (by omega))]; exact List.getElem?_eq_getElem (by omega)) rfl
  have S8 : Hid (RVs w8 lo 1 (ixR l) ∧ ixR l 0 = cpRV ((twoV ba bq br b0 b1 b2).X 2) a p ∧ Row w8 a ((twoV ba bq br b0 b1 b2).X 2).h.len ((twoV ba bq br b0 b1 b2).X 2).h.Z) := ⟨hM, ex, hrow⟩
  have K8 : Hid (Kp w w8) := (unhide K7).trans k8
  clear hL hM hlc hl1 ex hrow k8 K7 C7
  go_wp2_with fail
  refine (lawTwo10 w8).mono ?_
  rintro e w9 ⟨ba9, bq9, br9, b09, b19, b29, rfl, g9, _, _, k9⟩
  have SR := hide (kitSameR lo (some ⟨br9, 6, none⟩) 1 lc 1 (by omega) (ixR l) (fun _ => (twoV ba9 bq9 br9 b09 b19 b29).X 2) w9 ⟨(unhide S8).1.kp k9, Or.inr ⟨br9, 6, rfl, fun i hi j hj => by
      obtain rfl : i = 0 := by omega
      rcases g9.2.2.1 with h | ⟨b, o, e, h⟩
      · exact absurd h (by show ¬ (3 = 0); omega)
      · cases e
        have := h 2 (by show 2 < 3; omega) j hj
        rw [Nat.zero_add] at this
        rw [Nat.zero_mul, Nat.add_zero]
        exact this⟩, fun i hi => by
      obtain rfl : i = 0 := by omega
      rw [(unhide S8).2.1]
      exact ⟨⟨rfl, rfl, rfl, fun _ _ => rfl⟩, by show 2 ≤ 1000000; omega, (unhide S8).2.2.kp k9, (g9.2.2.2.1 2 (by show 2 < 3; omega)).1.1⟩⟩)
  have FD : ∀ w : World, (Instr.field 25 (.agg (twoV ba9 bq9 br9 b09 b19 b29).cells) 6).run Try.prog w = .ok (.slice (some ⟨br9, 0, none⟩) 3 3) w := fun w => rfl
  have SL := slice_from2 br9
  have K9 : Hid (Kp w w9) := (unhide K8).trans k9
  clear g9 k9 K8 S8
  go_wp2_with fail
  refine (unhide SR).mono ?_
  rintro e wa ⟨rfl, ka⟩
  have KA : Hid (Kp w wa) := (unhide K9).trans ka
  clear ka K9 SR FD SL
  go_wp2_with fail
  refine (lawTwo10 wa).mono ?_
  rintro e wb ⟨ba, bq, br, b0, b1, b2, rfl, gb, _, _, kb⟩
  have GB := hide gb
  have KB : Hid (Kp w wb) := (unhide KA).trans kb
  clear gb kb KA
  go_wp2_with fail
  refine (lawBelief 2 (by unfold I64; omega) wb).mono ?_
  rintro e wc ⟨bx, bp, rfl, gc, _, kc⟩
  have CF := hide (unhide PF _ _ wc ((unhide GB).kp kc) gc)
  rw [two_fit2] at CF
  have KC : Hid (Kp w wc) := (unhide KB).trans kc
  clear gc kc KB GB
  go_wp2_with fail
  refine (unhide CF).mono ?_
  rintro e wd ⟨rfl, kd⟩
  have KD : Hid (Kp w wd) := (unhide KC).trans kd
  clear kd KC CF
  go_wp2
  go_ret
  exact ⟨rfl, unhide KD⟩

end Go.Proofs.Ytpanfppnkgokdaa
