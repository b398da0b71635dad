/- VecReckons. -/
import Derived.Test.YtmdclpjbpkfckaaVecP
namespace Go.Proofs.Ytmdclpjbpkfckaa
open Go.RowKit Go.Proofs.Wd
set_option linter.unusedVariables false
set_option linter.unusedSimpArgs false

/-- The law under way: both units, the pair of them, what came in, and the lists. -/
def QS (w : World) (U R xb : Nat) (cu : Bool) (nu : Int) (cr : Bool) (nr : Int) (rows : List (Option Addr × Nat × (Nat → Int))) (wx : World) : Prop :=
  UC U cu nu wx ∧ RC R cr nr wx ∧ Blk xb #[.pointer (some ⟨U, 0, none⟩), .pointer (some ⟨R, 0, none⟩)] 29 wx ∧ Kp w wx ∧ (w.heap.size ≤ U ∧ w.heap.size ≤ R ∧ U ≠ R ∧ xb ≠ U ∧ xb ≠ R) ∧
    ∀ r ∈ rows, Row wx r.1 r.2.1 r.2.2 ∧ Off U r.2.1 r.1 ∧ Off R r.2.1 r.1
/-- A block that is none of these. -/
def Fr (w : World) (U R xb : Nat) (rows : List (Option Addr × Nat × (Nat → Int))) (B : Nat) : Prop := w.heap.size ≤ B ∧ B ≠ U ∧ B ≠ R ∧ B ≠ xb ∧ ∀ r ∈ rows, Off B r.2.1 r.1
theorem QS.fresh {w : World} {U R xb : Nat} {cu cr : Bool} {nu nr : Int} {rows : List (Option Addr × Nat × (Nat → Int))} {wx : World} (h : QS w U R xb cu nu cr nr rows wx) {B : Nat} (hB : wx.heap.size ≤ B) : Fr w U R xb rows B := by
  obtain ⟨h1, h2, h3, h4, h5, h6⟩ := h
  have := Blk.lt h1
  have := Blk.lt h2
  have := Blk.lt h3
  have := h4.2.2.2
  exact ⟨by omega, by omega, by omega, by omega, fun r hr => (h6 r hr).1.off hB⟩
theorem QS.modU {w : World} {U R xb : Nat} {cu cr c : Bool} {nu nr n : Int} {rows : List (Option Addr × Nat × (Nat → Int))} {wx w' : World} (h : QS w U R xb cu nu cr nr rows wx) (u : UC U c n w') (m : Mod U wx w') : QS w U R xb c n cr nr rows w' := by
  obtain ⟨h1, h2, h3, h4, h5, h6⟩ := h
  exact ⟨u, Blk.keep h2 m (Ne.symm h5.2.2.1), Blk.keep h3 m h5.2.2.2.1, h4.mod m h5.1, h5, fun r hr => ⟨(h6 r hr).1.mod m (h6 r hr).2.1, (h6 r hr).2⟩⟩
theorem QS.mkR {w : World} {U R xb : Nat} {cu cr c : Bool} {nu nr n : Int} {rows : List (Option Addr × Nat × (Nat → Int))} {wx w' : World} (h : QS w U R xb cu nu cr nr rows wx) (u : RC R c n w') (m : Mk R wx w') : QS w U R xb cu nu c n rows w' := by
  obtain ⟨h1, h2, h3, h4, h5, h6⟩ := h
  exact ⟨Blk.mk h1 m h5.2.2.1, u, Blk.mk h3 m h5.2.2.2.2, h4.mk m h5.2.1, h5, fun r hr => ⟨(h6 r hr).1.mk m (h6 r hr).2.2, (h6 r hr).2⟩⟩
theorem QS.modB {w : World} {U R xb B : Nat} {cu cr : Bool} {nu nr : Int} {rows : List (Option Addr × Nat × (Nat → Int))} {wx w' : World} (h : QS w U R xb cu nu cr nr rows wx) (f : Fr w U R xb rows B) (m : Mod B wx w') : QS w U R xb cu nu cr nr rows w' := by
  obtain ⟨h1, h2, h3, h4, h5, h6⟩ := h
  obtain ⟨f1, f2, f3, f4, f5⟩ := f
  exact ⟨Blk.keep h1 m (Ne.symm f2), Blk.keep h2 m (Ne.symm f3), Blk.keep h3 m (Ne.symm f4), h4.mod m f1, h5, fun r hr => ⟨(h6 r hr).1.mod m (f5 r hr), (h6 r hr).2⟩⟩
theorem QS.grown {w : World} {U R xb : Nat} {cu cr : Bool} {nu nr : Int} {rows : List (Option Addr × Nat × (Nat → Int))} {wx w' : World} (h : QS w U R xb cu nu cr nr rows wx) (g : Grown wx w') : QS w U R xb cu nu cr nr rows w' :=
  h.modU (Blk.grown h.1 g) (Mod.of g)
theorem QS.pair {w : World} {U R xb : Nat} {cu cr : Bool} {nu nr : Int} {rows : List (Option Addr × Nat × (Nat → Int))} {wx : World} (h : QS w U R xb cu nu cr nr rows wx) : wx.cell? ⟨xb, 0, none⟩ = some (.pointer (some ⟨U, 0, none⟩)) ∧ wx.cell? ⟨xb, 1, none⟩ = some (.pointer (some ⟨R, 0, none⟩)) :=
  ⟨Blk.cell h.2.2.1 0, Blk.cell h.2.2.1 1⟩

/-- What the program tells, a list or an error; the same of the document. -/
def VA (U len : Nat) (Z : Nat → Int) (err : Int) (c : Bool) (n : Int) (w : World) (e : Ending) (w' : World) : Prop :=
  ∃ ao cap B, e = .returned (.tuple #[.slice ao len cap, .int .i64 err]) ∧ w.heap.size ≤ B ∧ (len = 0 ∨ (ao = some ⟨B, 0, none⟩ ∧ Blk B (ints len Z) 3 w')) ∧ UC U c n w' ∧ Mod U w w'
def RA (R len : Nat) (Z : Nat → Int) (err : Int) (c : Bool) (n : Int) (w : World) (e : Ending) (w' : World) : Prop :=
  ∃ ao cap, e = .returned (.tuple #[.slice ao len cap, .int .i64 err]) ∧ Row w' ao len Z ∧ RC R c n w' ∧ Mk R w w'
theorem VP.any {U len : Nat} {Z : Nat → Int} {c : Bool} {n : Int} {w : World} {e : Ending} {w' : World} (h : VP U len Z c n w e w') : VA U len Z 0 c n w e w' := by
  obtain ⟨L, h1, h2, h3, h4, h5⟩ := h
  exact ⟨_, _, L, h2, h1, Or.inr ⟨rfl, h3⟩, h4, h5⟩
theorem RP.any {R len : Nat} {Z : Nat → Int} {c : Bool} {n : Int} {w : World} {e : Ending} {w' : World} (h : RP R len Z c n w e w') : RA R len Z 0 c n w e w' := by
  obtain ⟨ao, cap, h1, h2, _, h4, h5⟩ := h
  exact ⟨ao, cap, h1, h2, h4, h5⟩

/-- What comes of two lists: their length, an error, whether something was cut, how many operations. -/
structure Out where
  len : Nat
  err : Int
  c : Bool
  n : Int
def outOf (l1 l2 : Nat) (c C : Bool) (n N : Int) : Out := if l1 = l2 then ⟨l1, 0, C, N⟩ else ⟨0, 3, c, n⟩

theorem sumAny (U : Nat) (c : Bool) (n : Int) (ao bo : Option Addr) (l1 c1 l2 c2 : Nat) (X Y : Nat → Int) (h1 : l1 ≤ 150) (h2 : l2 ≤ 150) (hn : 0 ≤ n ∧ n < 1152921504606846976) (hX : ∀ i, i < l1 → I64 (X i)) (hY : ∀ i, i < l2 → I64 (Y i)) (w : World) (h : UC U c n w) (hr : Row w ao l1 X) (ho : Off U l1 ao) (ht : Row w bo l2 Y) (hp : Off U l2 bo) (o : Out) (eo : outOf l1 l2 c (c || zC s2C X Y l1) n (n + 2 * l1) = o) :
    Calls Try.prog 13 #[.pointer (some ⟨U, 0, none⟩), .slice ao l1 c1, .slice bo l2 c2] w fun e w' => VA U o.len (fun i => s2N (X i) (Y i)) o.err o.c o.n w e w' := by
  subst eo
  unfold outOf
  by_cases e : l1 = l2
  · subst e
    rw [if_pos rfl]
    exact (vecSum_ok U c n ao bo l1 c1 c2 X Y (by omega) hn hX hY w h hr ho ht hp).mono fun e w' hv => hv.any
  · rw [if_neg e]
    exact (vecSum_size U c n ao bo l1 c1 l2 c2 e (by omega) (by omega) ⟨hn.1, by omega⟩ w h).mono fun e w' hv => ⟨none, 0, w.heap.size, hv.1, Nat.le_refl _, Or.inl rfl, hv.2.1, hv.2.2⟩
theorem lessAny (U : Nat) (c : Bool) (n : Int) (ao bo : Option Addr) (l1 c1 l2 c2 : Nat) (X Y : Nat → Int) (h1 : l1 ≤ 150) (h2 : l2 ≤ 150) (hn : 0 ≤ n ∧ n < 1152921504606846976) (hX : ∀ i, i < l1 → I64 (X i)) (hY : ∀ i, i < l2 → I64 (Y i)) (w : World) (h : UC U c n w) (hr : Row w ao l1 X) (ho : Off U l1 ao) (ht : Row w bo l2 Y) (hp : Off U l2 bo) (o : Out) (eo : outOf l1 l2 c (c || zC subC X Y l1) n (n + 1 * l1) = o) :
    Calls Try.prog 16 #[.pointer (some ⟨U, 0, none⟩), .slice ao l1 c1, .slice bo l2 c2] w fun e w' => VA U o.len (fun i => subN (X i) (Y i)) o.err o.c o.n w e w' := by
  subst eo
  unfold outOf
  by_cases e : l1 = l2
  · subst e
    rw [if_pos rfl]
    exact (vecLess_ok U c n ao bo l1 c1 c2 X Y (by omega) hn hX hY w h hr ho ht hp).mono fun e w' hv => hv.any
  · rw [if_neg e]
    exact (vecLess_size U c n ao bo l1 c1 l2 c2 e (by omega) (by omega) ⟨hn.1, by omega⟩ w h).mono fun e w' hv => ⟨none, 0, w.heap.size, hv.1, Nat.le_refl _, Or.inl rfl, hv.2.1, hv.2.2⟩
theorem refSumAny (R : Nat) (c : Bool) (n : Int) (ao bo : Option Addr) (l1 c1 l2 c2 : Nat) (X Y : Nat → Int) (h1 : l1 ≤ 150) (h2 : l2 ≤ 150) (hn : 0 ≤ n ∧ n < 1152921504606846976) (hX : ∀ i, i < l1 → I64 (X i)) (hY : ∀ i, i < l2 → I64 (Y i)) (w : World) (h : RC R c n w) (hr : Row w ao l1 X) (ho : Off R l1 ao) (ht : Row w bo l2 Y) (hp : Off R l2 bo) (o : Out) (eo : outOf l1 l2 c (c || zC s2C X Y l1) n (n + 2 * l1) = o) :
    Calls Try.prog 14 #[.pointer (some ⟨R, 0, none⟩), .slice ao l1 c1, .slice bo l2 c2] w fun e w' => RA R o.len (fun i => s2N (X i) (Y i)) o.err o.c o.n w e w' := by
  subst eo
  unfold outOf
  by_cases e : l1 = l2
  · subst e
    rw [if_pos rfl]
    exact (refVSum_ok R c n ao bo l1 c1 c2 X Y (by omega) hn hX hY w h hr ho ht hp).mono fun e w' hv => hv.any
  · rw [if_neg e]
    refine (refVSum_size _ ao bo l1 c1 l2 c2 e (by omega) (by omega) w).mono ?_
    rintro e w' ⟨rfl, rfl⟩
    exact ⟨none, 0, rfl, Or.inl rfl, h, Mk.refl _ _⟩
theorem refLessAny (R : Nat) (c : Bool) (n : Int) (ao bo : Option Addr) (l1 c1 l2 c2 : Nat) (X Y : Nat → Int) (h1 : l1 ≤ 150) (h2 : l2 ≤ 150) (hn : 0 ≤ n ∧ n < 1152921504606846976) (hX : ∀ i, i < l1 → I64 (X i)) (hY : ∀ i, i < l2 → I64 (Y i)) (w : World) (h : RC R c n w) (hr : Row w ao l1 X) (ho : Off R l1 ao) (ht : Row w bo l2 Y) (hp : Off R l2 bo) (o : Out) (eo : outOf l1 l2 c (c || zC subC X Y l1) n (n + 1 * l1) = o) :
    Calls Try.prog 17 #[.pointer (some ⟨R, 0, none⟩), .slice ao l1 c1, .slice bo l2 c2] w fun e w' => RA R o.len (fun i => subN (X i) (Y i)) o.err o.c o.n w e w' := by
  subst eo
  unfold outOf
  by_cases e : l1 = l2
  · subst e
    rw [if_pos rfl]
    exact (refVLess_ok R c n ao bo l1 c1 c2 X Y (by omega) hn hX hY w h hr ho ht hp).mono fun e w' hv => hv.any
  · rw [if_neg e]
    refine (refVLess_size _ ao bo l1 c1 l2 c2 e (by omega) (by omega) w).mono ?_
    rintro e w' ⟨rfl, rfl⟩
    exact ⟨none, 0, rfl, Or.inl rfl, h, Mk.refl _ _⟩
/-- Dot: its number is 0 where there is an error. -/
def dotV (l1 l2 : Nat) (X Y : Nat → Int) : Int := if l1 = l2 then dotN X Y l1 else 0
theorem dotAny (U : Nat) (c : Bool) (n : Int) (ao bo : Option Addr) (l1 c1 l2 c2 : Nat) (X Y : Nat → Int) (h1 : l1 ≤ 150) (h2 : l2 ≤ 150) (hn : 0 ≤ n ∧ n < 1152921504606846976) (hX : ∀ i, i < l1 → I64 (X i)) (hY : ∀ i, i < l2 → I64 (Y i)) (w : World) (h : UC U c n w) (hr : Row w ao l1 X) (ho : Off U l1 ao) (ht : Row w bo l2 Y) (hp : Off U l2 bo) (o : Out) (eo : outOf l1 l2 c (c || dotC X Y l1) n (n + 2 * l1) = o) :
    Calls Try.prog 20 #[.pointer (some ⟨U, 0, none⟩), .slice ao l1 c1, .slice bo l2 c2] w fun e w' => e = .returned (.tuple #[.int .i64 (dotV l1 l2 X Y), .int .i64 o.err]) ∧ (UC U o.c o.n w' ∧ Mod U w w') := by
  subst eo
  unfold outOf dotV
  by_cases e : l1 = l2
  · subst e
    rw [if_pos rfl, if_pos rfl]
    exact vecDot_of _ _ _ (fun _ w' => UC U (c || dotC X Y l1) (n + 2 * l1) w' ∧ Mod U w w') _ _ w (unitDot_ok U c n ao bo l1 c1 c2 X Y ⟨hn.1, by omega⟩ (by omega) hX hY w h hr ho ht hp)
  · rw [if_neg e, if_neg e]
    refine vecDot_of _ _ _ (fun _ w' => UC U c n w' ∧ Mod U w w') _ _ w ?_
    refine (unitDot_size U c n ao bo l1 c1 l2 c2 e (by omega) (by omega) w h).mono ?_
    rintro e w' ⟨rfl, rfl⟩
    exact ⟨rfl, h, Mod.refl _ _⟩
theorem refDotAny (R : Nat) (c : Bool) (n : Int) (ao bo : Option Addr) (l1 c1 l2 c2 : Nat) (X Y : Nat → Int) (h1 : l1 ≤ 150) (h2 : l2 ≤ 150) (hn : 0 ≤ n ∧ n < 1152921504606846976) (hX : ∀ i, i < l1 → I64 (X i)) (hY : ∀ i, i < l2 → I64 (Y i)) (w : World) (h : RC R c n w) (hr : Row w ao l1 X) (ho : Off R l1 ao) (ht : Row w bo l2 Y) (hp : Off R l2 bo) (o : Out) (eo : outOf l1 l2 c (c || dotC X Y l1) n (n + 2 * l1) = o) :
    Calls Try.prog 21 #[.pointer (some ⟨R, 0, none⟩), .slice ao l1 c1, .slice bo l2 c2] w fun e w' => e = .returned (.tuple #[.int .i64 (dotV l1 l2 X Y), .int .i64 o.err]) ∧ (RC R o.c o.n w' ∧ Mod R w w') := by
  subst eo
  unfold outOf dotV
  by_cases e : l1 = l2
  · subst e
    rw [if_pos rfl, if_pos rfl]
    exact refVDot_of _ _ _ (fun _ w' => RC R (c || dotC X Y l1) (n + 2 * l1) w' ∧ Mod R w w') _ _ w (refUDot_ok R c n ao bo l1 c1 c2 X Y ⟨hn.1, by omega⟩ (by omega) hX hY w h hr ho ht hp)
  · rw [if_neg e, if_neg e]
    refine refVDot_of _ _ _ (fun _ w' => RC R c n w' ∧ Mod R w w') _ _ w ?_
    refine (refUDot_size R ao bo l1 c1 l2 c2 e (by omega) (by omega) w).mono ?_
    rintro e w' ⟨rfl, rfl⟩
    exact ⟨rfl, h, Mod.refl _ _⟩
theorem out_n (l1 l2 : Nat) (c C : Bool) (n N : Int) (h1 : l1 ≤ 150) (hn : 0 ≤ n) (hN : n ≤ N ∧ N ≤ n + 300) : 0 ≤ (outOf l1 l2 c C n N).n ∧ (outOf l1 l2 c C n N).n ≤ n + 300 ∧ (outOf l1 l2 c C n N).len ≤ 150 := by
  unfold outOf
  split
  · exact ⟨by show 0 ≤ N; omega, hN.2, h1⟩
  · exact ⟨hn, by show n ≤ n + 300; omega, Nat.zero_le _⟩

end Go.Proofs.Ytmdclpjbpkfckaa
