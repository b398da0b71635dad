/- Package mat: made, for funcs that only read, and for funcs by which a unit reckons; what the calls tell. -/
import Derived.Test.YtgahdjfkmpadoaaGreatMatD
import Derived.Test.YtgahdjfkmpadoaaGreatMkA
import Derived.Test.YtgahdjfkmpadoaaGreatUnitD
namespace Go.Proofs.YtgahdjfkmpadoaaGreat
open Go.RowKit Go.Shelf Go.Proofs.Wd
set_option linter.unusedVariables false
set_option linter.unusedSimpArgs false
set_option maxRecDepth 10000

theorem orC_any (G : Nat → Bool) : ∀ n, (List.range n).any G = orC G n
  | 0 => rfl
  | n + 1 => by
    rw [List.range_succ, List.any_append, orC_any G n]
    simp [orC]

/-- A func that only reads, and lays new memory. -/
theorem madeN (F : Nat) (eF : ∀ args w, (callFunc F args).run Tryz.prog w = .ok (.enter F args) w) (caps : Array Value) (r c : Nat) (hr : 1 ≤ r ∧ r ≤ 12) (hc : 1 ≤ c ∧ c ≤ 12) (Z : Nat → Int) (w : World)
    (C : ∀ i k a, i < r → k < c → Kp w a → Calls Tryz.prog F (#[.int .i64 (i : Int), .int .i64 (k : Int)] ++ caps) a fun e b => e = .returned (.int .i64 (Z (i * c + k))) ∧ Kp a b) :
    Calls Tryz.prog 58 #[.int .i64 r, .int .i64 c, .func (.func F) #[] caps] w fun e w' => MadeP r c Z (Kp w) w e w' := by
  refine matMade F eF caps r c hr hc Z (fun _ a => Kp w a) w (fun ps a b h s => ?_) (fun ps i k a hi hk _ h => ?_) (Kp.refl w)
  · exact ⟨s.1.trans h.1, s.2.1.trans h.2.1, fun i hi => (s.2.2.1 i hi).trans (h.2.2.1 i hi), Nat.le_trans h.2.2.2 s.2.2.2⟩
  · refine (C i k a hi hk h).mono ?_
    rintro e b ⟨he, hb⟩
    exact ⟨he, h.trans hb, fun j _ hj => hb.2.2.1 j hj, hb.2.2.2⟩

/-- A func by which the unit U reckons: at each entry d operations. -/
theorem madeU (U : Nat) (c0 : Bool) (n0 : Int) (d : Int) (hd : 0 ≤ d ∧ d ≤ 1000) (G : Nat → Bool) (F : Nat) (eF : ∀ args w, (callFunc F args).run Tryz.prog w = .ok (.enter F args) w) (caps : Array Value) (r c : Nat) (hr : 1 ≤ r ∧ r ≤ 12) (hc : 1 ≤ c ∧ c ≤ 12) (Z : Nat → Int) (w : World)
    (hn : 0 ≤ n0 ∧ n0 < 1152921504606846976) (hU : UC U c0 n0 w)
    (C : ∀ cc nn i k a, i < r → k < c → 0 ≤ nn ∧ nn < 2305843009213693952 → UC U cc nn a → Mk U w a → Calls Tryz.prog F (#[.int .i64 (i : Int), .int .i64 (k : Int)] ++ caps) a fun e b => e = .returned (.int .i64 (Z (i * c + k))) ∧ UC U (cc || G (i * c + k)) (nn + d) b ∧ Mk U a b) :
    Calls Tryz.prog 58 #[.int .i64 r, .int .i64 c, .func (.func F) #[] caps] w fun e w' => MadeP r c Z (fun w' => UC U (c0 || orC G (r * c)) (n0 + d * ((r * c : Nat) : Int)) w' ∧ Mk U w w') w e w' := by
  have hlt := Blk.lt hU
  have hl := mul12n r c hr hc
  have J0 : UC U (c0 || [].any G) (n0 + d * (([] : List Nat).length : Int)) w ∧ Mk U w w := by
    refine ⟨?_, Mk.refl _ _⟩
    show UC U (c0 || false) (n0 + d * 0) w
    rw [Bool.or_false, Int.mul_zero, Int.add_zero]
    exact hU
  refine (matMade F eF caps r c hr hc Z (fun ps a => UC U (c0 || ps.any G) (n0 + d * (ps.length : Int)) a ∧ Mk U w a) w (fun ps a b h s => ?_) (fun ps i k a hi hk hp h => ?_) J0).mono ?_
  · exact ⟨(s.2.2.1 U hlt).trans h.1, s.1.trans h.2.1, s.2.1.trans h.2.2.1, fun i hi hu => (s.2.2.1 i hi).trans (h.2.2.2.1 i hi hu), Nat.le_trans h.2.2.2.2 s.2.2.2⟩
  · have hb : 0 ≤ d * (ps.length : Int) ∧ d * (ps.length : Int) ≤ 1000 * 144 := ⟨Int.mul_nonneg hd.1 (by omega), Int.mul_le_mul hd.2 (by omega) (by omega) (by omega)⟩
    refine (C _ _ i k a hi hk (by omega) h.1 h.2).mono ?_
    rintro e b ⟨he, hb, hm⟩
    refine ⟨he, ⟨?_, h.2.trans hm⟩, fun j hj1 hj2 => hm.2.2.1 j hj2 (by omega), hm.2.2.2⟩
    rw [List.any_append, List.length_append, ← Bool.or_assoc]
    show UC U (c0 || ps.any G || (G (i * c + k) || false)) (n0 + d * ((ps.length + 1 : Nat) : Int)) b
    rw [Bool.or_false, show n0 + d * ((ps.length + 1 : Nat) : Int) = n0 + d * (ps.length : Int) + d by rw [Int.natCast_add, Int.mul_add]; omega]
    exact hb
  · rintro e w' ⟨L, h1, h2, h3, h4, h5⟩
    rw [orC_any, List.length_range] at h4
    exact ⟨L, h1, h2, h3, h4, h5⟩

/-- A matrix and an error that a call tells: new memory. -/
def MatP (r c : Int) (len : Nat) (Z : Nat → Int) (err : Int) (X : World → Prop) (w : World) (e : Ending) (w' : World) : Prop :=
  ∃ ao cap B, e = .returned (.tuple #[.agg #[.int .i64 r, .int .i64 c, .slice ao len cap], .int .i64 err]) ∧ w.heap.size ≤ B ∧ (len = 0 ∨ (ao = some ⟨B, 0, none⟩ ∧ Blk B (ints len Z) 3 w')) ∧ len ≤ cap ∧ X w'
theorem MatP.congr {r c : Int} {len : Nat} {Z Y : Nat → Int} {err : Int} {X : World → Prop} {w : World} {e : Ending} {w' : World} (h : MatP r c len Z err X w e w') (hz : ∀ i, i < len → Z i = Y i) : MatP r c len Y err X w e w' := by
  obtain ⟨ao, cap, B, h1, h2, h3, h4, h5⟩ := h
  rw [ints_congr len Z Y hz] at h3
  exact ⟨ao, cap, B, h1, h2, h3, h4, h5⟩
/-- Of a matrix that is one: where its numbers lie. -/
theorem Row.some {w : World} {ao : Option Addr} {len : Nat} {Z : Nat → Int} (h : Row w ao len Z) (hl : 1 ≤ len) : ∃ b o, ao = some ⟨b, o, none⟩ ∧ ∀ i, i < len → w.cell? ⟨b, o + i, none⟩ = some (.int .i64 (Z i)) := by
  rcases h with h | h
  · omega
  · exact h

/-- The answer is put into the result's cells. -/
theorem putM {Br : Nat} {T : TypeId} {v0 v1 v2 : Value} {w : World} (h : Blk Br #[v0, v1, v2] T w) (x y z : Value) :
    Blk Br #[x, y, z] T (((w.setCell ⟨Br, 0, none⟩ x).setCell ⟨Br, 1, none⟩ y).setCell ⟨Br, 2, none⟩ z) ∧ Mod Br w (((w.setCell ⟨Br, 0, none⟩ x).setCell ⟨Br, 1, none⟩ y).setCell ⟨Br, 2, none⟩ z) :=
  ⟨Blk.set (Blk.set (Blk.set h 0 x) 1 y) 2 z, (((Mod.refl _ _).setCell 0 _).setCell 1 _).setCell 2 _⟩

end Go.Proofs.YtgahdjfkmpadoaaGreat
