/- Package mat: what each call comes to, whatever is handed in. -/
import Derived.Test.YtopaakjildmjcaaMatM
namespace Go.Proofs.Ytopaakjildmjcaa
open Go.RowKit Go.Shelf Go.Proofs.Wd
set_option linter.unusedVariables false
set_option linter.unusedSimpArgs false
set_option maxRecDepth 10000

theorem off_at {U len : Nat} {b o : Nat} (h : Off U len (some ⟨b, o, none⟩)) (hl : 1 ≤ len) : b ≠ U := h (by omega) _ rfl
/-- A matrix that is one, in natural numbers. -/
theorem okM.nat {R C : Int} {len : Nat} (h : okM R C len) : ∃ r c : Nat, R = r ∧ C = c ∧ (1 ≤ r ∧ r ≤ 12) ∧ (1 ≤ c ∧ c ≤ 12) ∧ len = r * c ∧ 1 ≤ len ∧ len ≤ 144 := by
  obtain ⟨h1, h2, h3⟩ := h
  refine ⟨R.toNat, C.toNat, by omega, by omega, by omega, by omega, ?_⟩
  have e : len = R.toNat * C.toNat := by
    have : ((R.toNat * C.toNat : Nat) : Int) = R * C := by rw [Int.natCast_mul, Int.toNat_of_nonneg (by omega), Int.toNat_of_nonneg (by omega)]
    omega
  exact ⟨e, by have := mul12n R.toNat C.toNat (by omega) (by omega); omega, by have := mul12n R.toNat C.toNat (by omega) (by omega); omega⟩

/-- What comes of a call: rows, columns, numbers, an error; whether something was cut, how many operations. -/
structure MO where
  r : Int
  c : Int
  len : Nat
  Z : Nat → Int
  err : Int
  cut : Bool
  n : Int
open Classical in
noncomputable def mulO (R1 C1 R2 C2 : Int) (l1 l2 : Nat) (A B : Nat → Int) (c0 : Bool) (n0 : Int) : MO :=
  if okM R1 C1 l1 ∧ okM R2 C2 l2 ∧ C1 = R2 then ⟨R1, C2, R1.toNat * C2.toNat, mulZ A B C1.toNat C2.toNat, 0, c0 || orC (mulG A B C1.toNat C2.toNat) (R1.toNat * C2.toNat), n0 + 2 * C1.toNat * ((R1.toNat * C2.toNat : Nat) : Int)⟩
  else ⟨0, 0, 0, A, 3, c0, n0⟩
open Classical in
noncomputable def turnO (R C : Int) (len : Nat) (A : Nat → Int) : MO :=
  if okM R C len then ⟨C, R, C.toNat * R.toNat, turnZ A R.toNat C.toNat, 0, false, 0⟩ else ⟨0, 0, 0, A, 3, false, 0⟩
open Classical in
noncomputable def eyeO (n : Int) : MO := if 1 ≤ n ∧ n ≤ 12 then ⟨n, n, n.toNat * n.toNat, diagZ oneZ n.toNat, 0, false, 0⟩ else ⟨0, 0, 0, oneZ, 3, false, 0⟩
open Classical in
noncomputable def diagO (n : Nat) (L : Nat → Int) : MO := if 1 ≤ n ∧ n ≤ 12 then ⟨n, n, n * n, diagZ L n, 0, false, 0⟩ else ⟨0, 0, 0, L, 3, false, 0⟩
open Classical in
noncomputable def rowO (R C : Int) (len : Nat) (A : Nat → Int) (i : Int) : MO :=
  if okM R C len ∧ 0 ≤ i ∧ i < R then ⟨0, 0, C.toNat, rowZ A C.toNat i.toNat, 0, false, 0⟩ else ⟨0, 0, 0, A, 3, false, 0⟩
open Classical in
noncomputable def appO (R C : Int) (len xl : Nat) (A X : Nat → Int) (c0 : Bool) (n0 : Int) : MO :=
  if okM R C len ∧ (xl : Int) = C then ⟨0, 0, R.toNat, appZ A X xl, 0, c0 || orC (appG A X xl) R.toNat, n0 + 2 * xl * (R.toNat : Int)⟩ else ⟨0, 0, 0, A, 3, c0, n0⟩

theorem mulO_of {R1 C1 R2 C2 : Int} {l1 l2 : Nat} {A B : Nat → Int} {c0 : Bool} {n0 : Int} (h1 : okM R1 C1 l1) (h2 : okM R2 C2 l2) (h3 : C1 = R2) : mulO R1 C1 R2 C2 l1 l2 A B c0 n0 = ⟨R1, C2, R1.toNat * C2.toNat, mulZ A B C1.toNat C2.toNat, 0, c0 || orC (mulG A B C1.toNat C2.toNat) (R1.toNat * C2.toNat), n0 + 2 * C1.toNat * ((R1.toNat * C2.toNat : Nat) : Int)⟩ := if_pos ⟨h1, h2, h3⟩
theorem turnO_of {R C : Int} {len : Nat} {A : Nat → Int} (h : okM R C len) : turnO R C len A = ⟨C, R, C.toNat * R.toNat, turnZ A R.toNat C.toNat, 0, false, 0⟩ := if_pos h
theorem mulAny (U : Nat) (c0 : Bool) (n0 : Int) (hn : 0 ≤ n0 ∧ n0 < 1152921504606846976) (R1 C1 R2 C2 : Int) (a1 a2 : Option Addr) (l1 p1 l2 p2 : Nat) (A B : Nat → Int) (hp : l1 ≤ p1) (hA : ∀ j, j < l1 → I64 (A j)) (hB : ∀ j, j < l2 → I64 (B j)) (w : World) (h : UC U c0 n0 w) (ra : Row w a1 l1 A) (oa : Off U l1 a1) (rb : Row w a2 l2 B) (ob : Off U l2 a2) (q : MO) (hq : mulO R1 C1 R2 C2 l1 l2 A B c0 n0 = q) :
    Calls Try.prog 19 #[.pointer (some ⟨U, 0, none⟩), .agg #[.int .i64 R1, .int .i64 C1, .slice a1 l1 p1], .agg #[.int .i64 R2, .int .i64 C2, .slice a2 l2 p2]] w fun e w' => MatP q.r q.c q.len q.Z q.err (fun w' => UC U q.cut q.n w' ∧ Mk U w w') w e w' := by
  subst hq
  unfold mulO
  by_cases hg : okM R1 C1 l1 ∧ okM R2 C2 l2 ∧ C1 = R2
  · rw [if_pos hg]
    obtain ⟨h1, h2, h3⟩ := hg
    obtain ⟨r, m, rfl, rfl, hr, hm, rfl, k1, k2⟩ := h1.nat
    obtain ⟨m', c, e1, rfl, hm', hc, rfl, k3, k4⟩ := h2.nat
    obtain rfl : m = m' := by omega
    obtain ⟨b, o, rfl, za⟩ := ra.some k1
    obtain ⟨b2, o2, rfl, zb⟩ := rb.some k3
    subst h3
    exact matMul_ok U c0 n0 hn r m c b o p1 b2 o2 p2 A B hr hm hc hp hA hB w h za zb (off_at oa k1) (off_at ob k3)
  · rw [if_neg hg]
    exact matMul_bad U c0 n0 hn R1 C1 R2 C2 a1 a2 l1 p1 l2 p2 A hg w h

theorem eyeAny (n : Int) (w : World) (q : MO) (hq : eyeO n = q) : Calls Try.prog 8 #[.int .i64 n] w fun e w' => MatP q.r q.c q.len q.Z q.err (Kp w) w e w' := by
  subst hq
  unfold eyeO
  by_cases hg : 1 ≤ n ∧ n ≤ 12
  · rw [if_pos hg]
    obtain ⟨k, rfl⟩ : ∃ k : Nat, n = k := ⟨n.toNat, by omega⟩
    exact matEye_ok k (by omega) w
  · rw [if_neg hg]
    exact matEye_bad n hg oneZ w
theorem diagAny (n cap : Nat) (ao : Option Addr) (L : Nat → Int) (w : World) (hr : Row w ao n L) (q : MO) (hq : diagO n L = q) : Calls Try.prog 22 #[.slice ao n cap] w fun e w' => MatP q.r q.c q.len q.Z q.err (Kp w) w e w' := by
  subst hq
  unfold diagO
  by_cases hg : 1 ≤ n ∧ n ≤ 12
  · rw [if_pos hg]
    exact matDiag_ok n cap ao L hg w hr
  · rw [if_neg hg]
    exact matDiag_bad n cap ao L hg w
/-! What the laws have under way: blocks that may be written (E), matrices in cells, lists. -/
def LS (w : World) (E : List Nat) (bx : List (Nat × Array Value)) (rows : List (Option Addr × Nat × (Nat → Int))) (wx : World) : Prop :=
  Kp w wx ∧ (∀ e ∈ E, w.heap.size ≤ e ∧ e < wx.heap.size) ∧ (∀ b ∈ bx, Blk b.1 b.2 26 wx ∧ b.1 ∉ E) ∧ (∀ r ∈ rows, Row wx r.1 r.2.1 r.2.2 ∧ ∀ e ∈ E, Off e r.2.1 r.1)
section
variable {w : World} {E : List Nat} {bx : List (Nat × Array Value)} {rows : List (Option Addr × Nat × (Nat → Int))} {wx w' : World}
theorem LS.kp (h : LS w E bx rows wx) (k : Kp wx w') : LS w E bx rows w' :=
  ⟨h.1.trans k, fun e he => ⟨(h.2.1 e he).1, Nat.lt_of_lt_of_le (h.2.1 e he).2 k.2.2.2⟩, fun b hb => ⟨Blk.kp (h.2.2.1 b hb).1 k, (h.2.2.1 b hb).2⟩, fun r hr => ⟨(h.2.2.2 r hr).1.kp k, (h.2.2.2 r hr).2⟩⟩
theorem LS.mk {U : Nat} (h : LS w E bx rows wx) (hU : U ∈ E) (m : Mk U wx w') : LS w E bx rows w' :=
  ⟨h.1.mk m (h.2.1 U hU).1, fun e he => ⟨(h.2.1 e he).1, Nat.lt_of_lt_of_le (h.2.1 e he).2 m.2.2.2⟩, fun b hb => ⟨Blk.mk (h.2.2.1 b hb).1 m (fun e => (h.2.2.1 b hb).2 (e ▸ hU)), (h.2.2.1 b hb).2⟩, fun r hr => ⟨(h.2.2.2 r hr).1.mk m ((h.2.2.2 r hr).2 U hU), (h.2.2.2 r hr).2⟩⟩
theorem LS.box (h : LS w E bx rows wx) (cs : Array Value) : LS w E ((wx.heap.size, cs) :: bx) rows (wx.alloc (.cells cs 26)) := by
  have k := h.kp (Kp.of ((Grown.refl wx).alloc cs 26))
  refine ⟨k.1, k.2.1, fun b hb => ?_, k.2.2.2⟩
  rcases List.mem_cons.1 hb with rfl | hb
  · exact ⟨Blk.new wx _ _, fun he => Nat.lt_irrefl _ (h.2.1 _ he).2⟩
  · exact k.2.2.1 b hb
theorem LS.box2 (h : LS w E bx rows wx) (cs ds : Array Value) : LS w E ((wx.heap.size + 1, ds) :: (wx.heap.size, cs) :: bx) rows ((wx.alloc (.cells cs 26)).alloc (.cells ds 26)) := by
  have := (h.box cs).box ds
  rwa [World.size_alloc] at this
theorem LS.box1 (h : LS w E bx rows wx) (cs : Array Value) : LS w E ((wx.heap.size, cs) :: bx) rows (wx.alloc (.cells cs 26)) := h.box cs
theorem LS.row (h : LS w E bx rows wx) {ao : Option Addr} {len : Nat} {Z : Nat → Int} (r : Row wx ao len Z) (ho : ∀ e ∈ E, Off e len ao) : LS w E bx ((ao, len, Z) :: rows) wx :=
  ⟨h.1, h.2.1, h.2.2.1, fun q hq => by
    rcases List.mem_cons.1 hq with rfl | hq
    · exact ⟨r, ho⟩
    · exact h.2.2.2 q hq⟩
theorem LS.cell (h : LS w E bx rows wx) {b : Nat} {cs : Array Value} (hb : (b, cs) ∈ bx) (o : Nat) : wx.cell? ⟨b, o, none⟩ = cs[o]? := Blk.cell (h.2.2.1 _ hb).1 o
theorem LS.lt (h : LS w E bx rows wx) {b : Nat} {cs : Array Value} (hb : (b, cs) ∈ bx) : b < wx.heap.size := Blk.lt (h.2.2.1 _ hb).1
theorem LS.at (h : LS w E bx rows wx) {ao : Option Addr} {len : Nat} {Z : Nat → Int} (hr : (ao, len, Z) ∈ rows) : Row wx ao len Z ∧ ∀ e ∈ E, Off e len ao := h.2.2.2 _ hr
/-- A matrix that the program tells. -/
theorem LS.told {r c err : Int} {len : Nat} {Z : Nat → Int} {X : World → Prop} {e : Ending} (h : LS w E bx rows wx) (h' : LS w E bx rows w') (m : MatP r c len Z err X wx e w') : ∃ ao cap B, e = .returned (.tuple #[.agg #[.int .i64 r, .int .i64 c, .slice ao len cap], .int .i64 err]) ∧ len ≤ cap ∧ (len = 0 ∨ (ao = some ⟨B, 0, none⟩ ∧ Blk B (ints len Z) 3 w')) ∧ wx.heap.size ≤ B ∧ LS w E bx ((ao, len, Z) :: rows) w' ∧ X w' := by
  obtain ⟨ao, cap, B, h1, h2, h3, h4, h5⟩ := m
  refine ⟨ao, cap, B, h1, h4, h3, h2, h'.row ?_ (fun e he => ?_), h5⟩
  · rcases h3 with rfl | ⟨rfl, hb⟩
    · exact Or.inl rfl
    · exact hb.row
  · rcases h3 with rfl | ⟨rfl, hb⟩
    · exact fun hl => absurd hl (Nat.lt_irrefl _)
    · exact off_blk (by have := (h.2.1 e he).2; omega)
/-- A list that is gathered, or copied. -/
theorem LS.copy {r c : Int} {len : Nat} {Z : Nat → Int} {e : Ending} (h : LS w E bx rows wx) (m : CopyM r c len Z wx e w') : ∃ ao cap, e = .returned (.agg #[.int .i64 r, .int .i64 c, .slice ao len cap]) ∧ len ≤ cap ∧ LS w E bx ((ao, len, Z) :: rows) w' := by
  obtain ⟨ao, cap, h1, h2, h3, h4, h5⟩ := m
  exact ⟨ao, cap, h1, h2, (h.kp h5).row h3 (fun e he => h4 e (h.2.1 e he).2)⟩
theorem LS.congr {bx : List (Nat × Array Value)} {ao : Option Addr} {len : Nat} {Z Y : Nat → Int} (h : LS w E bx ((ao, len, Z) :: rows) wx) (hz : ∀ i, i < len → Z i = Y i) : LS w E bx ((ao, len, Y) :: rows) wx := by
  have h0 := (h.at (List.mem_cons_self ..)).1
  refine ⟨h.1, h.2.1, h.2.2.1, fun q hq => ?_⟩
  rcases List.mem_cons.1 hq with rfl | hq
  · refine ⟨?_, (h.at (List.mem_cons_self ..)).2⟩
    rcases h0 with h0 | ⟨b, o, rfl, hc⟩
    · exact Or.inl h0
    · exact Or.inr ⟨b, o, rfl, fun i hi => by rw [hc i hi, hz i hi]⟩
  · exact h.2.2.2 q (List.mem_cons_of_mem _ hq)
end

end Go.Proofs.Ytopaakjildmjcaa
