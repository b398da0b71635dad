/- Package mat: made, for funcs that only read, and for funcs by which a unit reckons; what the calls tell. -/
import Derived.Test.YtopaakjildmjcaaGreatMatD
import Derived.Test.YtopaakjildmjcaaGreatMkA
import Derived.Test.YtopaakjildmjcaaGreatUnitD
namespace Go.Proofs.YtopaakjildmjcaaGreat
open Go.RowKit Go.Shelf Go.Proofs.Wd
set_option linter.unusedVariables false
set_option linter.unusedSimpArgs false
set_option maxRecDepth 10000

theorem orC_any (G : Nat → Bool) : ∀ n, (List.range n).any G = orC G n
  | 0 => rfl
  | n + 1 => by
    rw [List.range_succ, List.any_append, orC_any G n]
    simp [orC]

/-- A func that only reads, and lays new memory. -/
theorem madeN (F : Nat) (eF : ∀ args w, (callFunc F args).run Tryz.prog w = .ok (.enter F args) w) (caps : Array Value) (r c : Nat) (hr : 1 ≤ r ∧ r ≤ 12) (hc : 1 ≤ c ∧ c ≤ 12) (Z : Nat → Int) (w : World)
    (C : ∀ i k a, i < r → k < c → Kp w a → Calls Tryz.prog F (#[.int .i64 (i : Int), .int .i64 (k : Int)] ++ caps) a fun e b => e = .returned (.int .i64 (Z (i * c + k))) ∧ Kp a b) :
    Calls Tryz.prog 61 #[.int .i64 r, .int .i64 c, .func (.func F) #[] caps] w fun e w' => MadeP r c Z (Kp w) w e w' := by
  refine matMade F eF caps r c hr hc Z (fun _ a => Kp w a) w (fun ps a b h s => ?_) (fun ps i k a hi hk _ h => ?_) (Kp.refl w)
  · exact ⟨s.1.trans h.1, s.2.1.trans h.2.1, fun i hi => (s.2.2.1 i hi).trans (h.2.2.1 i hi), Nat.le_trans h.2.2.2 s.2.2.2⟩
  · refine (C i k a hi hk h).mono ?_
    rintro e b ⟨he, hb⟩
    exact ⟨he, h.trans hb, fun j _ hj => hb.2.2.1 j hj, hb.2.2.2⟩

/-- A func by which the unit U reckons: at each entry d operations. -/
theorem madeU (U : Nat) (c0 : Bool) (n0 : Int) (d : Int) (hd : 0 ≤ d ∧ d ≤ 1000) (G : Nat → Bool) (F : Nat) (eF : ∀ args w, (callFunc F args).run Tryz.prog w = .ok (.enter F args) w) (caps : Array Value) (r c : Nat) (hr : 1 ≤ r ∧ r ≤ 12) (hc : 1 ≤ c ∧ c ≤ 12) (Z : Nat → Int) (w : World)
    (hn : 0 ≤ n0 ∧ n0 < 1152921504606846976) (hU : UC U c0 n0 w)
    (C : ∀ cc nn i k a, i < r → k < c → 0 ≤ nn ∧ nn < 2305843009213693952 → UC U cc nn a → Mk U w a → Calls Tryz.prog F (#[.int .i64 (i : Int), .int .i64 (k : Int)] ++ caps) a fun e b => e = .returned (.int .i64 (Z (i * c + k))) ∧ UC U (cc || G (i * c + k)) (nn + d) b ∧ Mk U a b) :
    Calls Tryz.prog 61 #[.int .i64 r, .int .i64 c, .func (.func F) #[] caps] w fun e w' => MadeP r c Z (fun w' => UC U (c0 || orC G (r * c)) (n0 + d * ((r * c : Nat) : Int)) w' ∧ Mk U w w') w e w' := by
  have hlt := Blk.lt hU
  have hl := mul12n r c hr hc
  have J0 : UC U (c0 || [].any G) (n0 + d * (([] : List Nat).length : Int)) w ∧ Mk U w w := by
    refine ⟨?_, Mk.refl _ _⟩
    show UC U (c0 || false) (n0 + d * 0) w
    rw [Bool.or_false, Int.mul_zero, Int.add_zero]
    exact hU
  refine (matMade F eF caps r c hr hc Z (fun ps a => UC U (c0 || ps.any G) (n0 + d * (ps.length : Int)) a ∧ Mk U w a) w (fun ps a b h s => ?_) (fun ps i k a hi hk hp h => ?_) J0).mono ?_
  · exact ⟨(s.2.2.1 U hlt).trans h.1, s.1.trans h.2.1, s.2.1.trans h.2.2.1, fun i hi hu => (s.2.2.1 i hi).trans (h.2.2.2.1 i hi hu), Nat.le_trans h.2.2.2.2 s.2.2.2⟩
  · have hb : 0 ≤ d * (ps.length : Int) ∧ d * (ps.length : Int) ≤ 1000 * 144 := ⟨Int.mul_nonneg hd.1 (by omega), Int.mul_le_mul hd.2 (by omega) (by omega) (by omega)⟩
    refine (C _ _ i k a hi hk (by omega) h.1 h.2).mono ?_
    rintro e b ⟨he, hb, hm⟩
    refine ⟨he, ⟨?_, h.2.trans hm⟩, fun j hj1 hj2 => hm.2.2.1 j hj2 (by omega), hm.2.2.2⟩
    rw [List.any_append, List.length_append, ← Bool.or_assoc]
    show UC U (c0 || ps.any G || (G (i * c + k) || false)) (n0 + d * ((ps.length + 1 : Nat) : Int)) b
    rw [Bool.or_false, show n0 + d * ((ps.length + 1 : Nat) : Int) = n0 + d * (ps.length : Int) + d by rw [Int.natCast_add, Int.mul_add]; omega]
    exact hb
  · rintro e w' ⟨L, h1, h2, h3, h4, h5⟩
    rw [orC_any, List.length_range] at h4
    exact ⟨L, h1, h2, h3, h4, h5⟩

/-- A matrix and an error that a call tells: new memory. -/
def MatP (r c : Int) (len : Nat) (Z : Nat → Int) (err : Int) (X : World → Prop) (w : World) (e : Ending) (w' : World) : Prop :=
  ∃ ao cap B, e = .returned (.tuple #[.agg #[.int .i64 r, .int .i64 c, .slice ao len cap], .int .i64 err]) ∧ w.heap.size ≤ B ∧ (len = 0 ∨ (ao = some ⟨B, 0, none⟩ ∧ Blk B (ints len Z) 3 w')) ∧ len ≤ cap ∧ X w'
theorem MatP.congr {r c : Int} {len : Nat} {Z Y : Nat → Int} {err : Int} {X : World → Prop} {w : World} {e : Ending} {w' : World} (h : MatP r c len Z err X w e w') (hz : ∀ i, i < len → Z i = Y i) : MatP r c len Y err X w e w' := by
  obtain ⟨ao, cap, B, h1, h2, h3, h4, h5⟩ := h
  rw [ints_congr len Z Y hz] at h3
  exact ⟨ao, cap, B, h1, h2, h3, h4, h5⟩
/-- Of a matrix that is one: where its numbers lie. -/
theorem Row.some {w : World} {ao : Option Addr} {len : Nat} {Z : Nat → Int} (h : Row w ao len Z) (hl : 1 ≤ len) : ∃ b o, ao = some ⟨b, o, none⟩ ∧ ∀ i, i < len → w.cell? ⟨b, o + i, none⟩ = some (.int .i64 (Z i)) := by
  rcases h with h | h
  · omega
  · exact h

/-- The answer is put into the result's cells. -/
theorem putM {Br : Nat} {T : TypeId} {v0 v1 v2 : Value} {w : World} (h : Blk Br #[v0, v1, v2] T w) (x y z : Value) :
    Blk Br #[x, y, z] T (((w.setCell ⟨Br, 0, none⟩ x).setCell ⟨Br, 1, none⟩ y).setCell ⟨Br, 2, none⟩ z) ∧ Mod Br w (((w.setCell ⟨Br, 0, none⟩ x).setCell ⟨Br, 1, none⟩ y).setCell ⟨Br, 2, none⟩ z) :=
  ⟨Blk.set (Blk.set (Blk.set h 0 x) 1 y) 2 z, (((Mod.refl _ _).setCell 0 _).setCell 1 _).setCell 2 _⟩

set_option maxHeartbeats 400000 in
theorem diag1 (i k n Bl cap : Nat) (ao : Option Addr) (L : Nat → Int) (hi : i < n) (hk : k < n) (w : World) (hb : w.cell? ⟨Bl, 0, none⟩ = some (.slice ao n cap)) (hr : Row w ao n L) :
    Calls Tryz.prog 101 (#[.int .i64 (i : Int), .int .i64 (k : Int)] ++ #[.pointer (some ⟨Bl, 0, none⟩)]) w fun e b => e = .returned (.int .i64 (diagZ L n (i * n + k))) ∧ Kp w b := by
  have hd : diagZ L n (i * n + k) = if i = k then L i else 0 := by
    unfold diagZ
    rw [place_div _ _ _ hk, place_mod _ _ _ hk]
  rw [hd]
  show Calls Tryz.prog 101 #[.int .i64 (i : Int), .int .i64 (k : Int), .pointer (some ⟨Bl, 0, none⟩)] w _
  obtain ⟨b, o, rfl, hc⟩ := hr.at hi
  clear hd hr
  by_cases e : i = k
  · subst e
    rw [if_pos rfl]
    generalize L i = z at *
    have i0 : (0 : Int) ≤ (i : Int) := by omega
    have i1 : (i : Int) < (n : Int) := by omega
    clear hi hk
    go_enter Tryz.func101, Tryz.ntmps101
    go_wp2
    go_ret
    exact ⟨rfl, Kp.refl _⟩
  · rw [if_neg e]
    have ne : ((i : Int) != (k : Int)) = true := by simp; omega
    clear hi hk e hc hb
    go_enter Tryz.func101, Tryz.ntmps101
    go_wp2
    go_ret
    exact ⟨rfl, Kp.refl _⟩

set_option maxHeartbeats 1000000 in
theorem matDiag_ok (n cap : Nat) (ao : Option Addr) (L : Nat → Int) (hn : 1 ≤ n ∧ n ≤ 12) (w : World) (hr : Row w ao n L) :
    Calls Tryz.prog 75 #[.slice ao n cap] w fun e w' => MatP n n (n * n) (diagZ L n) 0 (Kp w) w e w' := by
  have FT := hide (fun w => matFits (n : Int) w)
  rw [decide_eq_true (by omega)] at FT
  have G : Grown w ((w.alloc (.cells #[.slice ao n cap] 22)).alloc (.cells #[.int .i64 0, .int .i64 0, .slice none 0 0] 24)) := ((Grown.refl _).alloc _ _).alloc _ _
  have bl : Blk w.heap.size #[.slice ao n cap] 22 ((w.alloc (.cells #[.slice ao n cap] 22)).alloc (.cells #[.int .i64 0, .int .i64 0, .slice none 0 0] 24)) := Blk.grown (Blk.new w _ _) ((Grown.refl _).alloc _ _)
  have br := blk_new2 w (.cells #[.slice ao n cap] 22) #[.int .i64 0, .int .i64 0, .slice none 0 0] 24
  have d0 : ((w.alloc (.cells #[.slice ao n cap] 22)).alloc (.cells #[.int .i64 0, .int .i64 0, .slice none 0 0] 24)).cell? ⟨w.heap.size, 0, none⟩ = some (.slice ao n cap) := Blk.cell bl 0
  have M := hide (madeN 101 (enters_of Tryz.func101 (by kernel_rfl) rfl) #[.pointer (some ⟨w.heap.size, 0, none⟩)] n n hn hn (diagZ L n) ((w.alloc (.cells #[.slice ao n cap] 22)).alloc (.cells #[.int .i64 0, .int .i64 0, .slice none 0 0] 24))
    (fun i k a hi hk ka => diag1 i k n w.heap.size cap ao L hi hk a (Blk.cell (Blk.kp bl ka) 0) ((hr.grown G).kp ka)))
  have HG := hide G
  have HB := hide br
  clear G bl br hr hn
  go_enter Tryz.func75, Tryz.ntmps75
  go_wp2_with fail
  generalize (w.alloc (.cells #[.slice ao n cap] 22)).alloc (.cells #[.int .i64 0, .int .i64 0, .slice none 0 0] 24) = w1 at *
  refine (unhide FT _).mono ?_
  rintro e w2 ⟨rfl, rfl⟩
  go_wp2_with fail
  refine (unhide M).mono ?_
  rintro e w3 ⟨Lb, h1, rfl, h3, h4⟩
  have b3 := Blk.kp (unhide HB) h4
  have e0 : w3.cell? ⟨w.heap.size + 1, 0, none⟩ = some (.int .i64 0) := Blk.cell b3 0
  have e1 : w3.cell? ⟨w.heap.size + 1, 1, none⟩ = some (.int .i64 0) := Blk.cell b3 1
  have e2 : w3.cell? ⟨w.heap.size + 1, 2, none⟩ = some (.slice none 0 0) := Blk.cell b3 2
  have f := Blk.free b3
  have R := hide (And.intro b3 (And.intro h1 (And.intro h3 h4)))
  clear b3 h1 h3 h4 M FT d0
  go_wp2
  obtain ⟨b3, h1, h3, h4⟩ := unhide R
  have P := putM b3 (.int .i64 n) (.int .i64 n) (.slice (some ⟨Lb, 0, none⟩) (n * n) (n * n))
  generalize (((w3.setCell ⟨w.heap.size + 1, 0, none⟩ (.int .i64 n)).setCell ⟨w.heap.size + 1, 1, none⟩ (.int .i64 n)).setCell ⟨w.heap.size + 1, 2, none⟩ (.slice (some ⟨Lb, 0, none⟩) (n * n) (n * n))) = wE at *
  have c0 : wE.cell? ⟨w.heap.size + 1, 0, none⟩ = some (.int .i64 n) := Blk.cell P.1 0
  have c1 : wE.cell? ⟨w.heap.size + 1, 1, none⟩ = some (.int .i64 n) := Blk.cell P.1 1
  have c2 : wE.cell? ⟨w.heap.size + 1, 2, none⟩ = some (.slice (some ⟨Lb, 0, none⟩) (n * n) (n * n)) := Blk.cell P.1 2
  refine bodyPost_ret (v := .tuple #[.agg #[.int .i64 n, .int .i64 n, .slice (some ⟨Lb, 0, none⟩) (n * n) (n * n)], .int .i64 0]) (by simp [results, Tryz.results75, go_sem, c0, c1, c2]) rfl ?_
  have hB := Blk.lt (unhide HB)
  have hs := (unhide HG).2.2
  exact ⟨_, _, Lb, rfl, by omega, Or.inr ⟨rfl, Blk.keep h3 P.2 (by omega)⟩, Nat.le_refl _, ((Kp.of (unhide HG)).trans h4).mod P.2 (by omega)⟩

set_option maxHeartbeats 1000000 in
theorem matDiag_bad (n cap : Nat) (ao : Option Addr) (L : Nat → Int) (hn : ¬ (1 ≤ n ∧ n ≤ 12)) (w : World) :
    Calls Tryz.prog 75 #[.slice ao n cap] w fun e w' => MatP 0 0 0 L 3 (Kp w) w e w' := by
  have FT := hide (fun w => matFits (n : Int) w)
  rw [decide_eq_false (by omega)] at FT
  have G : Grown w ((w.alloc (.cells #[.slice ao n cap] 22)).alloc (.cells #[.int .i64 0, .int .i64 0, .slice none 0 0] 24)) := ((Grown.refl _).alloc _ _).alloc _ _
  have bl : Blk w.heap.size #[.slice ao n cap] 22 ((w.alloc (.cells #[.slice ao n cap] 22)).alloc (.cells #[.int .i64 0, .int .i64 0, .slice none 0 0] 24)) := Blk.grown (Blk.new w _ _) ((Grown.refl _).alloc _ _)
  have br := blk_new2 w (.cells #[.slice ao n cap] 22) #[.int .i64 0, .int .i64 0, .slice none 0 0] 24
  have d0 : ((w.alloc (.cells #[.slice ao n cap] 22)).alloc (.cells #[.int .i64 0, .int .i64 0, .slice none 0 0] 24)).cell? ⟨w.heap.size, 0, none⟩ = some (.slice ao n cap) := Blk.cell bl 0
  have HG := hide G
  have HB := hide br
  clear G bl br hn
  go_enter Tryz.func75, Tryz.ntmps75
  go_wp2_with fail
  generalize (w.alloc (.cells #[.slice ao n cap] 22)).alloc (.cells #[.int .i64 0, .int .i64 0, .slice none 0 0] 24) = w1 at *
  refine (unhide FT _).mono ?_
  rintro e w2 ⟨rfl, rfl⟩
  have e0 : w2.cell? ⟨w.heap.size + 1, 0, none⟩ = some (.int .i64 0) := Blk.cell (unhide HB) 0
  have e1 : w2.cell? ⟨w.heap.size + 1, 1, none⟩ = some (.int .i64 0) := Blk.cell (unhide HB) 1
  have e2 : w2.cell? ⟨w.heap.size + 1, 2, none⟩ = some (.slice none 0 0) := Blk.cell (unhide HB) 2
  have f := Blk.free (unhide HB)
  go_wp2
  have P := putM (unhide HB) (.int .i64 0) (.int .i64 0) (.slice none 0 0)
  generalize (((w2.setCell ⟨w.heap.size + 1, 0, none⟩ (.int .i64 0)).setCell ⟨w.heap.size + 1, 1, none⟩ (.int .i64 0)).setCell ⟨w.heap.size + 1, 2, none⟩ (.slice none 0 0)) = wE at *
  have c0 : wE.cell? ⟨w.heap.size + 1, 0, none⟩ = some (.int .i64 0) := Blk.cell P.1 0
  have c1 : wE.cell? ⟨w.heap.size + 1, 1, none⟩ = some (.int .i64 0) := Blk.cell P.1 1
  have c2 : wE.cell? ⟨w.heap.size + 1, 2, none⟩ = some (.slice none 0 0) := Blk.cell P.1 2
  refine bodyPost_ret (v := .tuple #[.agg #[.int .i64 0, .int .i64 0, .slice none 0 0], .int .i64 3]) (by simp [results, Tryz.results75, go_sem, c0, c1, c2]) rfl ?_
  exact ⟨none, 0, w.heap.size, rfl, Nat.le_refl _, Or.inl rfl, Nat.le_refl _, (Kp.of (unhide HG)).mod P.2 (by omega)⟩

end Go.Proofs.YtopaakjildmjcaaGreat
