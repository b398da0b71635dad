/- Package mat: blocks laid one behind the other; Mul. -/
import Derived.Test.YtopaakjildmjcaaMatH
namespace Go.Proofs.Ytopaakjildmjcaa
open Go.RowKit Go.Shelf Go.Proofs.Wd
set_option linter.unusedVariables false
set_option linter.unusedSimpArgs false
set_option maxRecDepth 10000

theorem alloc3 (w : World) (c1 : Array Value) (t1 : TypeId) (c2 : Array Value) (t2 : TypeId) (c3 : Array Value) (t3 : TypeId) : Grown w (((w.alloc (.cells c1 t1)).alloc (.cells c2 t2)).alloc (.cells c3 t3)) ∧ (((w.alloc (.cells c1 t1)).alloc (.cells c2 t2)).alloc (.cells c3 t3)).heap.size = w.heap.size + 1 + 1 + 1 ∧ Blk (w.heap.size) c1 t1 (((w.alloc (.cells c1 t1)).alloc (.cells c2 t2)).alloc (.cells c3 t3)) ∧ Blk (w.heap.size + 1) c2 t2 (((w.alloc (.cells c1 t1)).alloc (.cells c2 t2)).alloc (.cells c3 t3)) ∧ Blk (w.heap.size + 1 + 1) c3 t3 (((w.alloc (.cells c1 t1)).alloc (.cells c2 t2)).alloc (.cells c3 t3)) := by
  have g1 : Grown w (w.alloc (.cells c1 t1)) := (Grown.refl _).alloc _ _
  have b1 := Blk.new w c1 t1
  have s1 : (w.alloc (.cells c1 t1)).heap.size = w.heap.size + 1 := by rw [World.size_alloc]
  generalize w.alloc (.cells c1 t1) = w1 at *
  have g2 : Grown w1 (w1.alloc (.cells c2 t2)) := (Grown.refl _).alloc _ _
  have b2 := Blk.new w1 c2 t2
  have s2 : (w1.alloc (.cells c2 t2)).heap.size = w.heap.size + 1 + 1 := by rw [World.size_alloc, s1]
  rw [s1] at b2
  generalize w1.alloc (.cells c2 t2) = w2 at *
  have g3 : Grown w2 (w2.alloc (.cells c3 t3)) := (Grown.refl _).alloc _ _
  have b3 := Blk.new w2 c3 t3
  have s3 : (w2.alloc (.cells c3 t3)).heap.size = w.heap.size + 1 + 1 + 1 := by rw [World.size_alloc, s2]
  rw [s2] at b3
  generalize w2.alloc (.cells c3 t3) = w3 at *
  refine ⟨gtrans (gtrans g1 g2) g3, s3, (Blk.grown (Blk.grown b1 g2) g3), (Blk.grown b2 g3), b3⟩
theorem alloc4 (w : World) (c1 : Array Value) (t1 : TypeId) (c2 : Array Value) (t2 : TypeId) (c3 : Array Value) (t3 : TypeId) (c4 : Array Value) (t4 : TypeId) : Grown w ((((w.alloc (.cells c1 t1)).alloc (.cells c2 t2)).alloc (.cells c3 t3)).alloc (.cells c4 t4)) ∧ ((((w.alloc (.cells c1 t1)).alloc (.cells c2 t2)).alloc (.cells c3 t3)).alloc (.cells c4 t4)).heap.size = w.heap.size + 1 + 1 + 1 + 1 ∧ Blk (w.heap.size) c1 t1 ((((w.alloc (.cells c1 t1)).alloc (.cells c2 t2)).alloc (.cells c3 t3)).alloc (.cells c4 t4)) ∧ Blk (w.heap.size + 1) c2 t2 ((((w.alloc (.cells c1 t1)).alloc (.cells c2 t2)).alloc (.cells c3 t3)).alloc (.cells c4 t4)) ∧ Blk (w.heap.size + 1 + 1) c3 t3 ((((w.alloc (.cells c1 t1)).alloc (.cells c2 t2)).alloc (.cells c3 t3)).alloc (.cells c4 t4)) ∧ Blk (w.heap.size + 1 + 1 + 1) c4 t4 ((((w.alloc (.cells c1 t1)).alloc (.cells c2 t2)).alloc (.cells c3 t3)).alloc (.cells c4 t4)) := by
  have g1 : Grown w (w.alloc (.cells c1 t1)) := (Grown.refl _).alloc _ _
  have b1 := Blk.new w c1 t1
  have s1 : (w.alloc (.cells c1 t1)).heap.size = w.heap.size + 1 := by rw [World.size_alloc]
  generalize w.alloc (.cells c1 t1) = w1 at *
  have g2 : Grown w1 (w1.alloc (.cells c2 t2)) := (Grown.refl _).alloc _ _
  have b2 := Blk.new w1 c2 t2
  have s2 : (w1.alloc (.cells c2 t2)).heap.size = w.heap.size + 1 + 1 := by rw [World.size_alloc, s1]
  rw [s1] at b2
  generalize w1.alloc (.cells c2 t2) = w2 at *
  have g3 : Grown w2 (w2.alloc (.cells c3 t3)) := (Grown.refl _).alloc _ _
  have b3 := Blk.new w2 c3 t3
  have s3 : (w2.alloc (.cells c3 t3)).heap.size = w.heap.size + 1 + 1 + 1 := by rw [World.size_alloc, s2]
  rw [s2] at b3
  generalize w2.alloc (.cells c3 t3) = w3 at *
  have g4 : Grown w3 (w3.alloc (.cells c4 t4)) := (Grown.refl _).alloc _ _
  have b4 := Blk.new w3 c4 t4
  have s4 : (w3.alloc (.cells c4 t4)).heap.size = w.heap.size + 1 + 1 + 1 + 1 := by rw [World.size_alloc, s3]
  rw [s3] at b4
  generalize w3.alloc (.cells c4 t4) = w4 at *
  refine ⟨gtrans (gtrans (gtrans g1 g2) g3) g4, s4, (Blk.grown (Blk.grown (Blk.grown b1 g2) g3) g4), (Blk.grown (Blk.grown b2 g3) g4), (Blk.grown b3 g4), b4⟩
theorem alloc5 (w : World) (c1 : Array Value) (t1 : TypeId) (c2 : Array Value) (t2 : TypeId) (c3 : Array Value) (t3 : TypeId) (c4 : Array Value) (t4 : TypeId) (c5 : Array Value) (t5 : TypeId) : Grown w (((((w.alloc (.cells c1 t1)).alloc (.cells c2 t2)).alloc (.cells c3 t3)).alloc (.cells c4 t4)).alloc (.cells c5 t5)) ∧ (((((w.alloc (.cells c1 t1)).alloc (.cells c2 t2)).alloc (.cells c3 t3)).alloc (.cells c4 t4)).alloc (.cells c5 t5)).heap.size = w.heap.size + 1 + 1 + 1 + 1 + 1 ∧ Blk (w.heap.size) c1 t1 (((((w.alloc (.cells c1 t1)).alloc (.cells c2 t2)).alloc (.cells c3 t3)).alloc (.cells c4 t4)).alloc (.cells c5 t5)) ∧ Blk (w.heap.size + 1) c2 t2 (((((w.alloc (.cells c1 t1)).alloc (.cells c2 t2)).alloc (.cells c3 t3)).alloc (.cells c4 t4)).alloc (.cells c5 t5)) ∧ Blk (w.heap.size + 1 + 1) c3 t3 (((((w.alloc (.cells c1 t1)).alloc (.cells c2 t2)).alloc (.cells c3 t3)).alloc (.cells c4 t4)).alloc (.cells c5 t5)) ∧ Blk (w.heap.size + 1 + 1 + 1) c4 t4 (((((w.alloc (.cells c1 t1)).alloc (.cells c2 t2)).alloc (.cells c3 t3)).alloc (.cells c4 t4)).alloc (.cells c5 t5)) ∧ Blk (w.heap.size + 1 + 1 + 1 + 1) c5 t5 (((((w.alloc (.cells c1 t1)).alloc (.cells c2 t2)).alloc (.cells c3 t3)).alloc (.cells c4 t4)).alloc (.cells c5 t5)) := by
  have g1 : Grown w (w.alloc (.cells c1 t1)) := (Grown.refl _).alloc _ _
  have b1 := Blk.new w c1 t1
  have s1 : (w.alloc (.cells c1 t1)).heap.size = w.heap.size + 1 := by rw [World.size_alloc]
  generalize w.alloc (.cells c1 t1) = w1 at *
  have g2 : Grown w1 (w1.alloc (.cells c2 t2)) := (Grown.refl _).alloc _ _
  have b2 := Blk.new w1 c2 t2
  have s2 : (w1.alloc (.cells c2 t2)).heap.size = w.heap.size + 1 + 1 := by rw [World.size_alloc, s1]
  rw [s1] at b2
  generalize w1.alloc (.cells c2 t2) = w2 at *
  have g3 : Grown w2 (w2.alloc (.cells c3 t3)) := (Grown.refl _).alloc _ _
  have b3 := Blk.new w2 c3 t3
  have s3 : (w2.alloc (.cells c3 t3)).heap.size = w.heap.size + 1 + 1 + 1 := by rw [World.size_alloc, s2]
  rw [s2] at b3
  generalize w2.alloc (.cells c3 t3) = w3 at *
  have g4 : Grown w3 (w3.alloc (.cells c4 t4)) := (Grown.refl _).alloc _ _
  have b4 := Blk.new w3 c4 t4
  have s4 : (w3.alloc (.cells c4 t4)).heap.size = w.heap.size + 1 + 1 + 1 + 1 := by rw [World.size_alloc, s3]
  rw [s3] at b4
  generalize w3.alloc (.cells c4 t4) = w4 at *
  have g5 : Grown w4 (w4.alloc (.cells c5 t5)) := (Grown.refl _).alloc _ _
  have b5 := Blk.new w4 c5 t5
  have s5 : (w4.alloc (.cells c5 t5)).heap.size = w.heap.size + 1 + 1 + 1 + 1 + 1 := by rw [World.size_alloc, s4]
  rw [s4] at b5
  generalize w4.alloc (.cells c5 t5) = w5 at *
  refine ⟨gtrans (gtrans (gtrans (gtrans g1 g2) g3) g4) g5, s5, (Blk.grown (Blk.grown (Blk.grown (Blk.grown b1 g2) g3) g4) g5), (Blk.grown (Blk.grown (Blk.grown b2 g3) g4) g5), (Blk.grown (Blk.grown b3 g4) g5), (Blk.grown b4 g5), b5⟩

set_option maxHeartbeats 2000000 in
theorem matMul_ok (U : Nat) (c0 : Bool) (n0 : Int) (hn : 0 ≤ n0 ∧ n0 < 1152921504606846976) (r m c b o cap b2 o2 cap2 : Nat) (A B : Nat → Int) (hr : 1 ≤ r ∧ r ≤ 12) (hm : 1 ≤ m ∧ m ≤ 12) (hc : 1 ≤ c ∧ c ≤ 12) (hcap : r * m ≤ cap)
    (hA : ∀ j, j < r * m → I64 (A j)) (hB : ∀ j, j < m * c → I64 (B j)) (w : World) (h : UC U c0 n0 w) (za : ∀ j, j < r * m → w.cell? ⟨b, o + j, none⟩ = some (.int .i64 (A j))) (zb : ∀ j, j < m * c → w.cell? ⟨b2, o2 + j, none⟩ = some (.int .i64 (B j))) (n4 : b ≠ U) (n5 : b2 ≠ U) :
    Calls Try.prog 19 #[.pointer (some ⟨U, 0, none⟩), .agg #[.int .i64 r, .int .i64 m, .slice (some ⟨b, o, none⟩) (r * m) cap], .agg #[.int .i64 m, .int .i64 c, .slice (some ⟨b2, o2, none⟩) (m * c) cap2]] w fun e w' => MatP r c (r * c) (mulZ A B m c) 0 (fun w' => UC U (c0 || orC (mulG A B m c) (r * c)) (n0 + 2 * m * ((r * c : Nat) : Int)) w' ∧ Mk U w w') w e w' := by
  have hlt := Blk.lt h
  obtain ⟨G, s5, bu, ba, bb, br, bx⟩ := alloc5 w #[.pointer (some ⟨U, 0, none⟩)] 22 #[.int .i64 r, .int .i64 m, .slice (some ⟨b, o, none⟩) (r * m) cap] 26 #[.int .i64 m, .int .i64 c, .slice (some ⟨b2, o2, none⟩) (m * c) cap2] 26 #[.int .i64 0, .int .i64 0, .slice none 0 0] 26 #[.int .i64 r, .int .i64 m, .slice (some ⟨b, o, none⟩) (r * m) cap, .int .i64 m, .int .i64 c, .slice (some ⟨b2, o2, none⟩) (m * c) cap2] 26
  have RF := hide (refuse2 U c0 n0 ⟨hn.1, by omega⟩ r m (some ⟨b, o, none⟩) (r * m) cap m c (some ⟨b2, o2, none⟩) (m * c) cap2 (w.heap.size + 1 + 1 + 1 + 1) 0 (Or.inl ⟨⟨⟨by omega, by omega, by rw [Int.natCast_mul]⟩, ⟨by omega, by omega, by rw [Int.natCast_mul]⟩⟩, rfl⟩) _ (Blk.grown h G) bx (by omega))
  have TD : Hid (∀ wx, Mod U w wx → Calls Try.prog 34 #[.agg #[.int .i64 m, .int .i64 c, .slice (some ⟨b2, o2, none⟩) (m * c) cap2]] wx fun e w' => MadeP c m (turnZ B m c) (Kp wx) wx e w') := fun wx mu => matTurned m c b2 o2 cap2 B hm hc wx (fun j hj => mu.cell (zb j hj) n5)
  have MD : Hid (∀ (L Bc : Nat) wx, Mk U w wx → UC U c0 n0 wx → Blk (w.heap.size) #[.pointer (some ⟨U, 0, none⟩)] 22 wx → Blk (w.heap.size + 1) #[.int .i64 r, .int .i64 m, .slice (some ⟨b, o, none⟩) (r * m) cap] 26 wx → Blk Bc #[.int .i64 c, .int .i64 m, .slice (some ⟨L, 0, none⟩) (c * m) (c * m)] 26 wx → Blk L (ints (c * m) (turnZ B m c)) 3 wx → L ≠ U → Bc ≠ U →
      Calls Try.prog 35 #[.int .i64 r, .int .i64 c, .func (.func 36) #[] #[.pointer (some ⟨w.heap.size, 0, none⟩), .pointer (some ⟨w.heap.size + 1, 0, none⟩), .pointer (some ⟨Bc, 0, none⟩)]] wx fun e w' => MadeP r c (mulZ A B m c) (fun w' => UC U (c0 || orC (mulG A B m c) (r * c)) (n0 + 2 * m * ((r * c : Nat) : Int)) w' ∧ Mk U wx w') wx e w') := by
    intro L Bc wx mx ux xu xa xc xl nL nB
    refine madeU U c0 n0 (2 * m) (by omega) (mulG A B m c) 36 (enters_of Try.func36 (by kernel_rfl) rfl) _ r c hr hc (mulZ A B m c) wx hn ux (fun cc nn i k a hi hk hnn ua ma => ?_)
    have := mul1 U cc nn hnn r m c i k b o cap L w.heap.size (w.heap.size + 1) Bc A (turnZ B m c) hr hm hc hi hk hcap hA (turn_I64 B m c hB) a ua (Blk.mk xu ma (by omega)) (Blk.mk xa ma (by omega)) (Blk.mk xc ma nB)
      (fun j hj => ma.cell (mx.cell (za j hj) n4) n4) (fun j hj => by rw [Nat.zero_add, Blk.cell (Blk.mk xl ma nL), ints_at _ _ j hj]) (by omega) (by omega) nB n4 nL
    rw [(mul_rows A B m c i k hk).1, (mul_rows A B m c i k hk).2] at this
    exact this
  have HB := hide (And.intro bu (And.intro ba (And.intro bb br)))
  have HG := hide (And.intro G (And.intro s5 hlt))
  obtain ⟨la, hla⟩ : ∃ q, r * m = q := ⟨_, rfl⟩
  obtain ⟨lb, hlb⟩ : ∃ q, m * c = q := ⟨_, rfl⟩
  rw [hla, hlb] at RF HG HB
  rw [hlb] at TD
  rw [hla] at MD
  rw [hla, hlb]
  clear G s5 bu ba bb br bx h hlt za zb hA hB hr hm hc hcap hla hlb n4 n5 hn
  go_enter Try.func19, Try.ntmps19
  go_wp2_with fail
  generalize (((((w.alloc (.cells #[.pointer (some ⟨U, 0, none⟩)] 22)).alloc (.cells #[.int .i64 r, .int .i64 m, .slice (some ⟨b, o, none⟩) la cap] 26)).alloc (.cells #[.int .i64 m, .int .i64 c, .slice (some ⟨b2, o2, none⟩) lb cap2] 26)).alloc (.cells #[.int .i64 0, .int .i64 0, .slice none 0 0] 26)).alloc (.cells #[.int .i64 r, .int .i64 m, .slice (some ⟨b, o, none⟩) la cap, .int .i64 m, .int .i64 c, .slice (some ⟨b2, o2, none⟩) lb cap2] 26)) = w1 at *
  refine (unhide RF).mono ?_
  rintro e w2 ⟨rfl, u2, m2⟩
  have M2 : Hid (Mod U w w2) := (Mod.of (unhide HG).1).trans m2
  have Z2 : Hid (w.heap.size + 1 + 1 + 1 + 1 + 1 ≤ w2.heap.size) := by have := (unhide HG).2.1; have := m2.2.2.2.2; show _ ≤ _; omega
  obtain ⟨bu, ba, bb, br⟩ := unhide HB
  have lU : Hid (U < w.heap.size) := (unhide HG).2.2
  have bu2 := Blk.keep bu m2 (by have := unhide lU; omega)
  have ba2 := Blk.keep ba m2 (by have := unhide lU; omega)
  have bb2 := Blk.keep bb m2 (by have := unhide lU; omega)
  have br2 := Blk.keep br m2 (by have := unhide lU; omega)
  have p1 : w2.cell? ⟨w.heap.size + 1, 0, none⟩ = some (.int .i64 r) := Blk.cell ba2 0
  have p2 : w2.cell? ⟨w.heap.size + 1, 1, none⟩ = some (.int .i64 m) := Blk.cell ba2 1
  have q0 : w2.cell? ⟨w.heap.size + 1 + 1, 0, none⟩ = some (.int .i64 m) := Blk.cell bb2 0
  have q1 : w2.cell? ⟨w.heap.size + 1 + 1, 1, none⟩ = some (.int .i64 c) := Blk.cell bb2 1
  have q2 : w2.cell? ⟨w.heap.size + 1 + 1, 2, none⟩ = some (.slice (some ⟨b2, o2, none⟩) lb cap2) := Blk.cell bb2 2
  have H2 := hide (And.intro u2 (And.intro bu2 (And.intro ba2 (And.intro bb2 br2))))
  have T2 := hide (unhide TD w2 (unhide M2))
  clear bu ba bb br bu2 ba2 bb2 br2 u2 m2 RF TD HB
  go_wp2_with fail
  refine (unhide T2).mono ?_
  rintro e w3 ⟨L, h1, rfl, h3, k3⟩
  have G3 : Hid (Grown w3 (w3.alloc (.cells #[.int .i64 c, .int .i64 m, .slice (some ⟨L, 0, none⟩) (c * m) (c * m)] 26))) := (Grown.refl _).alloc _ _
  have HC : Hid (Blk w3.heap.size #[.int .i64 c, .int .i64 m, .slice (some ⟨L, 0, none⟩) (c * m) (c * m)] 26 (w3.alloc (.cells #[.int .i64 c, .int .i64 m, .slice (some ⟨L, 0, none⟩) (c * m) (c * m)] 26))) := Blk.new w3 _ _
  have K4 : Hid (Kp w2 (w3.alloc (.cells #[.int .i64 c, .int .i64 m, .slice (some ⟨L, 0, none⟩) (c * m) (c * m)] 26))) := k3.grown (unhide G3)
  have nL : Hid (L ≠ U ∧ w3.heap.size ≠ U) := by
    have := Blk.lt (unhide H2).1
    have := k3.2.2.2
    show L ≠ U ∧ w3.heap.size ≠ U
    omega
  have L3 : Hid (w2.heap.size ≤ L ∧ Blk L (ints (c * m) (turnZ B m c)) 3 (w3.alloc (.cells #[.int .i64 c, .int .i64 m, .slice (some ⟨L, 0, none⟩) (c * m) (c * m)] 26))) := ⟨h1, Blk.grown h3 (unhide G3)⟩
  clear h1 h3 k3 T2 G3
  generalize hw4 : w3.alloc (.cells #[.int .i64 c, .int .i64 m, .slice (some ⟨L, 0, none⟩) (c * m) (c * m)] 26) = w4 at HC K4 L3
  have r1 : w4.cell? ⟨w.heap.size + 1, 0, none⟩ = some (.int .i64 r) := Blk.cell (Blk.kp (unhide H2).2.2.1 (unhide K4)) 0
  have r2 : w4.cell? ⟨w.heap.size + 1 + 1, 1, none⟩ = some (.int .i64 c) := Blk.cell (Blk.kp (unhide H2).2.2.2.1 (unhide K4)) 1
  have M4 := hide (unhide MD L w3.heap.size w4 ((Mk.of (unhide M2)).trans ⟨(unhide K4).1, (unhide K4).2.1, fun k hk _ => (unhide K4).2.2.1 k hk, (unhide K4).2.2.2⟩) (Blk.kp (unhide H2).1 (unhide K4)) (Blk.kp (unhide H2).2.1 (unhide K4)) (Blk.kp (unhide H2).2.2.1 (unhide K4)) (unhide HC) (unhide L3).2 (unhide nL).1 (unhide nL).2)
  clear MD p1 p2 q0 q1 q2
  go_wp2_with fail
  clear hw4
  refine (unhide M4).mono ?_
  rintro e w5 ⟨Lb, h1, rfl, h3, u5, mk5⟩
  have b3 : Blk (w.heap.size + 1 + 1 + 1) #[.int .i64 0, .int .i64 0, .slice none 0 0] 26 w5 := Blk.mk (Blk.kp (unhide H2).2.2.2.2 (unhide K4)) mk5 (by have := unhide lU; omega)
  have e0 : w5.cell? ⟨w.heap.size + 1 + 1 + 1, 0, none⟩ = some (.int .i64 0) := Blk.cell b3 0
  have e1 : w5.cell? ⟨w.heap.size + 1 + 1 + 1, 1, none⟩ = some (.int .i64 0) := Blk.cell b3 1
  have e2 : w5.cell? ⟨w.heap.size + 1 + 1 + 1, 2, none⟩ = some (.slice none 0 0) := Blk.cell b3 2
  have f := Blk.free b3
  have R := hide (And.intro b3 (And.intro h1 (And.intro h3 (And.intro u5 mk5))))
  clear b3 h1 h3 u5 mk5 M4 r1 r2
  go_wp2
  obtain ⟨b3, h1, h3, u5, mk5⟩ := unhide R

  have P := putM b3 (.int .i64 r) (.int .i64 c) (.slice (some ⟨Lb, 0, none⟩) (r * c) (r * c))
  generalize (((w5.setCell ⟨w.heap.size + 1 + 1 + 1, 0, none⟩ (.int .i64 r)).setCell ⟨w.heap.size + 1 + 1 + 1, 1, none⟩ (.int .i64 c)).setCell ⟨w.heap.size + 1 + 1 + 1, 2, none⟩ (.slice (some ⟨Lb, 0, none⟩) (r * c) (r * c))) = wE at *
  have c0 : wE.cell? ⟨w.heap.size + 1 + 1 + 1, 0, none⟩ = some (.int .i64 r) := Blk.cell P.1 0
  have c1 : wE.cell? ⟨w.heap.size + 1 + 1 + 1, 1, none⟩ = some (.int .i64 c) := Blk.cell P.1 1
  have c2 : wE.cell? ⟨w.heap.size + 1 + 1 + 1, 2, none⟩ = some (.slice (some ⟨Lb, 0, none⟩) (r * c) (r * c)) := Blk.cell P.1 2
  refine bodyPost_ret (v := .tuple #[.agg #[.int .i64 r, .int .i64 c, .slice (some ⟨Lb, 0, none⟩) (r * c) (r * c)], .int .i64 0]) (by simp [results, Try.results19, go_sem, c0, c1, c2]) rfl ?_
  have hz := unhide Z2
  have hk := (unhide K4).2.2.2
  have hu := unhide lU
  have mw : Mk U w w4 := (Mk.of (unhide M2)).trans ⟨(unhide K4).1, (unhide K4).2.1, fun k hk _ => (unhide K4).2.2.1 k hk, (unhide K4).2.2.2⟩
  have hw5 := (mw.trans mk5).2.2.2
  exact ⟨_, _, Lb, rfl, by omega, Or.inr ⟨rfl, Blk.keep h3 P.2 (by omega)⟩, Nat.le_refl _, Blk.keep u5 P.2 (by omega), (mw.trans mk5).new P.2 (by omega)⟩


set_option maxHeartbeats 2000000 in
theorem matMul_bad (U : Nat) (c0 : Bool) (n0 : Int) (hn : 0 ≤ n0 ∧ n0 < 1152921504606846976) (R1 C1 R2 C2 : Int) (a1 a2 : Option Addr) (l1 p1 l2 p2 : Nat) (Z : Nat → Int) (hb : ¬ (okM R1 C1 l1 ∧ okM R2 C2 l2 ∧ C1 = R2)) (w : World) (h : UC U c0 n0 w) :
    Calls Try.prog 19 #[.pointer (some ⟨U, 0, none⟩), .agg #[.int .i64 R1, .int .i64 C1, .slice a1 l1 p1], .agg #[.int .i64 R2, .int .i64 C2, .slice a2 l2 p2]] w fun e w' => MatP 0 0 0 Z 3 (fun w' => UC U c0 n0 w' ∧ Mk U w w') w e w' := by
  have hlt := Blk.lt h
  obtain ⟨G, s5, bu, ba, bb, br, bx⟩ := alloc5 w #[.pointer (some ⟨U, 0, none⟩)] 22 #[.int .i64 R1, .int .i64 C1, .slice a1 l1 p1] 26 #[.int .i64 R2, .int .i64 C2, .slice a2 l2 p2] 26 #[.int .i64 0, .int .i64 0, .slice none 0 0] 26 #[.int .i64 R1, .int .i64 C1, .slice a1 l1 p1, .int .i64 R2, .int .i64 C2, .slice a2 l2 p2] 26
  have hu := Blk.grown h G
  have lU : Hid (U < w.heap.size) := hlt
  have HB := hide (And.intro ba (And.intro bb br))
  have HG := hide G
  by_cases ho : okM R1 C1 l1 ∧ okM R2 C2 l2
  · have RF := hide (refuse2 U c0 n0 ⟨hn.1, by omega⟩ R1 C1 a1 l1 p1 R2 C2 a2 l2 p2 (w.heap.size + 1 + 1 + 1 + 1) 0 (Or.inl ⟨ho, rfl⟩) _ hu bx (by omega))
    have hne : (C1 != R2) = true := by simpa using (fun e => hb ⟨ho.1, ho.2, e⟩)
    clear G s5 bu ba bb br bx h hu hlt hb ho hn
    go_enter Try.func19, Try.ntmps19
    go_wp2_with fail
    generalize (((((w.alloc (.cells #[.pointer (some ⟨U, 0, none⟩)] 22)).alloc (.cells #[.int .i64 R1, .int .i64 C1, .slice a1 l1 p1] 26)).alloc (.cells #[.int .i64 R2, .int .i64 C2, .slice a2 l2 p2] 26)).alloc (.cells #[.int .i64 0, .int .i64 0, .slice none 0 0] 26)).alloc (.cells #[.int .i64 R1, .int .i64 C1, .slice a1 l1 p1, .int .i64 R2, .int .i64 C2, .slice a2 l2 p2] 26)) = w1 at *
    refine (unhide RF).mono ?_
    rintro e w2 ⟨rfl, u2, m2⟩
    have b3 := Blk.keep (unhide HB).2.2 m2 (by have := unhide lU; omega)
    have p2 : w2.cell? ⟨w.heap.size + 1, 1, none⟩ = some (.int .i64 C1) := Blk.cell (Blk.keep (unhide HB).1 m2 (by have := unhide lU; omega)) 1
    have q0 : w2.cell? ⟨w.heap.size + 1 + 1, 0, none⟩ = some (.int .i64 R2) := Blk.cell (Blk.keep (unhide HB).2.1 m2 (by have := unhide lU; omega)) 0
    have e0 : w2.cell? ⟨w.heap.size + 1 + 1 + 1, 0, none⟩ = some (.int .i64 0) := Blk.cell b3 0
    have e1 : w2.cell? ⟨w.heap.size + 1 + 1 + 1, 1, none⟩ = some (.int .i64 0) := Blk.cell b3 1
    have e2 : w2.cell? ⟨w.heap.size + 1 + 1 + 1, 2, none⟩ = some (.slice none 0 0) := Blk.cell b3 2
    have f := Blk.free b3
    have R := hide (And.intro b3 (And.intro u2 (Mk.of ((Mod.of (unhide HG)).trans m2))))
    clear b3 u2 m2 RF
    go_wp2
    obtain ⟨b3, u2, m2⟩ := unhide R
    have P := putM b3 (.int .i64 0) (.int .i64 0) (.slice none 0 0)
    generalize (((w2.setCell ⟨w.heap.size + 1 + 1 + 1, 0, none⟩ (.int .i64 0)).setCell ⟨w.heap.size + 1 + 1 + 1, 1, none⟩ (.int .i64 0)).setCell ⟨w.heap.size + 1 + 1 + 1, 2, none⟩ (.slice none 0 0)) = wE at *
    have c0 : wE.cell? ⟨w.heap.size + 1 + 1 + 1, 0, none⟩ = some (.int .i64 0) := Blk.cell P.1 0
    have c1 : wE.cell? ⟨w.heap.size + 1 + 1 + 1, 1, none⟩ = some (.int .i64 0) := Blk.cell P.1 1
    have c2 : wE.cell? ⟨w.heap.size + 1 + 1 + 1, 2, none⟩ = some (.slice none 0 0) := Blk.cell P.1 2
    refine bodyPost_ret (v := .tuple #[.agg #[.int .i64 0, .int .i64 0, .slice none 0 0], .int .i64 3]) (by simp [results, Try.results19, go_sem, c0, c1, c2]) rfl ?_
    exact ⟨none, 0, w.heap.size, rfl, Nat.le_refl _, Or.inl rfl, Nat.le_refl _, Blk.keep u2 P.2 (by have := unhide lU; omega), m2.new P.2 (by omega)⟩
  · have RF := hide (refuse2 U c0 n0 ⟨hn.1, by omega⟩ R1 C1 a1 l1 p1 R2 C2 a2 l2 p2 (w.heap.size + 1 + 1 + 1 + 1) 3 (Or.inr ⟨ho, rfl⟩) _ hu bx (by omega))
    clear G s5 bu ba bb br bx h hu hlt hb ho hn
    go_enter Try.func19, Try.ntmps19
    go_wp2_with fail
    generalize (((((w.alloc (.cells #[.pointer (some ⟨U, 0, none⟩)] 22)).alloc (.cells #[.int .i64 R1, .int .i64 C1, .slice a1 l1 p1] 26)).alloc (.cells #[.int .i64 R2, .int .i64 C2, .slice a2 l2 p2] 26)).alloc (.cells #[.int .i64 0, .int .i64 0, .slice none 0 0] 26)).alloc (.cells #[.int .i64 R1, .int .i64 C1, .slice a1 l1 p1, .int .i64 R2, .int .i64 C2, .slice a2 l2 p2] 26)) = w1 at *
    refine (unhide RF).mono ?_
    rintro e w2 ⟨rfl, u2, m2⟩
    have b3 := Blk.keep (unhide HB).2.2 m2 (by have := unhide lU; omega)
    have e0 : w2.cell? ⟨w.heap.size + 1 + 1 + 1, 0, none⟩ = some (.int .i64 0) := Blk.cell b3 0
    have e1 : w2.cell? ⟨w.heap.size + 1 + 1 + 1, 1, none⟩ = some (.int .i64 0) := Blk.cell b3 1
    have e2 : w2.cell? ⟨w.heap.size + 1 + 1 + 1, 2, none⟩ = some (.slice none 0 0) := Blk.cell b3 2
    have f := Blk.free b3
    have R := hide (And.intro b3 (And.intro u2 (Mk.of ((Mod.of (unhide HG)).trans m2))))
    clear b3 u2 m2 RF
    go_wp2
    obtain ⟨b3, u2, m2⟩ := unhide R
    have P := putM b3 (.int .i64 0) (.int .i64 0) (.slice none 0 0)
    generalize (((w2.setCell ⟨w.heap.size + 1 + 1 + 1, 0, none⟩ (.int .i64 0)).setCell ⟨w.heap.size + 1 + 1 + 1, 1, none⟩ (.int .i64 0)).setCell ⟨w.heap.size + 1 + 1 + 1, 2, none⟩ (.slice none 0 0)) = wE at *
    have c0 : wE.cell? ⟨w.heap.size + 1 + 1 + 1, 0, none⟩ = some (.int .i64 0) := Blk.cell P.1 0
    have c1 : wE.cell? ⟨w.heap.size + 1 + 1 + 1, 1, none⟩ = some (.int .i64 0) := Blk.cell P.1 1
    have c2 : wE.cell? ⟨w.heap.size + 1 + 1 + 1, 2, none⟩ = some (.slice none 0 0) := Blk.cell P.1 2
    refine bodyPost_ret (v := .tuple #[.agg #[.int .i64 0, .int .i64 0, .slice none 0 0], .int .i64 3]) (by simp [results, Try.results19, go_sem, c0, c1, c2]) rfl ?_
    exact ⟨none, 0, w.heap.size, rfl, Nat.le_refl _, Or.inl rfl, Nat.le_refl _, Blk.keep u2 P.2 (by have := unhide lU; omega), m2.new P.2 (by omega)⟩

set_option maxHeartbeats 2000000 in
theorem matMul_none (p : Option Addr) (R1 C1 R2 C2 : Int) (a1 a2 : Option Addr) (l1 p1 l2 p2 : Nat) (Z : Nat → Int) (w : World) (h : NU p w) :
    Calls Try.prog 19 #[.pointer p, .agg #[.int .i64 R1, .int .i64 C1, .slice a1 l1 p1], .agg #[.int .i64 R2, .int .i64 C2, .slice a2 l2 p2]] w fun e w' => MatP 0 0 0 Z 1 (Kp w) w e w' := by
  obtain ⟨G, s5, bu, ba, bb, br, bx⟩ := alloc5 w #[.pointer p] 22 #[.int .i64 R1, .int .i64 C1, .slice a1 l1 p1] 26 #[.int .i64 R2, .int .i64 C2, .slice a2 l2 p2] 26 #[.int .i64 0, .int .i64 0, .slice none 0 0] 26 #[.int .i64 R1, .int .i64 C1, .slice a1 l1 p1, .int .i64 R2, .int .i64 C2, .slice a2 l2 p2] 26
  have HB := hide br
  have HG := hide G
  have RF := hide (fun s => refuseNone p s _ (h.grown G))
  clear G s5 bu ba bb br bx h
  go_enter Try.func19, Try.ntmps19
  go_wp2_with fail
  generalize (((((w.alloc (.cells #[.pointer p] 22)).alloc (.cells #[.int .i64 R1, .int .i64 C1, .slice a1 l1 p1] 26)).alloc (.cells #[.int .i64 R2, .int .i64 C2, .slice a2 l2 p2] 26)).alloc (.cells #[.int .i64 0, .int .i64 0, .slice none 0 0] 26)).alloc (.cells #[.int .i64 R1, .int .i64 C1, .slice a1 l1 p1, .int .i64 R2, .int .i64 C2, .slice a2 l2 p2] 26)) = w1 at *
  refine (unhide RF _).mono ?_
  rintro e w2 ⟨rfl, rfl⟩
  have e0 : w2.cell? ⟨w.heap.size + 1 + 1 + 1, 0, none⟩ = some (.int .i64 0) := Blk.cell (unhide HB) 0
  have e1 : w2.cell? ⟨w.heap.size + 1 + 1 + 1, 1, none⟩ = some (.int .i64 0) := Blk.cell (unhide HB) 1
  have e2 : w2.cell? ⟨w.heap.size + 1 + 1 + 1, 2, none⟩ = some (.slice none 0 0) := Blk.cell (unhide HB) 2
  have f := Blk.free (unhide HB)
  clear RF
  go_wp2
  have b3 := unhide HB
  have P := putM b3 (.int .i64 0) (.int .i64 0) (.slice none 0 0)
  generalize (((w2.setCell ⟨w.heap.size + 1 + 1 + 1, 0, none⟩ (.int .i64 0)).setCell ⟨w.heap.size + 1 + 1 + 1, 1, none⟩ (.int .i64 0)).setCell ⟨w.heap.size + 1 + 1 + 1, 2, none⟩ (.slice none 0 0)) = wE at *
  have c0 : wE.cell? ⟨w.heap.size + 1 + 1 + 1, 0, none⟩ = some (.int .i64 0) := Blk.cell P.1 0
  have c1 : wE.cell? ⟨w.heap.size + 1 + 1 + 1, 1, none⟩ = some (.int .i64 0) := Blk.cell P.1 1
  have c2 : wE.cell? ⟨w.heap.size + 1 + 1 + 1, 2, none⟩ = some (.slice none 0 0) := Blk.cell P.1 2
  refine bodyPost_ret (v := .tuple #[.agg #[.int .i64 0, .int .i64 0, .slice none 0 0], .int .i64 1]) (by simp [results, Try.results19, go_sem, c0, c1, c2]) rfl ?_
  exact ⟨none, 0, w.heap.size, rfl, Nat.le_refl _, Or.inl rfl, Nat.le_refl _, (Kp.of (unhide HG)).mod P.2 (by omega)⟩


end Go.Proofs.Ytopaakjildmjcaa
