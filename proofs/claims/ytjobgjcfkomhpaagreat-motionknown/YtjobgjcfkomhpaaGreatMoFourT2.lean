/- MatI KitA MatL MatM OwnB MdlRb MatO PolyMath PolySt AppA MdlF PolyM1 MoMath MatN PolyL PolyA RegJ RegG PolyP RgU PolyT PolyU MatS MatSu MatAw MatKS PolyB PolyC, one after another, as far as MoFour wants them. -/
import Derived.Test.YtjobgjcfkomhpaaGreatProg
import Derived.Test.YtjobgjcfkomhpaaGreatRows
import Derived.Test.YtjobgjcfkomhpaaGreatMoFourT1
set_option linter.unusedVariables false
set_option linter.unusedSimpArgs false
namespace Go.Proofs.YtjobgjcfkomhpaaGreat
open Go.RowKit Go.Shelf Go.Proofs.Wd
set_option maxRecDepth 10000
theorem alloc3 (w : World) (c1 : Array Value) (t1 : TypeId) (c2 : Array Value) (t2 : TypeId) (c3 : Array Value) (t3 : TypeId) : Grown w (((w.alloc (.cells c1 t1)).alloc (.cells c2 t2)).alloc (.cells c3 t3)) ∧ (((w.alloc (.cells c1 t1)).alloc (.cells c2 t2)).alloc (.cells c3 t3)).heap.size = w.heap.size + 1 + 1 + 1 ∧ Blk (w.heap.size) c1 t1 (((w.alloc (.cells c1 t1)).alloc (.cells c2 t2)).alloc (.cells c3 t3)) ∧ Blk (w.heap.size + 1) c2 t2 (((w.alloc (.cells c1 t1)).alloc (.cells c2 t2)).alloc (.cells c3 t3)) ∧ Blk (w.heap.size + 1 + 1) c3 t3 (((w.alloc (.cells c1 t1)).alloc (.cells c2 t2)).alloc (.cells c3 t3)) := by
 have g1 : Grown w (w.alloc (.cells c1 t1)) := (Grown.refl _).alloc _ _
 have b1 := Blk.new w c1 t1
 have s1 : (w.alloc (.cells c1 t1)).heap.size = w.heap.size + 1 := by rw [World.size_alloc]
 generalize w.alloc (.cells c1 t1) = w1 at *
 have g2 : Grown w1 (w1.alloc (.cells c2 t2)) := (Grown.refl _).alloc _ _
 have b2 := Blk.new w1 c2 t2
 have s2 : (w1.alloc (.cells c2 t2)).heap.size = w.heap.size + 1 + 1 := by rw [World.size_alloc, s1]
 rw [s1] at b2
 generalize w1.alloc (.cells c2 t2) = w2 at *
 have g3 : Grown w2 (w2.alloc (.cells c3 t3)) := (Grown.refl _).alloc _ _
 have b3 := Blk.new w2 c3 t3
 have s3 : (w2.alloc (.cells c3 t3)).heap.size = w.heap.size + 1 + 1 + 1 := by rw [World.size_alloc, s2]
 rw [s2] at b3
 generalize w2.alloc (.cells c3 t3) = w3 at *
 refine ⟨gtrans (gtrans g1 g2) g3, s3, (Blk.grown (Blk.grown b1 g2) g3), (Blk.grown b2 g3), b3⟩
theorem alloc5 (w : World) (c1 : Array Value) (t1 : TypeId) (c2 : Array Value) (t2 : TypeId) (c3 : Array Value) (t3 : TypeId) (c4 : Array Value) (t4 : TypeId) (c5 : Array Value) (t5 : TypeId) : Grown w (((((w.alloc (.cells c1 t1)).alloc (.cells c2 t2)).alloc (.cells c3 t3)).alloc (.cells c4 t4)).alloc (.cells c5 t5)) ∧ (((((w.alloc (.cells c1 t1)).alloc (.cells c2 t2)).alloc (.cells c3 t3)).alloc (.cells c4 t4)).alloc (.cells c5 t5)).heap.size = w.heap.size + 1 + 1 + 1 + 1 + 1 ∧ Blk (w.heap.size) c1 t1 (((((w.alloc (.cells c1 t1)).alloc (.cells c2 t2)).alloc (.cells c3 t3)).alloc (.cells c4 t4)).alloc (.cells c5 t5)) ∧ Blk (w.heap.size + 1) c2 t2 (((((w.alloc (.cells c1 t1)).alloc (.cells c2 t2)).alloc (.cells c3 t3)).alloc (.cells c4 t4)).alloc (.cells c5 t5)) ∧ Blk (w.heap.size + 1 + 1) c3 t3 (((((w.alloc (.cells c1 t1)).alloc (.cells c2 t2)).alloc (.cells c3 t3)).alloc (.cells c4 t4)).alloc (.cells c5 t5)) ∧ Blk (w.heap.size + 1 + 1 + 1) c4 t4 (((((w.alloc (.cells c1 t1)).alloc (.cells c2 t2)).alloc (.cells c3 t3)).alloc (.cells c4 t4)).alloc (.cells c5 t5)) ∧ Blk (w.heap.size + 1 + 1 + 1 + 1) c5 t5 (((((w.alloc (.cells c1 t1)).alloc (.cells c2 t2)).alloc (.cells c3 t3)).alloc (.cells c4 t4)).alloc (.cells c5 t5)) := by
 have g1 : Grown w (w.alloc (.cells c1 t1)) := (Grown.refl _).alloc _ _
 have b1 := Blk.new w c1 t1
 have s1 : (w.alloc (.cells c1 t1)).heap.size = w.heap.size + 1 := by rw [World.size_alloc]
 generalize w.alloc (.cells c1 t1) = w1 at *
 have g2 : Grown w1 (w1.alloc (.cells c2 t2)) := (Grown.refl _).alloc _ _
 have b2 := Blk.new w1 c2 t2
 have s2 : (w1.alloc (.cells c2 t2)).heap.size = w.heap.size + 1 + 1 := by rw [World.size_alloc, s1]
 rw [s1] at b2
 generalize w1.alloc (.cells c2 t2) = w2 at *
 have g3 : Grown w2 (w2.alloc (.cells c3 t3)) := (Grown.refl _).alloc _ _
 have b3 := Blk.new w2 c3 t3
 have s3 : (w2.alloc (.cells c3 t3)).heap.size = w.heap.size + 1 + 1 + 1 := by rw [World.size_alloc, s2]
 rw [s2] at b3
 generalize w2.alloc (.cells c3 t3) = w3 at *
 have g4 : Grown w3 (w3.alloc (.cells c4 t4)) := (Grown.refl _).alloc _ _
 have b4 := Blk.new w3 c4 t4
 have s4 : (w3.alloc (.cells c4 t4)).heap.size = w.heap.size + 1 + 1 + 1 + 1 := by rw [World.size_alloc, s3]
 rw [s3] at b4
 generalize w3.alloc (.cells c4 t4) = w4 at *
 have g5 : Grown w4 (w4.alloc (.cells c5 t5)) := (Grown.refl _).alloc _ _
 have b5 := Blk.new w4 c5 t5
 have s5 : (w4.alloc (.cells c5 t5)).heap.size = w.heap.size + 1 + 1 + 1 + 1 + 1 := by rw [World.size_alloc, s4]
 rw [s4] at b5
 generalize w4.alloc (.cells c5 t5) = w5 at *
 refine ⟨gtrans (gtrans (gtrans (gtrans g1 g2) g3) g4) g5, s5, (Blk.grown (Blk.grown (Blk.grown (Blk.grown b1 g2) g3) g4) g5), (Blk.grown (Blk.grown (Blk.grown b2 g3) g4) g5), (Blk.grown (Blk.grown b3 g4) g5), (Blk.grown b4 g5), b5⟩
set_option maxHeartbeats 2000000 in
theorem matMul_ok (U : Nat) (c0 : Bool) (n0 : Int) (hn : 0 ≤ n0 ∧ n0 < 1152921504606846976) (r m c b o cap b2 o2 cap2 : Nat) (A B : Nat → Int) (hr : 1 ≤ r ∧ r ≤ 12) (hm : 1 ≤ m ∧ m ≤ 12) (hc : 1 ≤ c ∧ c ≤ 12) (hcap : r * m ≤ cap)
  (hA : ∀ j, j < r * m → I64 (A j)) (hB : ∀ j, j < m * c → I64 (B j)) (w : World) (h : UC U c0 n0 w) (za : ∀ j, j < r * m → w.cell? ⟨b, o + j, none⟩ = some (.int .i64 (A j))) (zb : ∀ j, j < m * c → w.cell? ⟨b2, o2 + j, none⟩ = some (.int .i64 (B j))) (n4 : b ≠ U) (n5 : b2 ≠ U) :
  Calls Tryz.prog 30 #[.pointer (some ⟨U, 0, none⟩), .agg #[.int .i64 r, .int .i64 m, .slice (some ⟨b, o, none⟩) (r * m) cap], .agg #[.int .i64 m, .int .i64 c, .slice (some ⟨b2, o2, none⟩) (m * c) cap2]] w fun e w' => MatP r c (r * c) (mulZ A B m c) 0 (fun w' => UC U (c0 || orC (mulG A B m c) (r * c)) (n0 + 2 * m * ((r * c : Nat) : Int)) w' ∧ Mk U w w') w e w' := by
 have hlt := Blk.lt h
 obtain ⟨G, s5, bu, ba, bb, br, bx⟩ := alloc5 w #[.pointer (some ⟨U, 0, none⟩)] 26 #[.int .i64 r, .int .i64 m, .slice (some ⟨b, o, none⟩) (r * m) cap] 38 #[.int .i64 m, .int .i64 c, .slice (some ⟨b2, o2, none⟩) (m * c) cap2] 38 #[.int .i64 0, .int .i64 0, .slice none 0 0] 38 #[.int .i64 r, .int .i64 m, .slice (some ⟨b, o, none⟩) (r * m) cap, .int .i64 m, .int .i64 c, .slice (some ⟨b2, o2, none⟩) (m * c) cap2] 38
 have RF := hide (refuse2 U c0 n0 ⟨hn.1, by omega⟩ r m (some ⟨b, o, none⟩) (r * m) cap m c (some ⟨b2, o2, none⟩) (m * c) cap2 (w.heap.size + 1 + 1 + 1 + 1) 0 (Or.inl ⟨⟨⟨by omega, by omega, by rw [Int.natCast_mul]⟩, ⟨by omega, by omega, by rw [Int.natCast_mul]⟩⟩, rfl⟩) _ (Blk.grown h G) bx (by omega))
 have TD : Hid (∀ wx, Mod U w wx → Calls Tryz.prog 64 #[.agg #[.int .i64 m, .int .i64 c, .slice (some ⟨b2, o2, none⟩) (m * c) cap2]] wx fun e w' => MadeP c m (turnZ B m c) (Kp wx) wx e w') := fun wx mu => matTurned m c b2 o2 cap2 B hm hc wx (fun j hj => mu.cell (zb j hj) n5)
 have MD : Hid (∀ (L Bc : Nat) wx, Mk U w wx → UC U c0 n0 wx → Blk (w.heap.size) #[.pointer (some ⟨U, 0, none⟩)] 26 wx → Blk (w.heap.size + 1) #[.int .i64 r, .int .i64 m, .slice (some ⟨b, o, none⟩) (r * m) cap] 38 wx → Blk Bc #[.int .i64 c, .int .i64 m, .slice (some ⟨L, 0, none⟩) (c * m) (c * m)] 38 wx → Blk L (ints (c * m) (turnZ B m c)) 3 wx → L ≠ U → Bc ≠ U →
   Calls Tryz.prog 66 #[.int .i64 r, .int .i64 c, .func (.func 67) #[] #[.pointer (some ⟨w.heap.size, 0, none⟩), .pointer (some ⟨w.heap.size + 1, 0, none⟩), .pointer (some ⟨Bc, 0, none⟩)]] wx fun e w' => MadeP r c (mulZ A B m c) (fun w' => UC U (c0 || orC (mulG A B m c) (r * c)) (n0 + 2 * m * ((r * c : Nat) : Int)) w' ∧ Mk U wx w') wx e w') := by
  intro L Bc wx mx ux xu xa xc xl nL nB
  refine madeU U c0 n0 (2 * m) (by omega) (mulG A B m c) 67 (enters_of Tryz.func67 (by kernel_rfl) rfl) _ r c hr hc (mulZ A B m c) wx hn ux (fun cc nn i k a hi hk hnn ua ma => ?_)
  have := mul1 U cc nn hnn r m c i k b o cap L w.heap.size (w.heap.size + 1) Bc A (turnZ B m c) hr hm hc hi hk hcap hA (turn_I64 B m c hB) a ua (Blk.mk xu ma (by omega)) (Blk.mk xa ma (by omega)) (Blk.mk xc ma nB)
   (fun j hj => ma.cell (mx.cell (za j hj) n4) n4) (fun j hj => by rw [Nat.zero_add, Blk.cell (Blk.mk xl ma nL), ints_at _ _ j hj]) (by omega) (by omega) nB n4 nL
  rw [(mul_rows A B m c i k hk).1, (mul_rows A B m c i k hk).2] at this
  exact this
 have HB := hide (And.intro bu (And.intro ba (And.intro bb br)))
 have HG := hide (And.intro G (And.intro s5 hlt))
 obtain ⟨la, hla⟩ : ∃ q, r * m = q := ⟨_, rfl⟩
 obtain ⟨lb, hlb⟩ : ∃ q, m * c = q := ⟨_, rfl⟩
 rw [hla, hlb] at RF HG HB
 rw [hlb] at TD
 rw [hla] at MD
 rw [hla, hlb]
 clear G s5 bu ba bb br bx h hlt za zb hA hB hr hm hc hcap hla hlb n4 n5 hn
 go_enter Tryz.func30, Tryz.ntmps30
 go_wp2_with fail
 generalize (((((w.alloc (.cells #[.pointer (some ⟨U, 0, none⟩)] 26)).alloc (.cells #[.int .i64 r, .int .i64 m, .slice (some ⟨b, o, none⟩) la cap] 38)).alloc (.cells #[.int .i64 m, .int .i64 c, .slice (some ⟨b2, o2, none⟩) lb cap2] 38)).alloc (.cells #[.int .i64 0, .int .i64 0, .slice none 0 0] 38)).alloc (.cells #[.int .i64 r, .int .i64 m, .slice (some ⟨b, o, none⟩) la cap, .int .i64 m, .int .i64 c, .slice (some ⟨b2, o2, none⟩) lb cap2] 38)) = w1 at *
 refine (unhide RF).mono ?_
 rintro e w2 ⟨rfl, u2, m2⟩
 have M2 : Hid (Mod U w w2) := (Mod.of (unhide HG).1).trans m2
 have Z2 : Hid (w.heap.size + 1 + 1 + 1 + 1 + 1 ≤ w2.heap.size) := by have := (unhide HG).2.1; have := m2.2.2.2.2; show _ ≤ _; omega
 obtain ⟨bu, ba, bb, br⟩ := unhide HB
 have lU : Hid (U < w.heap.size) := (unhide HG).2.2
 have bu2 := Blk.keep bu m2 (by have := unhide lU; omega)
 have ba2 := Blk.keep ba m2 (by have := unhide lU; omega)
 have bb2 := Blk.keep bb m2 (by have := unhide lU; omega)
 have br2 := Blk.keep br m2 (by have := unhide lU; omega)
 have p1 : w2.cell? ⟨w.heap.size + 1, 0, none⟩ = some (.int .i64 r) := Blk.cell ba2 0
 have p2 : w2.cell? ⟨w.heap.size + 1, 1, none⟩ = some (.int .i64 m) := Blk.cell ba2 1
 have q0 : w2.cell? ⟨w.heap.size + 1 + 1, 0, none⟩ = some (.int .i64 m) := Blk.cell bb2 0
 have q1 : w2.cell? ⟨w.heap.size + 1 + 1, 1, none⟩ = some (.int .i64 c) := Blk.cell bb2 1
 have q2 : w2.cell? ⟨w.heap.size + 1 + 1, 2, none⟩ = some (.slice (some ⟨b2, o2, none⟩) lb cap2) := Blk.cell bb2 2
 have H2 := hide (And.intro u2 (And.intro bu2 (And.intro ba2 (And.intro bb2 br2))))
 have T2 := hide (unhide TD w2 (unhide M2))
 clear bu ba bb br bu2 ba2 bb2 br2 u2 m2 RF TD HB
 go_wp2_with fail
 refine (unhide T2).mono ?_
 rintro e w3 ⟨L, h1, rfl, h3, k3⟩
 have G3 : Hid (Grown w3 (w3.alloc (.cells #[.int .i64 c, .int .i64 m, .slice (some ⟨L, 0, none⟩) (c * m) (c * m)] 38))) := (Grown.refl _).alloc _ _
 have HC : Hid (Blk w3.heap.size #[.int .i64 c, .int .i64 m, .slice (some ⟨L, 0, none⟩) (c * m) (c * m)] 38 (w3.alloc (.cells #[.int .i64 c, .int .i64 m, .slice (some ⟨L, 0, none⟩) (c * m) (c * m)] 38))) := Blk.new w3 _ _
 have K4 : Hid (Kp w2 (w3.alloc (.cells #[.int .i64 c, .int .i64 m, .slice (some ⟨L, 0, none⟩) (c * m) (c * m)] 38))) := k3.grown (unhide G3)
 have nL : Hid (L ≠ U ∧ w3.heap.size ≠ U) := by
  have := Blk.lt (unhide H2).1
  have := k3.2.2.2
  show L ≠ U ∧ w3.heap.size ≠ U
  omega
 have L3 : Hid (w2.heap.size ≤ L ∧ Blk L (ints (c * m) (turnZ B m c)) 3 (w3.alloc (.cells #[.int .i64 c, .int .i64 m, .slice (some ⟨L, 0, none⟩) (c * m) (c * m)] 38))) := ⟨h1, Blk.grown h3 (unhide G3)⟩
 clear h1 h3 k3 T2 G3
 generalize hw4 : w3.alloc (.cells #[.int .i64 c, .int .i64 m, .slice (some ⟨L, 0, none⟩) (c * m) (c * m)] 38) = w4 at HC K4 L3
 have r1 : w4.cell? ⟨w.heap.size + 1, 0, none⟩ = some (.int .i64 r) := Blk.cell (Blk.kp (unhide H2).2.2.1 (unhide K4)) 0
 have r2 : w4.cell? ⟨w.heap.size + 1 + 1, 1, none⟩ = some (.int .i64 c) := Blk.cell (Blk.kp (unhide H2).2.2.2.1 (unhide K4)) 1
 have M4 := hide (unhide MD L w3.heap.size w4 ((Mk.of (unhide M2)).trans ⟨(unhide K4).1, (unhide K4).2.1, fun k hk _ => (unhide K4).2.2.1 k hk, (unhide K4).2.2.2⟩) (Blk.kp (unhide H2).1 (unhide K4)) (Blk.kp (unhide H2).2.1 (unhide K4)) (Blk.kp (unhide H2).2.2.1 (unhide K4)) (unhide HC) (unhide L3).2 (unhide nL).1 (unhide nL).2)
 clear MD p1 p2 q0 q1 q2
 go_wp2_with fail
 clear hw4
 refine (unhide M4).mono ?_
 rintro e w5 ⟨Lb, h1, rfl, h3, u5, mk5⟩
 have b3 : Blk (w.heap.size + 1 + 1 + 1) #[.int .i64 0, .int .i64 0, .slice none 0 0] 38 w5 := Blk.mk (Blk.kp (unhide H2).2.2.2.2 (unhide K4)) mk5 (by have := unhide lU; omega)
 have e0 : w5.cell? ⟨w.heap.size + 1 + 1 + 1, 0, none⟩ = some (.int .i64 0) := Blk.cell b3 0
 have e1 : w5.cell? ⟨w.heap.size + 1 + 1 + 1, 1, none⟩ = some (.int .i64 0) := Blk.cell b3 1
 have e2 : w5.cell? ⟨w.heap.size + 1 + 1 + 1, 2, none⟩ = some (.slice none 0 0) := Blk.cell b3 2
 have f := Blk.free b3
 have R := hide (And.intro b3 (And.intro h1 (And.intro h3 (And.intro u5 mk5))))
 clear b3 h1 h3 u5 mk5 M4 r1 r2
 go_wp2
 obtain ⟨b3, h1, h3, u5, mk5⟩ := unhide R

 have P := putM b3 (.int .i64 r) (.int .i64 c) (.slice (some ⟨Lb, 0, none⟩) (r * c) (r * c))
 generalize (((w5.setCell ⟨w.heap.size + 1 + 1 + 1, 0, none⟩ (.int .i64 r)).setCell ⟨w.heap.size + 1 + 1 + 1, 1, none⟩ (.int .i64 c)).setCell ⟨w.heap.size + 1 + 1 + 1, 2, none⟩ (.slice (some ⟨Lb, 0, none⟩) (r * c) (r * c))) = wE at *
 have c0 : wE.cell? ⟨w.heap.size + 1 + 1 + 1, 0, none⟩ = some (.int .i64 r) := Blk.cell P.1 0
 have c1 : wE.cell? ⟨w.heap.size + 1 + 1 + 1, 1, none⟩ = some (.int .i64 c) := Blk.cell P.1 1
 have c2 : wE.cell? ⟨w.heap.size + 1 + 1 + 1, 2, none⟩ = some (.slice (some ⟨Lb, 0, none⟩) (r * c) (r * c)) := Blk.cell P.1 2
 refine bodyPost_ret (v := .tuple #[.agg #[.int .i64 r, .int .i64 c, .slice (some ⟨Lb, 0, none⟩) (r * c) (r * c)], .int .i64 0]) (by simp [results, Tryz.results30, go_sem, c0, c1, c2]) rfl ?_
 have hz := unhide Z2
 have hk := (unhide K4).2.2.2
 have hu := unhide lU
 have mw : Mk U w w4 := (Mk.of (unhide M2)).trans ⟨(unhide K4).1, (unhide K4).2.1, fun k hk _ => (unhide K4).2.2.1 k hk, (unhide K4).2.2.2⟩
 have hw5 := (mw.trans mk5).2.2.2
 exact ⟨_, _, Lb, rfl, by omega, Or.inr ⟨rfl, Blk.keep h3 P.2 (by omega)⟩, Nat.le_refl _, Blk.keep u5 P.2 (by omega), (mw.trans mk5).new P.2 (by omega)⟩
end Go.Proofs.YtjobgjcfkomhpaaGreat
namespace Go.Proofs.YtjobgjcfkomhpaaGreat
open Go.RowKit Go.Proofs.Wd
set_option maxRecDepth 10000
attribute [local go_sem ↓] Go.wp_at_zero Go.wp_at_succ
set_option maxHeartbeats 1000000 in
theorem kitSameQ (ao bo : Option Addr) (len c1 c2 : Nat) (X : Nat → Int) (hl : len ≤ 1000000) (w : World) (hr : Row w ao len X) (ht : Row w bo len X) :
  Calls Tryz.prog 48 #[.slice ao len c1, .slice bo len c2] w fun e w' => e = .returned (.bool true) ∧ ∃ n, w' = w.drewN n := by
 have HR := hide hr
 have HT := hide ht
 clear hr ht
 go_enter Tryz.func48, Tryz.ntmps48
 go_wp2
 go_loopw [5] (fun i wr => ∃ k : Nat, k ≤ len ∧ i = .int .i64 k ∧ Hid (∃ n, wr = w.drewN n)) (fun i _ => len - (intOf i).toNat)
 case atStart => exact ⟨0, Nat.zero_le _, rfl, 0, rfl⟩
 case round =>
  obtain ⟨k, hk, rfl, nn, rfl⟩ := hrel
  by_cases hlt : k < len
  ·obtain ⟨b1, o1, rfl, hc1⟩ := (unhide HR).at hlt
   obtain ⟨b2, o2, rfl, hc2⟩ := (unhide HT).at hlt
   generalize X k = x at *
   have i0 : (0 : Int) ≤ (k : Int) := by omega
   have i1 : (k : Int) < (len : Int) := by omega
   go_wp2
   go_quiet (fail)
   go_wp2
   go_roundw
   case rel => exact ⟨k + 1, by omega, by go_num, _, rfl⟩
   case measure => simp [intOf]; omega
  ·obtain rfl : k = len := by omega
   go_wp2
   go_ret
   exact ⟨rfl, _, rfl⟩
end Go.Proofs.YtjobgjcfkomhpaaGreat
namespace Go.Proofs.YtjobgjcfkomhpaaGreat
open Go.RowKit Go.Shelf Go.Proofs.Wd
set_option maxRecDepth 10000
def Own (B len : Nat) (Z : Nat → Int) (w : World) : Prop := ∃ cur, Blk B cur 3 w ∧ ∀ i, i < len → cur[i]? = some (.int .i64 (Z i))
theorem Own.of {B len : Nat} {Z : Nat → Int} {w : World} (h : Blk B (ints len Z) 3 w) : Own B len Z w := ⟨_, h, fun i hi => ints_at len Z i hi⟩
theorem Own.row {B len : Nat} {Z : Nat → Int} {w : World} (h : Own B len Z w) : Row w (some ⟨B, 0, none⟩) len Z := by
 obtain ⟨cur, h1, h2⟩ := h
 refine Or.inr ⟨B, 0, rfl, fun i hi => ?_⟩
 rw [Nat.zero_add, Blk.cell h1, h2 i hi]
theorem Own.kp {B len : Nat} {Z : Nat → Int} {w w' : World} (h : Own B len Z w) (k : Kp w w') : Own B len Z w' := let ⟨cur, h1, h2⟩ := h; ⟨cur, Blk.kp h1 k, h2⟩
theorem Own.mk {B len U : Nat} {Z : Nat → Int} {w w' : World} (h : Own B len Z w) (k : Mk U w w') (hne : B ≠ U) : Own B len Z w' := let ⟨cur, h1, h2⟩ := h; ⟨cur, Blk.mk h1 k hne, h2⟩
theorem Own.by {B len : Nat} {Z : Nat → Int} {w w' : World} {row : Option Nat} (h : Own B len Z w) (k : w.grownBy w' row) (hne : some B ≠ row) : Own B len Z w' := let ⟨cur, h1, h2⟩ := h; ⟨cur, Blk.by h1 k hne, h2⟩
theorem owns_own {w : World} {base n : Nat} {v : Value} {Z : Nat → Int} (hn : 1 ≤ n) (h : w.ownsRow base 3 1 v n ((List.range n).map fun i => Value.int .i64 (Z i))) : ∃ B cap, v = .slice (some ⟨B, 0, none⟩) n cap ∧ base ≤ B ∧ Own B n Z w := by
 rcases h.2 with ⟨rfl, rfl⟩ | ⟨g, cap, cur, rfl, hb, hg, hn', _, hsz, hxs⟩
 ·omega
 ·refine ⟨g, cap, rfl, hb, cur, hg, fun i hi => ?_⟩
  have e : (cur.toList.take (n * 1))[i]? = some (.int .i64 (Z i)) := by rw [hxs]; simp [hi]
  rw [List.getElem?_take, if_pos (by omega)] at e
  simpa using e
section
attribute [local go_sem] Oper.semAt_some
end
end Go.Proofs.YtjobgjcfkomhpaaGreat
namespace Go.Proofs.YtjobgjcfkomhpaaGreat
open Go.RowKit Go.Shelf Go.Proofs.Wd
set_option maxRecDepth 10000
theorem owns_rowC {w : World} {base n : Nat} {v : Value} {Z : Nat → Int} (h : w.ownsRow base 3 1 v n ((List.range n).map fun i => Value.int .i64 (Z i))) : ∃ ao cap, v = .slice ao n cap ∧ n ≤ cap ∧ Row w ao n Z ∧ ∀ U, U < base → Off U n ao := by
 obtain ⟨ao, cap, rfl, h1, h2⟩ := owns_row h
 rcases h.2 with ⟨e, rfl⟩ | ⟨g, cap', cur, e, hb, hg, hn, _⟩
 ·exact ⟨ao, cap, rfl, Nat.zero_le _, h1, h2⟩
 ·injection e with e1 e2 e3
  exact ⟨ao, cap, rfl, by omega, h1, h2⟩
set_option maxHeartbeats 1000000 in
theorem kitSameM (r c : Int) (ao bo : Option Addr) (len c1 c2 : Nat) (X : Nat → Int) (hl : len ≤ 1000000) (w : World) (hr : Row w ao len X) (ht : Row w bo len X) :
  Calls Tryz.prog 19 #[.agg #[.int .i64 r, .int .i64 c, .slice ao len c1], .agg #[.int .i64 r, .int .i64 c, .slice bo len c2]] w fun e w' => e = .returned (.bool true) ∧ Kp w w' := by
 have G : Grown w ((w.alloc (.cells #[.int .i64 r, .int .i64 c, .slice ao len c1] 38)).alloc (.cells #[.int .i64 r, .int .i64 c, .slice bo len c2] 38)) := ((Grown.refl _).alloc _ _).alloc _ _
 have S := hide (kitSameQ ao bo len c1 c2 X hl _ (hr.grown G) (ht.grown G))
 have HG := hide G
 clear G hr ht
 go_enter Tryz.func19, Tryz.ntmps19
 go_wp2_with fail
 refine (unhide S).mono ?_
 rintro e w2 ⟨rfl, n, rfl⟩
 have K : Hid (Kp w (((w.alloc (.cells #[.int .i64 r, .int .i64 c, .slice ao len c1] 38)).alloc (.cells #[.int .i64 r, .int .i64 c, .slice bo len c2] 38)).drewN n)) := Kp.of (unhide HG)
 go_wp2
 go_ret
 exact ⟨rfl, unhide K⟩
theorem noPanic_normalE {Q : Exit → Act → World → Prop} {a : Act} {w : World} (h : Q .normal a w) : NoPanic Q .normal a w := h
theorem wrapPi (a b p : Nat) (h : a * b = p) (hp : p ≤ 1000000) : IntKind.i64.wrap ((a : Int) * (b : Int)) = (p : Int) := by
 rw [IntKind.wrap_i64, ← Int.natCast_mul, h]
 omega
theorem wrapAi (a b p : Nat) (h : a + b = p) (hp : p ≤ 1000000) : IntKind.i64.wrap ((a : Int) + (b : Int)) = (p : Int) := by
 rw [IntKind.wrap_i64, ← Int.natCast_add, h]
 omega
theorem Own.congr {B len : Nat} {Z Y : Nat → Int} {w : World} (h : Own B len Z w) (e : ∀ i, i < len → Z i = Y i) : Own B len Y w := let ⟨cur, h1, h2⟩ := h; ⟨cur, h1, fun i hi => by rw [h2 i hi, e i hi]⟩
theorem Own.cellAt {B len : Nat} {Z : Nat → Int} {w : World} (h : Own B len Z w) (k : Nat) (hk : k < len) : w.cell? ⟨B, k, none⟩ = some (.int .i64 (Z k)) := let ⟨cur, h1, h2⟩ := h; by rw [Blk.cell h1, h2 k hk]
theorem owns_ownC {w : World} {base n : Nat} {v : Value} {Z : Nat → Int} (hn : 1 ≤ n) (h : w.ownsRow base 3 1 v n ((List.range n).map fun i => Value.int .i64 (Z i))) : ∃ B cap, v = .slice (some ⟨B, 0, none⟩) n cap ∧ n ≤ cap ∧ base ≤ B ∧ Own B n Z w := by
 obtain ⟨B, cap, rfl, h1, h2⟩ := owns_own hn h
 obtain ⟨ao, cap', e, h3, _⟩ := owns_rowC h
 cases e
 exact ⟨B, cap, rfl, h3, h1, h2⟩
end Go.Proofs.YtjobgjcfkomhpaaGreat
namespace Go.Proofs.YtjobgjcfkomhpaaGreat
open Go.RowKit Go.Shelf Go.Proofs.Wd
set_option maxRecDepth 10000
attribute [local go_sem ↓] Go.wp_at_zero Go.wp_at_succ
def okC (N : Int) (al ql rl : Nat) (A Q : Nat → Int) (tick gate rmin : Int) (X : Nat → RV) : Prop := (1 ≤ N ∧ N ≤ 6) ∧ okMoves N.toNat al ql A Q ∧ (1 ≤ tick ∧ tick ≤ 4294967296) ∧ 1 ≤ gate ∧ 1 ≤ rmin ∧ rl ≤ 24 ∧ ∀ i, i < rl → okRow N rmin (lastS X i) (X i)
open Classical in
noncomputable def chkC (N : Int) (al ql rl : Nat) (A Q : Nat → Int) (tick gate rmin : Int) (X : Nat → RV) : Int := if okC N al ql rl A Q tick gate rmin X then 0 else 2
theorem chkC_yes {N : Int} {al ql rl : Nat} {A Q : Nat → Int} {tick gate rmin : Int} {X : Nat → RV} (h : okC N al ql rl A Q tick gate rmin X) : chkC N al ql rl A Q tick gate rmin X = 0 := if_pos h
theorem chkC_no {N : Int} {al ql rl : Nat} {A Q : Nat → Int} {tick gate rmin : Int} {X : Nat → RV} (h : ¬ okC N al ql rl A Q tick gate rmin X) : chkC N al ql rl A Q tick gate rmin X = 2 := if_neg h
theorem chkD_C (m : DV) : chkD m = chkC m.N m.A.len m.Q.len m.rl m.A.Z m.Q.Z m.tick m.gate m.rmin m.X := rfl
end Go.Proofs.YtjobgjcfkomhpaaGreat
namespace Go.Proofs.YtjobgjcfkomhpaaGreat
open Go.RowKit Go.Shelf Go.Proofs.Wd
set_option maxRecDepth 10000
theorem off_at {U len : Nat} {b o : Nat} (h : Off U len (some ⟨b, o, none⟩)) (hl : 1 ≤ len) : b ≠ U := h (by omega) _ rfl
section
variable {w : World} {E : List Nat} {bx : List (Nat × Array Value)} {rows : List (Option Addr × Nat × (Nat → Int))} {wx w' : World}
end
end Go.Proofs.YtjobgjcfkomhpaaGreat
namespace Go.Proofs.Wd
def dvZ (Y : Nat → Int) (m : Nat) : Nat → Int := fun j => divN (Y j) (whoN (m : Int))
def dvG (Y : Nat → Int) (m : Nat) : Nat → Bool := fun j => whoC (m : Int) || divC (Y j) (whoN (m : Int))
def oneF : Nat → Int := fun _ => 4294967296
def termZ (A : Nat → Int) (n : Nat) : Nat → Nat → Int
 | 0 => diagZ oneF n
 | m + 1 => dvZ (mulZ (termZ A n m) A n n) (m + 1)
def termC (A : Nat → Int) (n : Nat) : Nat → Bool
 | 0 => false
 | m + 1 => termC A n m || orC (mulG (termZ A n m) A n n) (n * n) || orC (dvG (mulZ (termZ A n m) A n n) (m + 1)) (n * n)
theorem divN_I64 (a b : Int) : I64 (divN a b) := fitI_I64 _
theorem whoN_I64 (a : Int) : I64 (whoN a) := fitI_I64 _
theorem termZ_I64 (A : Nat → Int) (n : Nat) : ∀ m p, p < n * n → I64 (termZ A n m p)
 | 0, p, hp => diagZ_I64 _ n (fun _ _ => by show I64 4294967296; unfold I64; omega) p hp
 | m + 1, p, _ => divN_I64 _ _
def hoZ (V M : Nat → Int) (t : Int) : Nat → Int := fun p => s2N (m2N (V p) t) (M p)
def hoC (V M : Nat → Int) (t : Int) (nn : Nat) : Bool := orC (fun p => m2C (V p) t) nn || orC (fun p => s2C (m2N (V p) t) (M p)) nn
def horZ (X : Nat → Nat → Int) (n : Nat) (t : Int) : Nat → Nat → Int
 | 0 => X n
 | k + 1 => hoZ (horZ X n t k) (X (n - (k + 1))) t
def horC (X : Nat → Nat → Int) (n : Nat) (t : Int) (nn : Nat) : Nat → Bool
 | 0 => false
 | k + 1 => horC X n t nn k || hoC (horZ X n t k) (X (n - (k + 1))) t nn
theorem horZ_I64 (X : Nat → Nat → Int) (n : Nat) (t : Int) (nn : Nat) (h : ∀ p, p < nn → I64 (X n p)) : ∀ k p, p < nn → I64 (horZ X n t k p)
 | 0, p, hp => h p hp
 | k + 1, p, _ => s2N_I64 _ _
theorem hor_congr (X Y : Nat → Nat → Int) (n : Nat) (t : Int) (nn : Nat) (h : ∀ i, i ≤ n → ∀ p, p < nn → X i p = Y i p) : ∀ k, (∀ p, p < nn → horZ X n t k p = horZ Y n t k p) ∧ horC X n t nn k = horC Y n t nn k
 | 0 => ⟨h n (Nat.le_refl _), rfl⟩
 | k + 1 => by
  obtain ⟨h1, h2⟩ := hor_congr X Y n t nn h k
  refine ⟨fun p hp => ?_, ?_⟩
  ·show s2N (m2N (horZ X n t k p) t) (X (n - (k + 1)) p) = s2N (m2N (horZ Y n t k p) t) (Y (n - (k + 1)) p)
   rw [h1 p hp, h (n - (k + 1)) (by omega) p hp]
  ·show (horC X n t nn k || (orC _ nn || orC _ nn)) = (horC Y n t nn k || (orC _ nn || orC _ nn))
   rw [h2, orC_congr (fun p => m2C (horZ X n t k p) t) (fun p => m2C (horZ Y n t k p) t) nn (fun p hp => by rw [h1 p hp]), orC_congr (fun p => s2C (m2N (horZ X n t k p) t) (X (n - (k + 1)) p)) (fun p => s2C (m2N (horZ Y n t k p) t) (Y (n - (k + 1)) p)) nn (fun p hp => by rw [h1 p hp, h (n - (k + 1)) (by omega) p hp])]
def upRow (A : Nat → Int) (c i : Nat) : Nat → Bool
 | 0 => true
 | k + 1 => upRow A c i k && A (i * c + k) == 0
def upTo (A : Nat → Int) (c : Nat) : Nat → Bool
 | 0 => true
 | i + 1 => upTo A c i && upRow A c i (i + 1)
theorem upRow_true (A : Nat → Int) (c i : Nat) : ∀ k, upRow A c i k = true ↔ ∀ j, j < k → A (i * c + j) = 0
 | 0 => by simp [upRow]
 | k + 1 => by
  show (upRow A c i k && A (i * c + k) == 0) = true ↔ _
  rw [Bool.and_eq_true, upRow_true A c i k, beq_iff_eq]
  refine ⟨fun h j hj => ?_, fun h => ⟨fun j hj => h j (by omega), h k (by omega)⟩⟩
  by_cases e : j = k
  ·subst e; exact h.2
  ·exact h.1 j (by omega)
theorem upTo_true (A : Nat → Int) (c : Nat) : ∀ n, upTo A c n = true ↔ ∀ i, i < n → ∀ j, j ≤ i → A (i * c + j) = 0
 | 0 => by simp [upTo]
 | n + 1 => by
  show (upTo A c n && upRow A c n (n + 1)) = true ↔ _
  rw [Bool.and_eq_true, upTo_true A c n, upRow_true A c n]
  refine ⟨fun h i hi j hj => ?_, fun h => ⟨fun i hi => h i (by omega), fun j hj => h n (by omega) j (by omega)⟩⟩
  by_cases e : i = n
  ·subst e; exact h.2 j (by omega)
  ·exact h.1 i (by omega) j hj
end Go.Proofs.Wd
namespace Go.Proofs.YtjobgjcfkomhpaaGreat
open Go.RowKit Go.Shelf Go.Proofs.Wd
set_option maxRecDepth 10000
def DepL (D : List Nat) (p : World → Prop) : Prop := ∀ w w' : World, (∀ k ∈ D, w'.heap[k]? = w.heap[k]?) → p w → p w'
def MkL (D : List Nat) (w w' : World) : Prop := w'.os = w.os ∧ w'.output = w.output ∧ (∀ k, k < w.heap.size → k ∉ D → w'.heap[k]? = w.heap[k]?) ∧ w.heap.size ≤ w'.heap.size
theorem MkL.one {U : Nat} {w w' : World} (m : Mk U w w') : MkL [U] w w' := ⟨m.1, m.2.1, fun k hk h => m.2.2.1 k hk (fun e => h (by rw [e]; simp)), m.2.2.2⟩
theorem MkL.kp {w w' : World} (m : Kp w w') (D : List Nat) : MkL D w w' := ⟨m.1, m.2.1, fun k hk _ => m.2.2.1 k hk, m.2.2.2⟩
abbrev Ob := List Nat × (World → Prop)
def blksOf (es : List Ob) : List Nat := es.flatMap fun c => c.1
def ST (w : World) (es fs : List Ob) (wx : World) : Prop :=
 Kp w wx ∧ (∀ c ∈ es, c.2 wx ∧ DepL c.1 c.2) ∧ (blksOf es).Nodup ∧ (∀ k ∈ blksOf es, w.heap.size ≤ k ∧ k < wx.heap.size) ∧ (∀ f ∈ fs, f.2 wx ∧ DepL f.1 f.2 ∧ ∀ k ∈ f.1, k < wx.heap.size ∧ k ∉ blksOf es)
section
variable {w wx w' : World} {es pre post fs : List Ob} {D D' : List Nat} {p p' : World → Prop}
theorem blks_mid (pre post : List Ob) (D : List Nat) (p : World → Prop) : blksOf (pre ++ (D, p) :: post) = blksOf pre ++ (D ++ blksOf post) := by
 unfold blksOf
 rw [List.flatMap_append, List.flatMap_cons]
theorem mem_blks {es : List Ob} {c : Ob} (hc : c ∈ es) {k : Nat} (hk : k ∈ c.1) : k ∈ blksOf es := List.mem_flatMap.2 ⟨c, hc, hk⟩
theorem ST.nil (w : World) : ST w [] [] w := ⟨Kp.refl _, fun _ h => absurd h List.not_mem_nil, List.nodup_nil, fun _ h => absurd h List.not_mem_nil, fun _ h => absurd h List.not_mem_nil⟩
theorem ST.keep (h : ST w es fs wx) : Kp w wx := h.1
theorem ST.kp (h : ST w es fs wx) (k : Kp wx w') : ST w es fs w' :=
 ⟨h.1.trans k, fun c hc => ⟨(h.2.1 c hc).2 wx w' (fun i hi => k.2.2.1 i (h.2.2.2.1 i (mem_blks hc hi)).2) (h.2.1 c hc).1, (h.2.1 c hc).2⟩, h.2.2.1, fun i hi => ⟨(h.2.2.2.1 i hi).1, Nat.lt_of_lt_of_le (h.2.2.2.1 i hi).2 k.2.2.2⟩,
  fun f hf => ⟨(h.2.2.2.2 f hf).2.1 wx w' (fun i hi => k.2.2.1 i ((h.2.2.2.2 f hf).2.2 i hi).1) (h.2.2.2.2 f hf).1, (h.2.2.2.2 f hf).2.1, fun i hi => ⟨Nat.lt_of_lt_of_le ((h.2.2.2.2 f hf).2.2 i hi).1 k.2.2.2, ((h.2.2.2.2 f hf).2.2 i hi).2⟩⟩⟩
theorem ST.mk (pre : List Ob) (h : ST w (pre ++ (D, p) :: post) fs wx) (m : MkL D wx w') (hp : p' w') (hd : DepL D' p') (hn : D'.Nodup) (hD : ∀ k ∈ D', k ∈ D ∨ (wx.heap.size ≤ k ∧ k < w'.heap.size)) : ST w (pre ++ (D', p') :: post) fs w' := by
 obtain ⟨h1, h2, h3, h4, h5⟩ := h
 rw [blks_mid] at h3 h4 h5
 obtain ⟨n1, n2, n3⟩ := List.nodup_append.1 h3
 obtain ⟨n4, n5, n6⟩ := List.nodup_append.1 n2
 have out : ∀ c : Ob, c ∈ pre ∨ c ∈ post → ∀ i ∈ c.1, i ∉ D := fun c hc i hi hd => by
  rcases hc with hc | hc
  ·exact n3 i (mem_blks hc hi) i (List.mem_append_left _ hd) rfl
  ·exact n6 i hd i (mem_blks hc hi) rfl
 have lt : ∀ c : Ob, c ∈ pre ∨ c ∈ post → ∀ i ∈ c.1, i < wx.heap.size := fun c hc i hi => by
  rcases hc with hc | hc
  ·exact (h4 i (List.mem_append_left _ (mem_blks hc hi))).2
  ·exact (h4 i (List.mem_append_right _ (List.mem_append_right _ (mem_blks hc hi)))).2
 have old : ∀ c : Ob, c ∈ pre ∨ c ∈ post → c.2 w' ∧ DepL c.1 c.2 := fun c hc => by
  have hm : c ∈ pre ++ (D, p) :: post := by
   rcases hc with hc | hc
   ·exact List.mem_append_left _ hc
   ·exact List.mem_append_right _ (List.mem_cons_of_mem _ hc)
  exact ⟨(h2 c hm).2 wx w' (fun i hi => m.2.2.1 i (lt c hc i hi) (out c hc i hi)) (h2 c hm).1, (h2 c hm).2⟩
 refine ⟨⟨m.1.trans h1.1, m.2.1.trans h1.2.1, fun i hi => (m.2.2.1 i (Nat.lt_of_lt_of_le hi h1.2.2.2) (fun hd => ?_)).trans (h1.2.2.1 i hi), Nat.le_trans h1.2.2.2 m.2.2.2⟩, fun c hc => ?_, ?_, fun k hk => ?_, fun f hf => ⟨(h5 f hf).2.1 wx w' (fun i hi => m.2.2.1 i ((h5 f hf).2.2 i hi).1 (fun hd => ((h5 f hf).2.2 i hi).2 (List.mem_append_right _ (List.mem_append_left _ hd)))) (h5 f hf).1, (h5 f hf).2.1, fun i hi => ⟨Nat.lt_of_lt_of_le ((h5 f hf).2.2 i hi).1 m.2.2.2, fun hk => ?_⟩⟩⟩
 ·have := (h4 i (List.mem_append_right _ (List.mem_append_left _ hd))).1
  omega
 ·rcases List.mem_append.1 hc with hc | hc
  ·exact old c (Or.inl hc)
  ·rcases List.mem_cons.1 hc with rfl | hc
   ·exact ⟨hp, hd⟩
   ·exact old c (Or.inr hc)
 ·rw [blks_mid]
  refine List.nodup_append.2 ⟨n1, List.nodup_append.2 ⟨hn, n5, fun a ha b hb e => ?_⟩, fun a ha b hb e => ?_⟩
  ·subst e
   rcases hD a ha with hx | hx
   ·exact n6 a hx a hb rfl
   ·have := (h4 a (List.mem_append_right _ (List.mem_append_right _ hb))).2; omega
  ·subst e
   rcases List.mem_append.1 hb with hb | hb
   ·rcases hD a hb with hx | hx
    ·exact n3 a ha a (List.mem_append_left _ hx) rfl
    ·have := (h4 a (List.mem_append_left _ ha)).2; omega
   ·exact n3 a ha a (List.mem_append_right _ hb) rfl
 ·rw [blks_mid] at hk
  rcases List.mem_append.1 hk with hk | hk
  ·have := h4 k (List.mem_append_left _ hk); exact ⟨this.1, Nat.lt_of_lt_of_le this.2 m.2.2.2⟩
  ·rcases List.mem_append.1 hk with hk | hk
   ·rcases hD k hk with hx | hx
    ·have := h4 k (List.mem_append_right _ (List.mem_append_left _ hx)); exact ⟨this.1, Nat.lt_of_lt_of_le this.2 m.2.2.2⟩
    ·exact ⟨Nat.le_trans h1.2.2.2 hx.1, hx.2⟩
   ·have := h4 k (List.mem_append_right _ (List.mem_append_right _ hk)); exact ⟨this.1, Nat.lt_of_lt_of_le this.2 m.2.2.2⟩
 ·rw [blks_mid] at hk
  have hlt := ((h5 f hf).2.2 i hi).1
  have hno := ((h5 f hf).2.2 i hi).2
  rcases List.mem_append.1 hk with hk | hk
  ·exact hno (List.mem_append_left _ hk)
  ·rcases List.mem_append.1 hk with hk | hk
   ·rcases hD i hk with hx | hx
    ·exact hno (List.mem_append_right _ (List.mem_append_left _ hx))
    ·omega
   ·exact hno (List.mem_append_right _ (List.mem_append_right _ hk))
theorem ST.push (h : ST w es fs wx) (k : Kp wx w') (hp : p w') (hd : DepL D p) (hn : D.Nodup) (hD : ∀ k ∈ D, wx.heap.size ≤ k ∧ k < w'.heap.size) : ST w ((D, p) :: es) fs w' := by
 have h' : ST w ([] ++ (([] : List Nat), fun _ => True) :: es) fs wx := ⟨h.1, fun c hc => by
  rcases List.mem_cons.1 hc with rfl | hc
  ·exact ⟨trivial, fun _ _ _ _ => trivial⟩
  ·exact h.2.1 c hc, h.2.2.1, h.2.2.2.1, h.2.2.2.2⟩
 exact ST.mk [] h' (MkL.kp k []) hp hd hn (fun k hk => Or.inr (hD k hk))
theorem ST.fact (h : ST w es fs wx) (hp : p wx) (hd : DepL D p) (hD : ∀ k ∈ D, k < wx.heap.size ∧ k ∉ blksOf es) : ST w es ((D, p) :: fs) wx :=
 ⟨h.1, h.2.1, h.2.2.1, h.2.2.2.1, fun f hf => by
  rcases List.mem_cons.1 hf with rfl | hf
  ·exact ⟨hp, hd, hD⟩
  ·exact h.2.2.2.2 f hf⟩
theorem ST.tell (h : ST w es fs wx) (k : Kp wx w') (hp : p w') (hd : DepL D p) (hD : ∀ k ∈ D, wx.heap.size ≤ k ∧ k < w'.heap.size) : ST w es ((D, p) :: fs) w' :=
 (h.kp k).fact hp hd (fun i hi => ⟨(hD i hi).2, fun hk => by have := (h.2.2.2.1 i hk).2; have := (hD i hi).1; omega⟩)
theorem ST.get (h : ST w es fs wx) {f : Ob} (hf : f ∈ fs) : f.2 wx := (h.2.2.2.2 f hf).1
theorem ST.ob (h : ST w es fs wx) {c : Ob} (hc : c ∈ es) : c.2 wx := (h.2.1 c hc).1
theorem ST.apart (h : ST w es fs wx) {f c : Ob} (hf : f ∈ fs) (hc : c ∈ es) {k : Nat} (hk : k ∈ f.1) : k ∉ c.1 := fun hx => ((h.2.2.2.2 f hf).2.2 k hk).2 (mem_blks hc hx)
theorem ST.flt (h : ST w es fs wx) {f : Ob} (hf : f ∈ fs) {k : Nat} (hk : k ∈ f.1) : k < wx.heap.size := ((h.2.2.2.2 f hf).2.2 k hk).1
end
def fBlk (b : Nat) (cs : Array Value) (T : TypeId) : Ob := ([b], Blk b cs T)
theorem blk_depL (b : Nat) (cs : Array Value) (T : TypeId) : DepL [b] (Blk b cs T) := fun w w' h k => (h b (by simp)).trans k
def rowD (ao : Option Addr) (len : Nat) : List Nat := if len = 0 then [] else match ao with | some a => [a.block] | none => []
def fRow (ao : Option Addr) (len : Nat) (Z : Nat → Int) : Ob := (rowD ao len, fun w => Row w ao len Z)
theorem row_depL (ao : Option Addr) (len : Nat) (Z : Nat → Int) : DepL (rowD ao len) (fun w => Row w ao len Z) := fun w w' h r => by
 rcases r with r | ⟨b, o, rfl, hc⟩
 ·exact Or.inl r
 ·by_cases h0 : len = 0
  ·exact Or.inl h0
  ·refine Or.inr ⟨b, o, rfl, fun i hi => (World.cell?_of_block (h b ?_)).trans (hc i hi)⟩
   unfold rowD
   rw [if_neg h0]
   simp
theorem off_of {U len : Nat} {ao : Option Addr} (h : U ∉ rowD ao len) : Off U len ao := fun hl a ha e => h (by unfold rowD; rw [if_neg (by omega), ha]; simp [e])
theorem rowD_off {U len : Nat} {ao : Option Addr} (h : Off U len ao) : U ∉ rowD ao len := fun hm => by
 unfold rowD at hm
 split at hm
 ·exact absurd hm List.not_mem_nil
 ·rename_i h0
  cases ao with
  | none => exact absurd hm List.not_mem_nil
  | some a => simp at hm; exact h (by omega) a rfl hm.symm
theorem rowD_lt {w : World} {ao : Option Addr} {len : Nat} {Z : Nat → Int} (h : Row w ao len Z) : ∀ k ∈ rowD ao len, k < w.heap.size := fun k hk => by
 rcases h with h | ⟨b, o, rfl, hc⟩
 ·unfold rowD at hk; rw [if_pos h] at hk; exact absurd hk List.not_mem_nil
 ·unfold rowD at hk
  split at hk
  ·exact absurd hk List.not_mem_nil
  ·simp at hk; subst hk; exact heap_gt (hc 0 (by omega))
section
variable {w wx w' : World} {es fs : List Ob}
theorem ST.row (h : ST w es fs wx) {ao : Option Addr} {len : Nat} {Z : Nat → Int} (hf : fRow ao len Z ∈ fs) : Row wx ao len Z := h.get hf
theorem ST.off (h : ST w es fs wx) {ao : Option Addr} {len : Nat} {Z : Nat → Int} (hf : fRow ao len Z ∈ fs) {c : Ob} (hc : c ∈ es) {U : Nat} (hU : U ∈ c.1) : Off U len ao := off_of fun hk => h.apart hf hc hk hU
theorem ST.cells (h : ST w es fs wx) {b : Nat} {x y z : Value} {T : TypeId} (hf : fBlk b #[x, y, z] T ∈ fs) : wx.cell? ⟨b, 0, none⟩ = some x ∧ wx.cell? ⟨b, 1, none⟩ = some y ∧ wx.cell? ⟨b, 2, none⟩ = some z := ⟨Blk.cell (h.get hf) 0, Blk.cell (h.get hf) 1, Blk.cell (h.get hf) 2⟩
theorem ST.box (h : ST w es fs wx) (cs : Array Value) (T : TypeId) : ST w es (fBlk wx.heap.size cs T :: fs) (wx.alloc (.cells cs T)) :=
 h.tell (Kp.of ((Grown.refl wx).alloc cs T)) (Blk.new wx cs T) (blk_depL _ _ _) (fun k hk => by simp at hk; subst hk; simp)
theorem ST.rowNew (h : ST w es fs wx) (k : Kp wx w') {ao : Option Addr} {len : Nat} {Z : Nat → Int} (r : Row w' ao len Z) (ho : ∀ U, U < wx.heap.size → Off U len ao) : ST w es (fRow ao len Z :: fs) w' :=
 h.tell k r (row_depL ao len Z) (fun i hi => ⟨by
  rcases Nat.lt_or_ge i wx.heap.size with hx | hx
  ·exact absurd hi (rowD_off (ho i hx))
  ·exact hx, rowD_lt r i hi⟩)
end
structure MV where
 R : Int
 C : Int
 ao : Option Addr
 len : Nat
 cap : Nat
 Z : Nat → Int
def MV.cells (x : MV) : Array Value := #[.int .i64 x.R, .int .i64 x.C, .slice x.ao x.len x.cap]
end Go.Proofs.YtjobgjcfkomhpaaGreat
namespace Go.Proofs.YtjobgjcfkomhpaaGreat
open Go.RowKit Go.Proofs.Wd
set_option maxRecDepth 10000
def intL (n : Nat) (Z : Nat → Int) : List Value := (List.range n).map fun i => Value.int .i64 (Z i)
theorem intL_succ (n : Nat) (Z : Nat → Int) : intL n Z ++ [.int .i64 (Z n)] = intL (n + 1) Z := by
 unfold intL; rw [List.range_succ, List.map_append]; rfl
theorem step_append_one {ops : Array Oper} {o : Oper} {a : Act} {w : World} {K : Act → World → Prop} {Q : Exit → Act → World → Prop} {E : Prop} (hgd : o.guard = none) (s x : Operand) (ho : o.op = .call { callee := .builtin .append, args := #[s, x], argTypes := #[22, 22] })
  (base n : Nat) (v : Value) (Z : Nat → Int) (z : Int) (hz : Z n = z) (b : Nat) (hs : a.eval s = v) (hx : a.eval x = .slice (some ⟨b, 0, none⟩) 1 1) (hown : w.ownsRow base 3 1 v n (intL n Z)) (hc : w.cell? ⟨b, 0, none⟩ = some (.int .i64 z)) (hn : n ≤ 1000000) (hb : base ≤ w.heap.size)
  (h : ∀ v' w', Hid (w'.ownsRow base 3 1 v' (n + 1) (intL (n + 1) Z) ∧ w.grownBy w' v.ownBlock) → K (a.put o.dst v') w') : if Region.wanted o (yielded ops a.tmps) = true then Oper.wp Tryz.prog o a w K Q else E := by
 subst hz
 have hw : Region.wanted o (yielded ops a.tmps) = true := by simp [Region.wanted, hgd]
 rw [if_pos hw]
 obtain ⟨i0, hi, hz0, hz1, hz2⟩ := info_parts Tryz.infoInt
 obtain ⟨v', w', hrun, r1, r2, _⟩ := run_append_own (P := Tryz.prog) w base 22 o.type 3 i0 (.int .i64 0) 1 8 Tryz.underlying22 hi hz0 hz1 hz2 rfl (by decide) v n (intL n Z) hown ⟨b, 0, none⟩ 1 1 [.int .i64 (Z n)] rfl
  (fun j u hj => by
   match j, hj with
   | 0, hj => simp at hj; subst hj; rw [Go.WideShapes.add_plain]; exact hc) (one_cell _) (by unfold maxLen; omega) (by omega) hb
 rw [intL_succ] at r1
 unfold Oper.wp
 simp [execOp, ho, resolve, invoke, builtin, hs, hx, hrun, Result.andThen]
 exact h v' w' ⟨r1, r2⟩
end Go.Proofs.YtjobgjcfkomhpaaGreat
namespace Go.Proofs.YtjobgjcfkomhpaaGreat
open Go.RowKit Go.Shelf Go.Proofs.Wd
set_option maxRecDepth 10000
def FitL (ao : Option Addr) (len cap : Nat) : Prop := len ≤ cap ∧ (ao = none → len = 0 ∧ cap = 0)
def LV.good (x : LV) (W : World) : Prop := x.ok W ∧ FitL x.ao x.len x.cap ∧ ∀ i, i < x.len → I64 (x.Z i)
def DV.good (m : DV) (W : World) : Prop := m.A.good W ∧ m.Q.good W ∧ RVs W m.ro m.rl m.X ∧ (∀ i, i < m.rl → (m.X i).h.good W ∧ I64 (m.X i).s ∧ I64 (m.X i).r) ∧ FitL m.ro m.rl m.rc ∧ (I64 m.N ∧ I64 m.tick ∧ I64 m.gate ∧ I64 m.rmin) ∧ m.A.len ≤ 40 ∧ m.Q.len ≤ 12 ∧ m.rl ≤ 30 ∧ ∀ i, i < m.rl → (m.X i).h.len ≤ 12
end Go.Proofs.YtjobgjcfkomhpaaGreat
namespace Go.Proofs.Wd
theorem half_Fx (h : Int) (hb : -4294967295 ≤ h ∧ h ≤ 4294967295) : Fx (h * 2147483648) := by unfold Fx; omega
theorem mul_half (h y : Int) (h1 : -4294967295 ≤ h ∧ h ≤ 4294967295) (h2 : -2147483647 ≤ y ∧ y ≤ 2147483647) (h3 : -4294967295 ≤ h * y ∧ h * y ≤ 4294967295) : mulN (h * 2147483648) (y * 4294967296) = h * y * 2147483648 ∧ mulC (h * 2147483648) (y * 4294967296) = false := by
 have e1 := fx_all _ (half_Fx h h1)
 have e2 := fx_all _ (whole_fx y h2)
 have e3 := fx_all _ (half_Fx (h * y) h3)
 have e4 : rdiv (h * 2147483648 * (y * 4294967296)) 4294967296 = h * y * 2147483648 := by
  have := rdiv_mul (h * y * 2147483648) 4294967296 (by omega)
  rwa [show h * y * 2147483648 * 4294967296 = h * 2147483648 * (y * 4294967296) by grind] at this
 unfold mulN mulC cutB
 rw [e1.1, e2.1, e4, e3.2.1, e3.2.2.1, e1.2.2.2, e2.2.2.2]
 exact ⟨rfl, rfl⟩
theorem m2_half (h y : Int) (h1 : -4294967295 ≤ h ∧ h ≤ 4294967295) (h2 : -2147483647 ≤ y ∧ y ≤ 2147483647) (h3 : -4294967295 ≤ h * y ∧ h * y ≤ 4294967295) : m2N (h * 2147483648) (y * 4294967296) = h * y * 2147483648 ∧ m2C (h * 2147483648) (y * 4294967296) = false := by
 have e := mul_one _ (half_Fx h h1)
 have m := mul_half h y h1 h2 h3
 unfold m2N m2C
 rw [e.1, e.2.1, m.1, m.2]
 exact ⟨rfl, rfl⟩
theorem s2_half (h k : Int) (h1 : -4294967295 ≤ h ∧ h ≤ 4294967295) (h2 : -4294967295 ≤ k ∧ k ≤ 4294967295) (h3 : -4294967295 ≤ h + k ∧ h + k ≤ 4294967295) : s2N (h * 2147483648) (k * 2147483648) = (h + k) * 2147483648 ∧ s2C (h * 2147483648) (k * 2147483648) = false := by
 have h0 := add_nought _ (half_Fx h h1)
 have e1 := fx_all _ (half_Fx h h1)
 have e2 := fx_all _ (half_Fx k h2)
 have e3 := fx_all _ (half_Fx (h + k) h3)
 unfold s2N s2C
 rw [h0.1, h0.2.1]
 unfold addN addC cutB
 rw [e1.1, e2.1, ← Int.add_mul, e3.2.1, e3.2.2.1, e1.2.2.2, e2.2.2.2]
 exact ⟨rfl, rfl⟩
def hH (x : Nat → Nat → Int) (n : Nat) (y : Int) : Nat → Nat → Int
 | 0 => x n
 | k + 1 => fun p => hH x n y k p * y + x (n - (k + 1)) p
theorem hor_half (X x : Nat → Nat → Int) (n nn : Nat) (y : Int) (hy : -1000000 ≤ y ∧ y ≤ 1000000) (hX : ∀ i, i ≤ n → ∀ p, p < nn → X i p = x i p * 2147483648) (hx : ∀ i, i ≤ n → ∀ p, p < nn → -1000000000 ≤ x i p ∧ x i p ≤ 1000000000)
  (hB : ∀ k, k ≤ n → ∀ p, p < nn → (-1000000000 ≤ hH x n y k p ∧ hH x n y k p ≤ 1000000000) ∧ -1000000000 ≤ hH x n y k p * y ∧ hH x n y k p * y ≤ 1000000000) :
  ∀ k, k ≤ n → (∀ p, p < nn → horZ X n (y * 4294967296) k p = hH x n y k p * 2147483648) ∧ horC X n (y * 4294967296) nn k = false
 | 0, _ => ⟨fun p hp => hX n (Nat.le_refl _) p hp, rfl⟩
 | k + 1, hk => by
  obtain ⟨h1, h2⟩ := hor_half X x n nn y hy hX hx hB k (by omega)
  have key : ∀ p, p < nn → (m2N (horZ X n (y * 4294967296) k p) (y * 4294967296) = hH x n y k p * y * 2147483648 ∧ m2C (horZ X n (y * 4294967296) k p) (y * 4294967296) = false) ∧
    s2N (m2N (horZ X n (y * 4294967296) k p) (y * 4294967296)) (X (n - (k + 1)) p) = (hH x n y k p * y + x (n - (k + 1)) p) * 2147483648 ∧ s2C (m2N (horZ X n (y * 4294967296) k p) (y * 4294967296)) (X (n - (k + 1)) p) = false := fun p hp => by
   have b := hB k (by omega) p hp
   have c := hx (n - (k + 1)) (by omega) p hp
   rw [h1 p hp, hX (n - (k + 1)) (by omega) p hp]
   have m := m2_half (hH x n y k p) y (by omega) (by omega) (by omega)
   rw [m.1, m.2]
   have t := s2_half (hH x n y k p * y) (x (n - (k + 1)) p) (by omega) (by omega) (by omega)
   exact ⟨⟨rfl, rfl⟩, t.1, t.2⟩
  refine ⟨fun p hp => (key p hp).2.1, ?_⟩
  show (horC X n (y * 4294967296) nn k || (orC (fun p => m2C (horZ X n (y * 4294967296) k p) (y * 4294967296)) nn || orC (fun p => s2C (m2N (horZ X n (y * 4294967296) k p) (y * 4294967296)) (X (n - (k + 1)) p)) nn)) = false
  rw [h2, orC_of _ nn (fun p hp => (key p hp).1.2), orC_of _ nn (fun p hp => (key p hp).2.2)]
  rfl
theorem who_of (m : Nat) (hm : m ≤ 1000000) : whoN (m : Int) = (m : Int) * 4294967296 ∧ whoC (m : Int) = false := by
 unfold whoN whoC fitI fitB
 refine ⟨by rw [if_neg (by omega), if_neg (by omega)], by simp; omega⟩
theorem div_who (z : Int) (m : Nat) (hm : 1 ≤ m ∧ m ≤ 1000000) (hz : Fx (z * m)) (hz2 : Fx z) : divN (z * m) (whoN (m : Int)) = z ∧ divC (z * m) (whoN (m : Int)) = false := by
 have e := fx_all _ hz
 have e3 := fx_all _ hz2
 have em := fx_all _ (whole_fx (m : Int) (by omega))
 have hq : quoR (z * m) ((m : Int) * 4294967296) = z := by
  unfold quoR
  rw [if_neg (by omega), show z * (m : Int) * 4294967296 = z * ((m : Int) * 4294967296) by rw [Int.mul_assoc]]
  exact rdiv_mul _ _ (by omega)
 rw [(who_of m hm.2).1]
 unfold divN divC cutB
 rw [e.1, em.1, hq, e3.2.1, e3.2.2.1, e.2.2.2, em.2.2.2]
 refine ⟨rfl, ?_⟩
 simp
 omega
theorem div_nought (m : Nat) (hm : 1 ≤ m ∧ m ≤ 1000000) : divN 0 (whoN (m : Int)) = 0 := by
 have := (div_who 0 m hm (by unfold Fx; omega) (by unfold Fx; omega)).1
 simpa using this
theorem mulN_zero (y : Int) : mulN 0 y = 0 ∧ mulN y 0 = 0 := by
 unfold mulN
 rw [show tk 0 = 0 from rfl, Int.zero_mul, Int.mul_zero]
 exact ⟨by decide, by decide⟩
theorem dot_zero (X Y : Nat → Int) : ∀ k, (∀ i, i < k → X i = 0 ∨ Y i = 0) → dotN X Y k = 0
 | 0, _ => rfl
 | k + 1, h => by
  show addN (dotN X Y k) (mulN (X k) (Y k)) = 0
  rw [dot_zero X Y k (fun i hi => h i (by omega))]
  have : mulN (X k) (Y k) = 0 := by
   rcases h k (by omega) with e | e
   ·rw [e]; exact (mulN_zero _).1
   ·rw [e]; exact (mulN_zero _).2
  rw [this]
  decide
theorem term_nought (A : Nat → Int) (n : Nat) (hA : ∀ i k, i < n → k < n → k ≤ i → A (i * n + k) = 0) : ∀ m, m ≤ 1000 → ∀ i k, i < n → k < n → k < i + m → termZ A n m (i * n + k) = 0
 | 0, _, i, k, hi, hk, h => by
  show (if (i * n + k) / n = (i * n + k) % n then oneF ((i * n + k) / n) else 0) = 0
  rw [place_div _ _ _ hk, place_mod _ _ _ hk, if_neg (by omega)]
 | m + 1, hm, i, k, hi, hk, h => by
  show divN (mulZ (termZ A n m) A n n (i * n + k)) (whoN ((m + 1 : Nat) : Int)) = 0
  have : mulZ (termZ A n m) A n n (i * n + k) = 0 := by
   unfold mulZ
   rw [place_div _ _ _ hk, place_mod _ _ _ hk]
   refine dot_zero _ _ n fun j hj => ?_
   by_cases e : j < i + m
   ·exact Or.inl (term_nought A n hA m (by omega) i j hi hj e)
   ·exact Or.inr (hA j k hj hk (by omega))
  rw [this]
  exact div_nought (m + 1) (by omega)
theorem ho_nought (V M : Nat → Int) (t : Int) (p : Nat) (hV : V p = 0) : hoZ V M t p = s2N 0 (M p) := by
 unfold hoZ m2N
 rw [hV, (mulN_zero _).2, (mulN_zero _).1]
theorem s2_zero (y : Int) (h : Fx y) : s2N 0 y = y := by
 have e := add_nought _ h
 unfold s2N
 rw [show addN 0 0 = 0 by decide, e.1]
theorem one_fx : Fx 4294967296 := by unfold Fx; omega
theorem term_fx (A : Nat → Int) (n : Nat) : ∀ m p, Fx (termZ A n m p)
 | 0, p => by
  show Fx (if p / n = p % n then oneF (p / n) else 0)
  split
  ·exact one_fx
  ·unfold Fx; omega
 | m + 1, p => fit_Fx _
theorem flow_low (A : Nat → Int) (n : Nat) (t : Int) (hn : 1 ≤ n ∧ n ≤ 12) (hA : ∀ i k, i < n → k < n → k ≤ i → A (i * n + k) = 0) (i k : Nat) (hi : i < n) (hk : k < n) (h : k ≤ i) : horZ (termZ A n) (n - 1) t (n - 1) (i * n + k) = diagZ oneF n (i * n + k) := by
 have step : ∀ j, j ≤ n - 1 → horZ (termZ A n) (n - 1) t j (i * n + k) = (if j = n - 1 then diagZ oneF n (i * n + k) else 0) := by
  intro j
  induction j with
  | zero =>
   intro _
   show termZ A n (n - 1) (i * n + k) = _
   by_cases e : 0 = n - 1
   ·rw [if_pos e, ← e]; rfl
   ·rw [if_neg e]
    exact term_nought A n hA (n - 1) (by omega) i k hi hk (by omega)
  | succ j ih =>
   intro hj
   have h0 := ih (by omega)
   rw [if_neg (by omega)] at h0
   show hoZ (horZ (termZ A n) (n - 1) t j) (termZ A n (n - 1 - (j + 1))) t (i * n + k) = _
   rw [ho_nought _ _ _ _ h0, s2_zero _ (term_fx A n _ _)]
   by_cases e : j + 1 = n - 1
   ·rw [if_pos e, show n - 1 - (j + 1) = 0 by omega]; rfl
   ·rw [if_neg e]
    exact term_nought A n hA _ (by omega) i k hi hk (by omega)
 rw [step (n - 1) (Nat.le_refl _), if_pos rfl]
theorem hor_zero (X : Nat → Nat → Int) (n : Nat) (hX : ∀ i, i ≤ n → ∀ p, Fx (X i p)) : ∀ k p, k ≤ n → horZ X n 0 k p = X (n - k) p
 | 0, p, _ => rfl
 | k + 1, p, hk => by
  show s2N (m2N (horZ X n 0 k p) 0) (X (n - (k + 1)) p) = _
  unfold m2N
  rw [(mulN_zero _).2, s2_zero _ (hX _ (by omega) p)]
def UpW (most : Int) (n : Nat) (a : Nat → Int) : Prop := (∀ p, p < n * n → -most ≤ a p ∧ a p ≤ most) ∧ ∀ i k, i < n → k < n → k ≤ i → a (i * n + k) = 0
def WZ (a : Nat → Int) : Nat → Int := fun p => a p * 4294967296
theorem term_one (a : Nat → Int) (n : Nat) (hn : 1 ≤ n ∧ n ≤ 12) (h : UpW 9 n a) : (∀ p, p < n * n → termZ (WZ a) n 1 p = a p * 4294967296) ∧ termC (WZ a) n 1 = false := by
 have fx : ∀ p, p < n * n → Fx (WZ a p) := fun p hp => whole_fx _ (by have := h.1 p hp; omega)
 have E := fun p hp => eye_left (WZ a) n n p fx hp
 have D : ∀ p, p < n * n → dvZ (mulZ (termZ (WZ a) n 0) (WZ a) n n) 1 p = a p * 4294967296 ∧ dvG (mulZ (termZ (WZ a) n 0) (WZ a) n n) 1 p = false := fun p hp => by
  have e1 : mulZ (termZ (WZ a) n 0) (WZ a) n n p = a p * 4294967296 := (E p hp).1
  have d := div_who (a p * 4294967296) 1 (by omega) (by have := fx p hp; simpa [WZ] using this) (fx p hp)
  rw [show a p * 4294967296 * ((1 : Nat) : Int) = a p * 4294967296 by simp] at d
  unfold dvZ dvG
  rw [e1, d.1, d.2, (who_of 1 (by omega)).2]
  exact ⟨rfl, rfl⟩
 refine ⟨fun p hp => (D p hp).1, ?_⟩
 show (false || orC (mulG (termZ (WZ a) n 0) (WZ a) n n) (n * n) || orC (dvG (mulZ (termZ (WZ a) n 0) (WZ a) n n) 1) (n * n)) = false
 rw [orC_of (mulG (termZ (WZ a) n 0) (WZ a) n n) (n * n) (fun p hp => (E p hp).2), orC_of (dvG (mulZ (termZ (WZ a) n 0) (WZ a) n n) 1) (n * n) (fun p hp => (D p hp).2)]
 rfl
theorem term_two (a : Nat → Int) (h : UpW 9 3 a) : (∀ p, p < 9 → termZ (WZ a) 3 2 p = (if p = 2 then a 1 * a 5 else 0) * 2147483648) ∧ termC (WZ a) 3 2 = false := by
 obtain ⟨t1, t2⟩ := term_one a 3 (by omega) h
 have b := h.1
 have z : a 0 = 0 ∧ a 3 = 0 ∧ a 4 = 0 ∧ a 6 = 0 ∧ a 7 = 0 ∧ a 8 = 0 := ⟨h.2 0 0 (by omega) (by omega) (by omega), h.2 1 0 (by omega) (by omega) (by omega), h.2 1 1 (by omega) (by omega) (by omega), h.2 2 0 (by omega) (by omega) (by omega), h.2 2 1 (by omega) (by omega) (by omega), h.2 2 2 (by omega) (by omega) (by omega)⟩
 have W : Wh 9 (3 * 3) (termZ (WZ a) 3 1) a := fun p hp => ⟨t1 p hp, b p hp⟩
 have W2 : Wh 9 (3 * 3) (WZ a) a := fun p hp => ⟨rfl, b p hp⟩
 obtain ⟨m1, m2⟩ := whole_mat (termZ (WZ a) 3 1) (WZ a) a a 3 3 3 9 9 (by omega) (by omega) W W2 (by omega)
 have mw : ∀ p, p < 9 → mulW a a 3 3 p = if p = 2 then a 1 * a 5 else 0 := fun p hp => by
  obtain ⟨z0, z3, z4, z6, z7, z8⟩ := z
  have hc : p = 0 ∨ p = 1 ∨ p = 2 ∨ p = 3 ∨ p = 4 ∨ p = 5 ∨ p = 6 ∨ p = 7 ∨ p = 8 := by omega
  rcases hc with rfl | rfl | rfl | rfl | rfl | rfl | rfl | rfl | rfl <;> simp [mulW, sI, z0, z3, z4, z6, z7, z8]
 have b15 := mul_bound (a 1) (a 5) 9 9 (b 1 (by omega)) (b 5 (by omega))
 have D : ∀ p, p < 9 → dvZ (mulZ (termZ (WZ a) 3 1) (WZ a) 3 3) 2 p = (if p = 2 then a 1 * a 5 else 0) * 2147483648 ∧ dvG (mulZ (termZ (WZ a) 3 1) (WZ a) 3 3) 2 p = false := fun p hp => by
  obtain ⟨x, hx⟩ : ∃ x : Int, (if p = 2 then a 1 * a 5 else 0) = x := ⟨_, rfl⟩
  have hb : -81 ≤ x ∧ x ≤ 81 := by
   rw [← hx]
   split <;> omega
  have e1 : mulZ (termZ (WZ a) 3 1) (WZ a) 3 3 p = x * 2147483648 * ((2 : Nat) : Int) := by
   rw [(m1 p hp).1, mw p hp, hx]
   omega
  have d := div_who (x * 2147483648) 2 (by omega) (by unfold Fx; omega) (by unfold Fx; omega)
  rw [hx]
  unfold dvZ dvG
  rw [e1, d.1, d.2, (who_of 2 (by omega)).2]
  exact ⟨rfl, rfl⟩
 refine ⟨fun p hp => (D p hp).1, ?_⟩
 show (termC (WZ a) 3 1 || orC (mulG (termZ (WZ a) 3 1) (WZ a) 3 3) (3 * 3) || orC (dvG (mulZ (termZ (WZ a) 3 1) (WZ a) 3 3) 2) (3 * 3)) = false
 rw [t2, orC_of _ _ m2, orC_of _ _ (fun p hp => (D p hp).2)]
 rfl
def spanZ (ticks tick : Int) : Int := m2N (whoN ticks) tick
def spanC (ticks tick : Int) : Bool := whoC ticks || m2C (whoN ticks) tick
def evZ (X : Nat → Int) (n : Nat) : Nat → Int := fun p => s2N (X p) (turnZ X n n p)
def evG (X : Nat → Int) (n : Nat) : Nat → Bool := fun p => s2C (X p) (turnZ X n n p)
def gainZ (A Q : Nat → Int) (n : Nat) : Nat → Nat → Int
 | 0 => diagZ Q n
 | k + 1 => dvZ (evZ (mulZ A (gainZ A Q n k) n n) n) (k + 2)
def gainC (A Q : Nat → Int) (n : Nat) : Nat → Bool
 | 0 => false
 | k + 1 => gainC A Q n k || orC (mulG A (gainZ A Q n k) n n) (n * n) || orC (evG (mulZ A (gainZ A Q n k) n n) n) (n * n) || orC (dvG (evZ (mulZ A (gainZ A Q n k) n n) n) (k + 2)) (n * n)
def noiseZ (A Q : Nat → Int) (n : Nat) (t : Int) : Nat → Int := fun p => m2N (horZ (gainZ A Q n) (2 * n - 2) t (2 * n - 2) p) t
def noiseC (A Q : Nat → Int) (n : Nat) (t : Int) : Bool := gainC A Q n (2 * n - 2) || horC (gainZ A Q n) (2 * n - 2) t (n * n) (2 * n - 2) || orC (fun p => m2C (horZ (gainZ A Q n) (2 * n - 2) t (2 * n - 2) p) t) (n * n)
theorem spanZ_I64 (a b : Int) : I64 (spanZ a b) := m2N_I64 _ _
theorem spanZ_zero (b : Int) : spanZ 0 b = 0 := by
 unfold spanZ m2N
 rw [show whoN 0 = 0 by decide, (mulN_zero _).2, (mulN_zero _).1]
theorem gainZ_I64 (A Q : Nat → Int) (n : Nat) (hQ : ∀ i, i < n → I64 (Q i)) : ∀ k p, p < n * n → I64 (gainZ A Q n k p)
 | 0, p, hp => diagZ_I64 _ n hQ p hp
 | k + 1, p, _ => divN_I64 _ _
theorem evZ_I64 (X : Nat → Int) (n p : Nat) : I64 (evZ X n p) := s2N_I64 _ _
theorem noiseZ_I64 (A Q : Nat → Int) (n : Nat) (t : Int) (p : Nat) : I64 (noiseZ A Q n t p) := m2N_I64 _ _
def evenM (X : Nat → Int) (n : Nat) : Prop := ∀ i k, i < n → k < n → X (i * n + k) = X (k * n + i)
theorem diag_even (Q : Nat → Int) (n : Nat) : evenM (diagZ Q n) n := fun i k hi hk => by
 unfold diagZ
 rw [place_div _ _ _ hk, place_mod _ _ _ hk, place_div _ _ _ hi, place_mod _ _ _ hi]
 by_cases e : i = k
 ·subst e; rfl
 ·rw [if_neg e, if_neg (Ne.symm e)]
theorem evZ_even (X : Nat → Int) (n : Nat) (hX : ∀ p, p < n * n → I64 (X p)) : evenM (evZ X n) n := fun i k hi hk => by
 unfold evZ turnZ
 rw [place_div _ _ _ hk, place_mod _ _ _ hk, place_div _ _ _ hi, place_mod _ _ _ hi]
 exact s2N_comm _ _ (hX _ (place_in i k n n hi hk)) (hX _ (place_in k i n n hk hi))
theorem gain_even (A Q : Nat → Int) (n : Nat) : ∀ k, evenM (gainZ A Q n k) n
 | 0 => diag_even Q n
 | k + 1 => fun i j hi hj => by
  show divN _ _ = divN _ _
  rw [evZ_even _ n (fun p _ => mulZ_I64 _ _ _ _ _) i j hi hj]
theorem hor_even (X : Nat → Nat → Int) (n m : Nat) (t : Int) (h : ∀ i, i ≤ m → evenM (X i) n) : ∀ k, k ≤ m → evenM (horZ X m t k) n
 | 0, _ => h m (Nat.le_refl _)
 | k + 1, hk => fun i j hi hj => by
  show s2N (m2N _ t) _ = s2N (m2N _ t) _
  rw [hor_even X n m t h k (by omega) i j hi hj, h (m - (k + 1)) (by omega) i j hi hj]
theorem noise_even (A Q : Nat → Int) (n : Nat) (t : Int) : evenM (noiseZ A Q n t) n := fun i j hi hj => by
 show m2N _ t = m2N _ t
 rw [hor_even (gainZ A Q n) n (2 * n - 2) t (fun i _ => gain_even A Q n i) (2 * n - 2) (Nat.le_refl _) i j hi hj]
theorem even_turn {X : Nat → Int} {n : Nat} (h : evenM X n) (p : Nat) (hp : p < n * n) : turnZ X n n p = X p := by
 have e := place_lt p n n hp
 show X (p % n * n + p / n) = _
 rw [h _ _ e.2 e.1, place_eq]
theorem noise_none (A Q : Nat → Int) (n p : Nat) : noiseZ A Q n 0 p = 0 := by
 show m2N _ 0 = 0
 unfold m2N
 rw [(mulN_zero _).2]
theorem flow_none (A : Nat → Int) (n p : Nat) (hn : 1 ≤ n) : horZ (termZ A n) (n - 1) 0 (n - 1) p = diagZ oneF n p := by
 rw [hor_zero (termZ A n) (n - 1) (fun i _ p => term_fx A n i p) (n - 1) p (Nat.le_refl _), Nat.sub_self]
 rfl
end Go.Proofs.Wd
namespace Go.Proofs.YtjobgjcfkomhpaaGreat
open Go.RowKit Go.Shelf Go.Proofs.Wd
set_option maxRecDepth 10000
def OfI (w : World) (r c : Int) (Z : Nat → Int) (k : Nat) (v : Value) (wr : World) : Prop :=
 wr.ownsRow (w.heap.size + 1 + 1) 3 1 v k (intL k Z) ∧ Blk w.heap.size #[.int .i64 0, .int .i64 0, .slice none 0 0] 38 wr ∧ Blk (w.heap.size + 1) #[.int .i64 r, .int .i64 c, v] 38 wr ∧ Kp w wr ∧ w.heap.size + 1 + 1 ≤ wr.heap.size
theorem OfI.app {w wr wa w4 : World} {r c : Int} {Z : Nat → Int} {k : Nat} {v v' : Value} (h : OfI w r c Z k v wr) (g : Grown wr wa) (ha : wa.ownsRow (w.heap.size + 1 + 1) 3 1 v k (intL k Z)) (hg : w4.ownsRow (w.heap.size + 1 + 1) 3 1 v' (k + 1) (intL (k + 1) Z) ∧ wa.grownBy w4 v.ownBlock) :
  Blk (w.heap.size + 1) #[.int .i64 r, .int .i64 c, v] 38 w4 ∧ OfI w r c Z (k + 1) v' (w4.setCell ⟨w.heap.size + 1, 2, none⟩ v') := by
 obtain ⟨h1, h2, h3, h4, h5⟩ := h
 have lt := ha.lt
 have far : ∀ j, j < w.heap.size + 1 + 1 → some j ≠ v.ownBlock := fun j hj e => by have := (lt _ e.symm).1; omega
 have b2 := Blk.by (Blk.grown h2 g) hg.2 (far _ (by omega))
 have b3 := Blk.by (Blk.grown h3 g) hg.2 (far _ (by omega))
 have q : Mod (w.heap.size + 1) w4 (w4.setCell ⟨w.heap.size + 1, 2, none⟩ v') := (Mod.refl _ _).setCell 2 _
 refine ⟨b3, owns_mod hg.1 q (by omega), Blk.keep b2 q (by omega), Blk.set b3 2 _, ((h4.grown g).by hg.2 (fun j e => by have := (lt j e).1; omega)).mod q (by omega), ?_⟩
 have := hg.2.size
 have := g.2.2
 have := q.2.2.2.2
 omega
def flat (l : List MV) : List Value := l.flatMap fun x => x.cells.toList
theorem flat_len : ∀ l : List MV, (flat l).length = l.length * 3
 | [] => rfl
 | x :: l => by
  have := flat_len l
  unfold flat at *
  rw [List.flatMap_cons, List.length_append, this, List.length_cons]
  show 3 + _ = _
  omega
theorem flat_snoc (l : List MV) (x : MV) : flat (l ++ [x]) = flat l ++ x.cells.toList := by
 unfold flat
 rw [List.flatMap_append]
 simp
theorem flat_at : ∀ (l : List MV) (i j : Nat) (x : MV), l[i]? = some x → j < 3 → (flat l)[i * 3 + j]? = x.cells[j]?
 | [], i, j, x, h, _ => by simp at h
 | y :: l, 0, j, x, h, hj => by
  simp at h
  subst h
  unfold flat
  rw [List.flatMap_cons, List.getElem?_append_left (by show 0 * 3 + j < 3; omega)]
  simp
 | y :: l, i + 1, j, x, h, hj => by
  have := flat_at l i j x (by simpa using h) hj
  unfold flat at *
  rw [List.flatMap_cons, List.getElem?_append_right (by show 3 ≤ _; omega), ← this]
  congr 1
  show (i + 1) * 3 + j - 3 = _
  omega
theorem cells_oneMV (x : MV) : ∀ u ∈ x.cells.toList, u.oneCell' = true := by
 intro u hu
 simp [MV.cells] at hu
 rcases hu with rfl | rfl | rfl <;> rfl
theorem Tryz.infoMat : (Tryz.prog.info? 38).map (fun i => (i.zero, i.size, i.bytes)) = some (some (.agg #[.int .i64 0, .int .i64 0, .slice none 0 0]), 3, 40) := by kernel_rfl
def MLs (w : World) (base : Nat) (v : Value) (l : List MV) : Prop := w.ownsRow base 38 3 v l.length (flat l)
theorem MLs.blk {w w' : World} {base : Nat} {v : Value} {l : List MV} (h : MLs w base v l) (k : ∀ g cs, v.ownBlock = some g → base ≤ g → Blk g cs 38 w → Blk g cs 38 w') : MLs w' base v l := by
 refine ⟨h.1, ?_⟩
 rcases h.2 with h2 | ⟨g, cap, cur, rfl, hb, hg, r⟩
 ·exact Or.inl h2
 ·exact Or.inr ⟨g, cap, cur, rfl, hb, k g cur rfl hb hg, r⟩
theorem MLs.kp {w w' : World} {base : Nat} {v : Value} {l : List MV} (h : MLs w base v l) (k : Kp w w') : MLs w' base v l := h.blk fun _ _ _ _ hb => Blk.kp hb k
theorem MLs.mono {w : World} {base base' : Nat} {v : Value} {l : List MV} (h : MLs w base v l) (hb : base' ≤ base) : MLs w base' v l := by
 refine ⟨h.1, ?_⟩
 rcases h.2 with h2 | ⟨g, cap, cur, rfl, hb', hg, r⟩
 ·exact Or.inl h2
 ·exact Or.inr ⟨g, cap, cur, rfl, by omega, hg, r⟩
theorem MLs.has {w : World} {base g n c : Nat} {l : List MV} (h : MLs w base (.slice (some ⟨g, 0, none⟩) n c) l) : base ≤ g ∧ ∃ cur, Blk g cur 38 w := by
 rcases h.2 with ⟨e, _⟩ | ⟨g', cap, cur, e, hb, hg, r⟩
 ·cases e
 ·simp at e
  obtain ⟨rfl, _⟩ := e
  exact ⟨hb, cur, hg⟩
def Mats (w : World) (ao : Option Addr) (n : Nat) (X : Nat → MV) : Prop := n = 0 ∨ ∃ b o, ao = some ⟨b, o, none⟩ ∧ ∀ i, i < n → ∀ j, j < 3 → w.cell? ⟨b, o + i * 3 + j, none⟩ = (X i).cells[j]?
theorem Mats.at {w : World} {ao : Option Addr} {n : Nat} {X : Nat → MV} (h : Mats w ao n X) {k : Nat} (hk : k < n) : ∃ b o, ao = some ⟨b, o, none⟩ ∧ w.cell? ⟨b, o + k * 3, none⟩ = some (.int .i64 (X k).R) ∧ w.cell? ⟨b, o + k * 3 + 1, none⟩ = some (.int .i64 (X k).C) ∧ w.cell? ⟨b, o + k * 3 + 2, none⟩ = some (.slice (X k).ao (X k).len (X k).cap) := by
 rcases h with h | ⟨b, o, rfl, hc⟩
 ·omega
 ·exact ⟨b, o, rfl, hc k hk 0 (by omega), hc k hk 1 (by omega), hc k hk 2 (by omega)⟩
theorem Mats.cells {w w' : World} {ao : Option Addr} {n : Nat} {X : Nat → MV} (h : Mats w ao n X) (k : ∀ b o (v : Value), (0 < n → ∃ o', ao = some ⟨b, o', none⟩) → w.cell? ⟨b, o, none⟩ = some v → w'.cell? ⟨b, o, none⟩ = some v) : Mats w' ao n X := by
 rcases h with h | ⟨b, o, rfl, hc⟩
 ·exact Or.inl h
 ·refine Or.inr ⟨b, o, rfl, fun i hi j hj => ?_⟩
  have := hc i hi j hj
  have hs : ∃ v, (X i).cells[j]? = some v := ⟨_, Array.getElem?_eq_getElem (by show j < 3; exact hj)⟩
  obtain ⟨v, hv⟩ := hs
  rw [hv] at this ⊢
  exact k b _ v (fun _ => ⟨o, rfl⟩) this
theorem Mats.kp {w w' : World} {ao : Option Addr} {n : Nat} {X : Nat → MV} (h : Mats w ao n X) (k : Kp w w') : Mats w' ao n X := h.cells fun _ _ _ _ hv => k.cell hv
theorem Mats.grown {w w' : World} {ao : Option Addr} {n : Nat} {X : Nat → MV} (h : Mats w ao n X) (k : Grown w w') : Mats w' ao n X := h.kp (Kp.of k)
def z0MV : MV := ⟨0, 0, none, 0, 0, fun _ => 0⟩
def ixM (l : List MV) (i : Nat) : MV := (l[i]?).getD z0MV
theorem ixM_at {l : List MV} {i : Nat} {x : MV} (h : l[i]? = some x) : ixM l i = x := by unfold ixM; rw [h]; rfl
theorem MLs.mats {w : World} {base : Nat} {v : Value} {l : List MV} (h : MLs w base v l) : ∃ ao cap, v = .slice ao l.length cap ∧ Mats w ao l.length (ixM l) ∧ l.length ≤ cap ∧ (∀ U, U < base → Off U l.length ao) := by
 have hc := fun g (e : v.ownBlock = some g) => World.ownsRow.cells h e
 rcases h.2 with ⟨rfl, e⟩ | ⟨g, cap, cur, rfl, hb, hg, hn, r⟩
 ·rw [e]
  exact ⟨none, 0, rfl, Or.inl rfl, Nat.le_refl _, fun U _ h0 => absurd h0 (Nat.lt_irrefl _)⟩
 ·refine ⟨_, cap, rfl, Or.inr ⟨g, 0, rfl, fun i hi j hj => ?_⟩, hn, fun U hU _ a ha => by cases ha; show g ≠ U; omega⟩
  have hx : l[i]? = some l[i] := List.getElem?_eq_getElem hi
  have hf := flat_at l i j _ hx hj
  have hs : ∃ u, (l[i]).cells[j]? = some u := ⟨_, Array.getElem?_eq_getElem (by show j < 3; exact hj)⟩
  obtain ⟨u, hu⟩ := hs
  have := hc g rfl (i * 3 + j) u (by rw [hf, hu])
  rw [Go.WideShapes.add_plain] at this
  rw [ixM_at hx, hu, ← this, Nat.zero_add]
  show _ = w.cell? ⟨g, 0 + (i * 3 + j), none⟩
  rw [Nat.zero_add]
theorem news_mat {w : World} {b : Nat} {x : MV} (h : Blk b x.cells 38 w) : ∀ j u, x.cells.toList[j]? = some u → w.cell? ((⟨b, 0, none⟩ : Addr).add j) = some u := by
 intro j u hu
 rw [Go.WideShapes.add_plain, Nat.zero_add, Blk.cell h]
 simpa using hu
def sqA (R C : Int) (len : Nat) : Prop := okM R C len ∧ R = C
open Classical in
noncomputable def sqB (R C : Int) (len : Nat) : Bool := decide (sqA R C len)
theorem sqB_yes {R C : Int} {len : Nat} (h : sqA R C len) : sqB R C len = true := by classical exact decide_eq_true h
theorem sqB_no {R C : Int} {len : Nat} (h : ¬ sqA R C len) : sqB R C len = false := by classical exact decide_eq_false h
theorem sqA_of {n : Nat} (hn : 1 ≤ n ∧ n ≤ 12) : sqA n n (n * n) := ⟨⟨by omega, by omega, by rw [Int.natCast_mul]⟩, rfl⟩
set_option maxHeartbeats 2000000 in
theorem polySquare (R C : Int) (ao : Option Addr) (len cap : Nat) (w : World) : Calls Tryz.prog 80 #[.agg #[.int .i64 R, .int .i64 C, .slice ao len cap]] w fun e w' => e = .returned (.bool (sqB R C len)) ∧ Grown w w' := by
 have K1 := hide (fun w => matCheck R C ao len cap w)
 have G1 : Hid (Grown w (w.alloc (.cells #[.int .i64 R, .int .i64 C, .slice ao len cap] 38)) ∧ Blk w.heap.size #[.int .i64 R, .int .i64 C, .slice ao len cap] 38 (w.alloc (.cells #[.int .i64 R, .int .i64 C, .slice ao len cap] 38))) := ⟨(Grown.refl _).alloc _ _, Blk.new w _ _⟩
 by_cases h1 : okM R C len
 ·rw [chk_ok h1] at K1
  by_cases h2 : R = C
  ·rw [sqB_yes ⟨h1, h2⟩]
   clear h1
   subst h2
   go_enter Tryz.func80, Tryz.ntmps80
   go_wp2_with fail
   generalize w.alloc (.cells #[.int .i64 R, .int .i64 R, .slice ao len cap] 38) = w1 at *
   refine (unhide K1 _).mono ?_
   rintro e w2 ⟨rfl, g2⟩
   have y0 : w2.cell? ⟨w.heap.size, 0, none⟩ = some (.int .i64 R) := Blk.cell (Blk.grown (unhide G1).2 g2) 0
   have y1 : w2.cell? ⟨w.heap.size, 1, none⟩ = some (.int .i64 R) := Blk.cell (Blk.grown (unhide G1).2 g2) 1
   have GG := hide (gtrans (unhide G1).1 g2)
   clear G1 g2 K1
   go_wp2
   go_ret
   exact ⟨rfl, unhide GG⟩
  ·rw [sqB_no (fun h => h2 h.2)]
   have b3 : (R == C) = false := by simpa using h2
   clear h1 h2
   go_enter Tryz.func80, Tryz.ntmps80
   go_wp2_with fail
   generalize w.alloc (.cells #[.int .i64 R, .int .i64 C, .slice ao len cap] 38) = w1 at *
   refine (unhide K1 _).mono ?_
   rintro e w2 ⟨rfl, g2⟩
   have y0 : w2.cell? ⟨w.heap.size, 0, none⟩ = some (.int .i64 R) := Blk.cell (Blk.grown (unhide G1).2 g2) 0
   have y1 : w2.cell? ⟨w.heap.size, 1, none⟩ = some (.int .i64 C) := Blk.cell (Blk.grown (unhide G1).2 g2) 1
   have GG := hide (gtrans (unhide G1).1 g2)
   clear G1 g2 K1
   go_wp2
   go_ret
   exact ⟨rfl, unhide GG⟩
 ·rw [chk_bad h1] at K1
  rw [sqB_no (fun h => h1 h.1)]
  clear h1
  go_enter Tryz.func80, Tryz.ntmps80
  go_wp2_with fail
  generalize w.alloc (.cells #[.int .i64 R, .int .i64 C, .slice ao len cap] 38) = w1 at *
  refine (unhide K1 _).mono ?_
  rintro e w2 ⟨rfl, g2⟩
  have GG := hide (gtrans (unhide G1).1 g2)
  clear G1 g2 K1
  go_wp2
  go_ret
  exact ⟨rfl, unhide GG⟩
def errB (b : Bool) : Int := if b then 0 else 3
set_option maxHeartbeats 2000000 in
theorem polyRefuse (U : Nat) (c : Bool) (m : Int) (hm : 0 ≤ m ∧ m < 2305843009213693952) (b : Bool) (w : World) (h : UC U c m w) : Calls Tryz.prog 79 #[.pointer (some ⟨U, 0, none⟩), .bool b] w fun e w' => e = .returned (.int .i64 (errB b)) ∧ UC U c m w' ∧ Mod U w w' := by
 have D := hide (refuseDot U c m hm _ h)
 clear h
 cases b
 ·show Calls _ _ _ _ fun e w' => e = .returned (.int .i64 3) ∧ _ ∧ _
  go_enter Tryz.func79, Tryz.ntmps79
  go_wp2_with fail
  refine (unhide D).mono ?_
  rintro e w2 ⟨rfl, u2, m2⟩
  have GG := hide (And.intro u2 m2)
  clear m2 u2 D
  go_wp2
  go_ret
  exact ⟨rfl, (unhide GG).1, (unhide GG).2⟩
 ·show Calls _ _ _ _ fun e w' => e = .returned (.int .i64 0) ∧ _ ∧ _
  go_enter Tryz.func79, Tryz.ntmps79
  go_wp2_with fail
  refine (unhide D).mono ?_
  rintro e w2 ⟨rfl, u2, m2⟩
  have GG := hide (And.intro u2 m2)
  clear m2 u2 D
  go_wp2
  go_ret
  exact ⟨rfl, (unhide GG).1, (unhide GG).2⟩
set_option maxRecDepth 20000 in
set_option maxHeartbeats 4000000 in
theorem polyUpper_ok (n b o cap : Nat) (A : Nat → Int) (hn : 1 ≤ n ∧ n ≤ 12) (w : World) (hz : ∀ j, j < n * n → w.cell? ⟨b, o + j, none⟩ = some (.int .i64 (A j))) :
  Calls Tryz.prog 81 #[.agg #[.int .i64 n, .int .i64 n, .slice (some ⟨b, o, none⟩) (n * n) cap]] w fun e w' => e = .returned (.bool (upTo A n n)) ∧ Grown w w' := by
 have SQ := hide (fun w => polySquare n n (some ⟨b, o, none⟩) (n * n) cap w)
 rw [sqB_yes (sqA_of hn)] at SQ
 have HP : Hid (∀ i k, i < n → k < n → i * n + k < n * n) := fun i k hi hk => place_in i k n n hi hk
 have HL := (mul12n n n hn hn).2
 obtain ⟨nn, hnn⟩ : ∃ nn, n * n = nn := ⟨_, rfl⟩
 rw [hnn] at HL HP SQ hz
 rw [hnn]
 have G1 : Hid (Grown w (w.alloc (.cells #[.int .i64 n, .int .i64 n, .slice (some ⟨b, o, none⟩) nn cap] 38)) ∧ Blk w.heap.size #[.int .i64 n, .int .i64 n, .slice (some ⟨b, o, none⟩) nn cap] 38 (w.alloc (.cells #[.int .i64 n, .int .i64 n, .slice (some ⟨b, o, none⟩) nn cap] 38))) := ⟨(Grown.refl _).alloc _ _, Blk.new w _ _⟩
 have HZ := hide hz
 obtain ⟨n0, n1⟩ := hn
 clear hz hnn
 go_enter Tryz.func81, Tryz.ntmps81
 go_wp2_with fail
 generalize w.alloc (.cells #[.int .i64 n, .int .i64 n, .slice (some ⟨b, o, none⟩) nn cap] 38) = w1 at *
 refine (unhide SQ _).mono ?_
 rintro e w2 ⟨rfl, g2⟩
 have b2 := Blk.grown (unhide G1).2 g2
 have y0 : w2.cell? ⟨w.heap.size, 0, none⟩ = some (.int .i64 n) := Blk.cell b2 0
 have y1 : w2.cell? ⟨w.heap.size, 1, none⟩ = some (.int .i64 n) := Blk.cell b2 1
 have y2 : w2.cell? ⟨w.heap.size, 2, none⟩ = some (.slice (some ⟨b, o, none⟩) nn cap) := Blk.cell b2 2
 have GG : Hid (Grown w w2) := gtrans (unhide G1).1 g2
 have Z2 : Hid (∀ j, j < nn → w2.cell? ⟨b, o + j, none⟩ = some (.int .i64 (A j))) := fun j hj => gat (unhide GG) (unhide HZ j hj)
 clear G1 g2 SQ b2 HZ
 go_wp2_with fail
 go_loop [10] (fun i => ∃ k : Nat, k ≤ n ∧ i = .int .i64 k ∧ Hid (upTo A n k = true)) (fun i => n - (intOf i).toNat)
 case atStart => exact ⟨0, Nat.zero_le _, rfl, rfl⟩
 case round =>
  obtain ⟨i, hi, rfl, HI⟩ := hrel
  by_cases hlt : i < n
  ·go_wp2_with fail
   go_loop [15] (fun k => ∃ j : Nat, j ≤ i + 1 ∧ k = .int .i64 j ∧ Hid (upRow A n i j = true)) (fun k => i + 1 - (intOf k).toNat)
   case atStart => exact ⟨0, Nat.zero_le _, rfl, rfl⟩
   case round =>
    obtain ⟨k, hk, rfl, HK⟩ := hrel
    by_cases hkt : k < i + 1
    ·have hp := unhide HP i k hlt (by omega)
     have hc := unhide Z2 _ hp
     have e2 : upRow A n i (k + 1) = (A (i * n + k) == 0) := by
      show (upRow A n i k && _) = _
      rw [unhide HK, Bool.true_and]
     obtain ⟨p, hpe⟩ : ∃ p, i * n + k = p := ⟨_, rfl⟩
     obtain ⟨q, hqe⟩ : ∃ q, i * n = q := ⟨_, rfl⟩
     rw [hpe] at hp hc e2
     rw [hqe] at hpe
     have wa : wrap64 ((i : Int) * (n : Int)) = (q : Int) := wrapP i n q hqe (by omega)
     have wb : wrap64 ((q : Int) + (k : Int)) = (p : Int) := wrapA q k p hpe (by omega)
     obtain ⟨x, hx⟩ : ∃ x, A p = x := ⟨_, rfl⟩
     rw [hx] at hc e2
     have E2 := hide e2
     clear hx hqe hpe e2
     by_cases h0 : x = 0
     ·subst h0
      go_wp2
      go_round
      case rel => exact ⟨k + 1, by omega, by go_num, (unhide E2).trans rfl⟩
      case measure => simp [intOf]; omega
     ·have hx0 : (x != 0) = true := by simpa using h0
      have EN : Hid (upTo A n n = false) := by
       cases hu : upTo A n n with
       | false => rfl
       | true =>
        exfalso
        have := (upTo_true A n n).1 hu i hlt
        have h3 := (upRow_true A n i (k + 1)).2 (fun j hj => this j (by omega))
        rw [unhide E2] at h3
        exact h0 (by simpa using h3)
      go_wp2
      go_ret
      exact ⟨by rw [unhide EN]; rfl, unhide GG⟩
    ·obtain rfl : k = i + 1 := by omega
     have R : Hid (upTo A n (i + 1) = true) := by
      show (upTo A n i && upRow A n i (i + 1)) = true
      rw [unhide HI, unhide HK]
      rfl
     go_wp2
     go_round
     case rel => exact ⟨i + 1, by omega, by go_num, R⟩
     case measure => simp [intOf]; omega
  ·obtain rfl : i = n := by omega
   go_wp2
   go_ret
   exact ⟨by rw [unhide HI]; rfl, unhide GG⟩
end Go.Proofs.YtjobgjcfkomhpaaGreat
namespace Go.Proofs.YtjobgjcfkomhpaaGreat
open Go.RowKit Go.Shelf Go.Proofs.Wd
set_option maxRecDepth 10000
theorem ready_mem {md : Region.Mode} {ops : Array Oper} {listed : Array Bool} {i : Nat} (h : i ∈ Region.ready md ops listed) :
  i < ops.size ∧ listed.getD i true = false ∧ ∀ o, ops[i]? = some o → ∀ e ∈ o.after, Region.binds md e = true → listed.getD e.on false = true := by
 unfold Region.ready at h
 rw [List.mem_filter, List.mem_range] at h
 obtain ⟨h1, h2⟩ := h
 rw [Bool.and_eq_true] at h2
 refine ⟨h1, by simpa using h2.1, fun o ho e he hb => ?_⟩
 have h3 := h2.2
 rw [ho] at h3
 simp only [Option.map_some, Option.getD_some] at h3
 rw [Array.all_eq_true_iff_forall_mem] at h3
 have := h3 e he
 rw [hb] at this
 simpa using this
section
variable {ops : Array Oper} {Q : Exit → Act → World → Prop} {i d k : Nat} {K : Act → World → Prop} {a : Act} {w : World} {T : TypeId} {pos : String} {aft : Array Edge}
theorem wpOp_of {P : Program} {o : Oper} (hi : ops[i]? = some o) (hg : o.guard = none) (h : o.wp P a w K Q) : wpOp P ops Q i K a w := by
 unfold wpOp
 simp only [hi]
 rw [if_pos (by simp [Region.wanted, hg])]
 exact Or.inl h
end
end Go.Proofs.YtjobgjcfkomhpaaGreat
namespace Go.Proofs.YtjobgjcfkomhpaaGreat
open Go.RowKit Go.Shelf Go.Proofs.Wd
set_option maxRecDepth 10000
section
variable {P : Program} {ops : Array Oper} {Q : Exit → Act → World → Prop} {md : Region.Mode} {S : World → Prop} {g : Nat}
def wpAnyG (P : Program) (md : Region.Mode) (ops : Array Oper) (Q : Exit → Act → World → Prop) (S : World → Prop) (g : Nat) : Nat → Array Bool → Act → World → Prop
 | 0, listed, a, w => Region.ready md ops listed = [] ∧ Q .normal a w
 | fuel + 1, listed, a, w =>
  (Region.ready md ops listed = [] → Q .normal a w) ∧
  ∀ i ∈ Region.ready md ops listed, wpOp P ops Q i (fun a' w' => (i ≠ g → S w') ∧ wpAnyG P md ops Q S g fuel (listed.setIfInBounds i true) a' w') a w
theorem wpAny_of_G : ∀ (fuel : Nat) (listed : Array Bool) (a : Act) (w : World), wpAnyG P md ops Q S g fuel listed a w → wpAny P md ops Q fuel listed a w
 | 0, _, _, _, h => h
 | fuel + 1, _, _, _, h => ⟨h.1, fun i hi => wpOp_mono (fun a' w' h' => wpAny_of_G fuel _ a' w' h'.2) (h.2 i hi)⟩
def waitsFor (md : Region.Mode) (ops : Array Oper) (g i : Nat) : Bool := ((ops[g]?).map (·.after.any fun e => Region.binds md e && e.on == i)).getD false
theorem waits_listed {listed : Array Bool} {i : Nat} (h : waitsFor md ops g i = true) (hg : g ∈ Region.ready md ops listed) : listed.getD i false = true := by
 unfold waitsFor at h
 cases ho : ops[g]? with
 | none => rw [ho] at h; cases h
 | some o =>
  rw [ho] at h
  simp only [Option.map_some, Option.getD_some] at h
  obtain ⟨e, he, hb⟩ := Array.any_eq_true'.1 h
  rw [Bool.and_eq_true] at hb
  have := (ready_mem hg).2.2 o ho e he hb.1
  rwa [eq_of_beq hb.2] at this
theorem G_first {i : Nat} {oi : Oper} {v : Value} (hi : ops[i]? = some oi) (hgi : waitsFor md ops g i = true) (hig : i ≠ g) (hsel : ∀ (j : Nat) (o : Oper) cs b, ops[j]? = some o → o.op ≠ .select cs b)
  (hQ : ∀ c a w, Q (.panic c) (a.put oi.dst v) w → Q (.panic c) a w) :
  ∀ (fuel : Nat) (listed : Array Bool) (a : Act) (w : World),
   (∀ j oj, ops[j]? = some oj → j ≠ i → listed.getD j true = false → (∀ e ∈ oj.after, Region.binds md e = true → e.on ≠ i) → oi.apart ops oj = true) →
   i ∈ Region.ready md ops listed → YieldsIf P ops S oi v a → S w →
   wpAnyG P md ops Q S g fuel (listed.setIfInBounds i true) (a.put oi.dst v) w → wpAnyG P md ops Q S g (fuel + 1) listed a w := by
 intro fuel
 induction fuel with
 | zero =>
  intro listed a w _ hr hy hS H
  refine ⟨fun h => (by rw [h] at hr; cases hr), fun j hj => ?_⟩
  by_cases hji : j = i
  ·subst hji; exact hy.wpOp hi hS ⟨fun _ => hS, H⟩
  ·have := ready_mono hj hji
   rw [H.1] at this
   cases this
 | succ fuel ih =>
  intro listed a w hfree hr hy hS H
  refine ⟨fun h => (by rw [h] at hr; cases hr), fun j hj => ?_⟩
  by_cases hji : j = i
  ·subst hji; exact hy.wpOp hi hS ⟨fun _ => hS, H⟩
  ·have hun := (ready_mem hr).2.1
   have hjg : j ≠ g := by
    intro e
    subst e
    have h1 := waits_listed hgi hj
    rcases Nat.lt_or_ge i listed.size with h' | h'
    ·simp [Array.getD, h'] at hun h1
     rw [hun] at h1
     cases h1
    ·simp [Array.getD, Nat.not_lt.2 h'] at h1
   have h1 := H.2 j (ready_mono hj hji)
   have hoj' := (ready_mem hj).1
   obtain ⟨oj, hoj⟩ : ∃ oj, ops[j]? = some oj := ⟨ops[j], by simp [hoj']⟩
   have hjun := (ready_mem hj).2.1
   have hnot : ∀ e ∈ oj.after, Region.binds md e = true → e.on ≠ i := fun e he hb heq => by
    have h1 := (ready_mem hj).2.2 oj hoj e he hb
    rw [heq] at h1
    rcases Nat.lt_or_ge i listed.size with h' | h'
    ·simp [Array.getD, h'] at hun h1
     rw [hun] at h1
     cases h1
    ·simp [Array.getD, Nat.not_lt.2 h'] at h1
   have h2 := wpOp_putIf hoj (hfree j oj hoj hji hjun hnot) (fun cs b => hsel i oi cs b hi) (fun cs b => hsel j oj cs b hoj) hQ hy h1
   have hfree' : ∀ k ok, ops[k]? = some ok → k ≠ i → (listed.setIfInBounds j true).getD k true = false →
     (∀ e ∈ ok.after, Region.binds md e = true → e.on ≠ i) → oi.apart ops ok = true := fun k ok hk hki hun hno => by
    refine hfree k ok hk hki ?_ hno
    by_cases hjk : j = k
    ·subst hjk; exact hjun
    ·rw [getD_set_ne true hjk] at hun; exact hun
   refine wpOp_mono (fun a' w' h3 => ⟨fun _ => h3.2.1 hjg, ih (listed.setIfInBounds j true) a' w' hfree' (ready_mono hr (Ne.symm hji)) h3.1 (h3.2.1 hjg) ?_⟩) h2
   rw [Array.setIfInBounds_comm _ _ hji]
   exact h3.2.2
theorem region_G {id : Nat} {a : Act} {w : World} (S : World → Prop) (g : Nat) (hm : P.follows .mixedOrders = true) (hS : S w.drew)
  (h : S w.drew → wpAnyG P .any ops (NoPanic Q) S g ops.size (Array.replicate ops.size false) a w.drew) : (Code.region id ops true).wp P Q a w :=
 wp_region_noPanic (wp_region_any hm (wpAny_of_G _ _ _ _ (h hS)))
theorem take_G {i d : Nat} {oi : Oper} {v : Value} {fuel : Nat} {listed : Array Bool} {a : Act} {w : World} (hi : ops[i]? = some oi) (hd : oi.dst = some d) (hgi : waitsFor md ops g i = true) (hig : (i == g) = false)
  (hs : Region.noSelect ops = true) (hf : Region.free md ops listed i = true) (hr : (Region.ready md ops listed).contains i = true)
  (hy : YieldsIf P ops S oi v a) (hS : S w)
  (h : wpAnyG P md ops (NoPanic Q) S g fuel (listed.setIfInBounds i true) (a.put (some d) v) w) : wpAnyG P md ops (NoPanic Q) S g (fuel + 1) listed a w := by
 refine G_first hi hgi (by simpa using hig) (Region.noSelect_spec hs) (fun _ _ _ h => h) fuel listed a w (Region.free_spec hi hf) (by simpa using hr) hy hS ?_
 rw [hd]
 exact h
theorem one_G {i fuel : Nat} {listed : Array Bool} {a : Act} {w : World} (hr : Region.ready md ops listed = [i])
  (h : wpOp P ops (NoPanic Q) i (fun a' w' => (i ≠ g → S w') ∧ wpAnyG P md ops (NoPanic Q) S g fuel (listed.setIfInBounds i true) a' w') a w) : wpAnyG P md ops (NoPanic Q) S g (fuel + 1) listed a w :=
 ⟨fun h0 => by (rw [hr] at h0; cases h0), fun j hj => by rw [hr] at hj; cases List.mem_singleton.1 hj; exact h⟩
theorem step_G {i fuel : Nat} {listed : Array Bool} {a : Act} {w : World} (hr : Region.ready md ops listed = [i])
  (h : ∀ K : Act → World → Prop, (∀ a' w', (i ≠ g → S w') → wpAnyG P md ops (NoPanic Q) S g fuel (listed.setIfInBounds i true) a' w' → K a' w') → wpOp P ops (NoPanic Q) i K a w) : wpAnyG P md ops (NoPanic Q) S g (fuel + 1) listed a w :=
 one_G hr (h _ (fun a' w' h1 h2 => ⟨h1, h2⟩))
theorem done_G {fuel : Nat} {listed : Array Bool} {a : Act} {w : World} (hr : Region.ready md ops listed = []) (h : NoPanic Q .normal a w) : wpAnyG P md ops (NoPanic Q) S g fuel listed a w := by
 cases fuel with
 | zero => exact ⟨hr, h⟩
 | succ f => exact ⟨fun _ => h, fun j hj => by rw [hr] at hj; cases hj⟩
end
end Go.Proofs.YtjobgjcfkomhpaaGreat
namespace Go.Proofs.YtjobgjcfkomhpaaGreat
open Go.RowKit Go.Shelf Go.Proofs.Wd
set_option maxRecDepth 10000
theorem wpOp_wantP {P : Program} {ops : Array Oper} {Q : Exit → Act → World → Prop} {i : Nat} {K : Act → World → Prop} {a : Act} {w : World} {o : Oper} (hi : ops[i]? = some o) (hw : Region.wanted o (yielded ops a.tmps) = true) (h : o.wp P a w K Q) : wpOp P ops Q i K a w := by
 unfold wpOp
 rw [hi]
 simp only
 rw [if_pos hw]
 exact Or.inl h
def likeM (R C : Int) (len : Nat) (R0 C0 : Int) : Prop := okM R C len ∧ R = R0 ∧ C = C0
open Classical in
noncomputable def badM (R C : Int) (len : Nat) (R0 C0 : Int) : Bool := decide (¬ likeM R C len R0 C0)
theorem badM_yes {R C R0 C0 : Int} {len : Nat} (h : ¬ likeM R C len R0 C0) : badM R C len R0 C0 = true := by classical exact decide_eq_true h
theorem badM_no {R C R0 C0 : Int} {len : Nat} (h : likeM R C len R0 C0) : badM R C len R0 C0 = false := by classical exact decide_eq_false (fun k => k h)
set_option maxRecDepth 50000 in
set_option maxHeartbeats 4000000 in
theorem polyn1_bad (R C R0 C0 : Int) (ao : Option Addr) (len cap pb b o n pc : Nat) (hn : 1 ≤ n) (hb : ¬ okM R C len) (w : World) (hp : w.cell? ⟨pb, 0, none⟩ = some (.slice (some ⟨b, o, none⟩) n pc)) (h0 : w.cell? ⟨b, o, none⟩ = some (.int .i64 R0)) (h1 : w.cell? ⟨b, o + 1, none⟩ = some (.int .i64 C0)) :
  Calls Tryz.prog 123 #[.agg #[.int .i64 R, .int .i64 C, .slice ao len cap], .pointer (some ⟨pb, 0, none⟩)] w fun e w' => e = .returned (.bool true) ∧ Grown w w' := by
 have CK := hide (fun w => matCheck R C ao len cap w)
 rw [chk_bad hb] at CK
 have g1 : Grown w (w.alloc (.cells #[.int .i64 R, .int .i64 C, .slice ao len cap] 38)) := (Grown.refl _).alloc _ _
 have b1 := Blk.new w #[.int .i64 R, .int .i64 C, .slice ao len cap] 38
 have HH : Hid ((fun w' => w'.cell? ⟨w.heap.size, 0, none⟩ = some (.int .i64 R) ∧ w'.cell? ⟨w.heap.size, 1, none⟩ = some (.int .i64 C) ∧ w'.cell? ⟨w.heap.size, 2, none⟩ = some (.slice ao len cap) ∧ w'.cell? ⟨pb, 0, none⟩ = some (.slice (some ⟨b, o, none⟩) n pc) ∧ w'.cell? ⟨b, o, none⟩ = some (.int .i64 R0) ∧ w'.cell? ⟨b, o + 1, none⟩ = some (.int .i64 C0)) (w.alloc (.cells #[.int .i64 R, .int .i64 C, .slice ao len cap] 38))) := ⟨Blk.cell b1 0, Blk.cell b1 1, Blk.cell b1 2, gat g1 hp, gat g1 h0, gat g1 h1⟩
 have HG := hide g1
 have i0 : (0 : Int) < (n : Int) := by omega
 clear g1 b1 hp h0 h1 hb
 go_enter Tryz.func123, Tryz.ntmps123
 go_wp2_with fail
 generalize w.alloc (.cells #[.int .i64 R, .int .i64 C, .slice ao len cap] 38) = w1 at *
 have HH2 : Hid ((fun w' => w'.cell? ⟨w.heap.size, 0, none⟩ = some (.int .i64 R) ∧ w'.cell? ⟨w.heap.size, 1, none⟩ = some (.int .i64 C) ∧ w'.cell? ⟨w.heap.size, 2, none⟩ = some (.slice ao len cap) ∧ w'.cell? ⟨pb, 0, none⟩ = some (.slice (some ⟨b, o, none⟩) n pc) ∧ w'.cell? ⟨b, o, none⟩ = some (.int .i64 R0) ∧ w'.cell? ⟨b, o + 1, none⟩ = some (.int .i64 C0)) w1.drew) := unhide HH
 clear HH
 have HH := HH2
 clear HH2
 refine region_G (fun w' => w'.cell? ⟨w.heap.size, 0, none⟩ = some (.int .i64 R) ∧ w'.cell? ⟨w.heap.size, 1, none⟩ = some (.int .i64 C) ∧ w'.cell? ⟨w.heap.size, 2, none⟩ = some (.slice ao len cap) ∧ w'.cell? ⟨pb, 0, none⟩ = some (.slice (some ⟨b, o, none⟩) n pc) ∧ w'.cell? ⟨b, o, none⟩ = some (.int .i64 R0) ∧ w'.cell? ⟨b, o + 1, none⟩ = some (.int .i64 C0)) 21 (by kernel_rfl) (unhide HH) (fun hHeld => ?_)
 refine take_G (i := 0) (d := 4) (v := .agg #[.int .i64 R, .int .i64 C, .slice ao len cap]) rfl rfl (by kernel_rfl) (by kernel_rfl) (by kernel_rfl) (by kernel_rfl) (by kernel_rfl) (Or.inl ⟨by rfl, ?_⟩) hHeld ?_
 ·intro wS hSw
  obtain ⟨z0, z1, z2, z3, z4, z5⟩ := hSw
  clear hHeld
  go_simp
  (try (intro hz; omega))
 (try simp only [Act.put, List.setIfInBounds_toArray, List.set_cons_zero, List.set_cons_succ])
 refine step_G (i := 1) (by kernel_rfl) (fun K hK => ?_)
 refine wpOp_wantP rfl (by rfl) ?_
 unfold Oper.wp
 go_simp
 refine (unhide CK _).mono ?_
 rintro e w3 ⟨rfl, g3⟩
 have hHeld : (fun w' => w'.cell? ⟨w.heap.size, 0, none⟩ = some (.int .i64 R) ∧ w'.cell? ⟨w.heap.size, 1, none⟩ = some (.int .i64 C) ∧ w'.cell? ⟨w.heap.size, 2, none⟩ = some (.slice ao len cap) ∧ w'.cell? ⟨pb, 0, none⟩ = some (.slice (some ⟨b, o, none⟩) n pc) ∧ w'.cell? ⟨b, o, none⟩ = some (.int .i64 R0) ∧ w'.cell? ⟨b, o + 1, none⟩ = some (.int .i64 C0)) w3 := ⟨gat g3 (unhide HH).1, gat g3 (unhide HH).2.1, gat g3 (unhide HH).2.2.1, gat g3 (unhide HH).2.2.2.1, gat g3 (unhide HH).2.2.2.2.1, gat g3 (unhide HH).2.2.2.2.2⟩
 have GG := hide (gtrans (unhide HG) g3)
 clear g3 HG
 refine hK _ _ (fun _ => hHeld) ?_
 clear hK K
 (try simp only [Act.put, List.setIfInBounds_toArray, List.set_cons_zero, List.set_cons_succ])
 refine take_G (i := 2) (d := 6) (v := .bool true) rfl rfl (by kernel_rfl) (by kernel_rfl) (by kernel_rfl) (by kernel_rfl) (by kernel_rfl) (Or.inl ⟨by rfl, ?_⟩) hHeld ?_
 ·intro wS hSw
  obtain ⟨z0, z1, z2, z3, z4, z5⟩ := hSw
  clear hHeld
  go_simp
  (try (intro hz; omega))
 (try simp only [Act.put, List.setIfInBounds_toArray, List.set_cons_zero, List.set_cons_succ])
 refine take_G (i := 3) (d := 7) (v := .bool true) rfl rfl (by kernel_rfl) (by kernel_rfl) (by kernel_rfl) (by kernel_rfl) (by kernel_rfl) (Or.inl ⟨by rfl, ?_⟩) hHeld ?_
 ·intro wS hSw
  obtain ⟨z0, z1, z2, z3, z4, z5⟩ := hSw
  clear hHeld
  go_simp
  (try (intro hz; omega))
 (try simp only [Act.put, List.setIfInBounds_toArray, List.set_cons_zero, List.set_cons_succ])
 refine take_G (i := 4) (d := 8) (v := undef) rfl rfl (by kernel_rfl) (by kernel_rfl) (by kernel_rfl) (by kernel_rfl) (by kernel_rfl) (Or.inr ⟨by rfl, rfl⟩) hHeld ?_
 (try simp only [Act.put, List.setIfInBounds_toArray, List.set_cons_zero, List.set_cons_succ])
 refine take_G (i := 5) (d := 9) (v := undef) rfl rfl (by kernel_rfl) (by kernel_rfl) (by kernel_rfl) (by kernel_rfl) (by kernel_rfl) (Or.inr ⟨by rfl, rfl⟩) hHeld ?_
 (try simp only [Act.put, List.setIfInBounds_toArray, List.set_cons_zero, List.set_cons_succ])
 refine take_G (i := 6) (d := 10) (v := undef) rfl rfl (by kernel_rfl) (by kernel_rfl) (by kernel_rfl) (by kernel_rfl) (by kernel_rfl) (Or.inr ⟨by rfl, rfl⟩) hHeld ?_
 (try simp only [Act.put, List.setIfInBounds_toArray, List.set_cons_zero, List.set_cons_succ])
 refine take_G (i := 7) (d := 11) (v := undef) rfl rfl (by kernel_rfl) (by kernel_rfl) (by kernel_rfl) (by kernel_rfl) (by kernel_rfl) (Or.inr ⟨by rfl, rfl⟩) hHeld ?_
 (try simp only [Act.put, List.setIfInBounds_toArray, List.set_cons_zero, List.set_cons_succ])
 refine take_G (i := 8) (d := 12) (v := undef) rfl rfl (by kernel_rfl) (by kernel_rfl) (by kernel_rfl) (by kernel_rfl) (by kernel_rfl) (Or.inr ⟨by rfl, rfl⟩) hHeld ?_
 (try simp only [Act.put, List.setIfInBounds_toArray, List.set_cons_zero, List.set_cons_succ])
 refine take_G (i := 9) (d := 13) (v := undef) rfl rfl (by kernel_rfl) (by kernel_rfl) (by kernel_rfl) (by kernel_rfl) (by kernel_rfl) (Or.inr ⟨by rfl, rfl⟩) hHeld ?_
 (try simp only [Act.put, List.setIfInBounds_toArray, List.set_cons_zero, List.set_cons_succ])
 refine take_G (i := 10) (d := 14) (v := undef) rfl rfl (by kernel_rfl) (by kernel_rfl) (by kernel_rfl) (by kernel_rfl) (by kernel_rfl) (Or.inr ⟨by rfl, rfl⟩) hHeld ?_
 (try simp only [Act.put, List.setIfInBounds_toArray, List.set_cons_zero, List.set_cons_succ])
 refine take_G (i := 11) (d := 15) (v := .bool true) rfl rfl (by kernel_rfl) (by kernel_rfl) (by kernel_rfl) (by kernel_rfl) (by kernel_rfl) (Or.inl ⟨by rfl, ?_⟩) hHeld ?_
 ·intro wS hSw
  obtain ⟨z0, z1, z2, z3, z4, z5⟩ := hSw
  clear hHeld
  go_simp
  (try (intro hz; omega))
 (try simp only [Act.put, List.setIfInBounds_toArray, List.set_cons_zero, List.set_cons_succ])
 refine take_G (i := 12) (d := 16) (v := .bool true) rfl rfl (by kernel_rfl) (by kernel_rfl) (by kernel_rfl) (by kernel_rfl) (by kernel_rfl) (Or.inl ⟨by rfl, ?_⟩) hHeld ?_
 ·intro wS hSw
  obtain ⟨z0, z1, z2, z3, z4, z5⟩ := hSw
  clear hHeld
  go_simp
  (try (intro hz; omega))
 (try simp only [Act.put, List.setIfInBounds_toArray, List.set_cons_zero, List.set_cons_succ])
 refine take_G (i := 13) (d := 17) (v := undef) rfl rfl (by kernel_rfl) (by kernel_rfl) (by kernel_rfl) (by kernel_rfl) (by kernel_rfl) (Or.inr ⟨by rfl, rfl⟩) hHeld ?_
 (try simp only [Act.put, List.setIfInBounds_toArray, List.set_cons_zero, List.set_cons_succ])
 refine take_G (i := 14) (d := 18) (v := undef) rfl rfl (by kernel_rfl) (by kernel_rfl) (by kernel_rfl) (by kernel_rfl) (by kernel_rfl) (Or.inr ⟨by rfl, rfl⟩) hHeld ?_
 (try simp only [Act.put, List.setIfInBounds_toArray, List.set_cons_zero, List.set_cons_succ])
 refine take_G (i := 15) (d := 19) (v := undef) rfl rfl (by kernel_rfl) (by kernel_rfl) (by kernel_rfl) (by kernel_rfl) (by kernel_rfl) (Or.inr ⟨by rfl, rfl⟩) hHeld ?_
 (try simp only [Act.put, List.setIfInBounds_toArray, List.set_cons_zero, List.set_cons_succ])
 refine take_G (i := 16) (d := 20) (v := undef) rfl rfl (by kernel_rfl) (by kernel_rfl) (by kernel_rfl) (by kernel_rfl) (by kernel_rfl) (Or.inr ⟨by rfl, rfl⟩) hHeld ?_
 (try simp only [Act.put, List.setIfInBounds_toArray, List.set_cons_zero, List.set_cons_succ])
 refine take_G (i := 17) (d := 21) (v := undef) rfl rfl (by kernel_rfl) (by kernel_rfl) (by kernel_rfl) (by kernel_rfl) (by kernel_rfl) (Or.inr ⟨by rfl, rfl⟩) hHeld ?_
 (try simp only [Act.put, List.setIfInBounds_toArray, List.set_cons_zero, List.set_cons_succ])
 refine take_G (i := 18) (d := 22) (v := undef) rfl rfl (by kernel_rfl) (by kernel_rfl) (by kernel_rfl) (by kernel_rfl) (by kernel_rfl) (Or.inr ⟨by rfl, rfl⟩) hHeld ?_
 (try simp only [Act.put, List.setIfInBounds_toArray, List.set_cons_zero, List.set_cons_succ])
 refine take_G (i := 19) (d := 23) (v := undef) rfl rfl (by kernel_rfl) (by kernel_rfl) (by kernel_rfl) (by kernel_rfl) (by kernel_rfl) (Or.inr ⟨by rfl, rfl⟩) hHeld ?_
 (try simp only [Act.put, List.setIfInBounds_toArray, List.set_cons_zero, List.set_cons_succ])
 refine take_G (i := 20) (d := 24) (v := .bool true) rfl rfl (by kernel_rfl) (by kernel_rfl) (by kernel_rfl) (by kernel_rfl) (by kernel_rfl) (Or.inl ⟨by rfl, ?_⟩) hHeld ?_
 ·intro wS hSw
  obtain ⟨z0, z1, z2, z3, z4, z5⟩ := hSw
  clear hHeld
  go_simp
  (try (intro hz; omega))
 (try simp only [Act.put, List.setIfInBounds_toArray, List.set_cons_zero, List.set_cons_succ])
 clear hHeld
 refine step_G (i := 21) (by kernel_rfl) (fun K hK => ?_)
 refine wpOp_wantP rfl (by rfl) ?_
 unfold Oper.wp
 go_simp
 refine hK _ _ (fun h => absurd rfl h) ?_
 clear hK K
 (try simp only [Act.put, List.setIfInBounds_toArray, List.set_cons_zero, List.set_cons_succ])
 refine done_G (by kernel_rfl) ?_
 refine noPanic_normalE ?_
 go_wp2
 go_ret
 exact ⟨rfl, unhide GG⟩
set_option maxRecDepth 50000 in
set_option maxHeartbeats 4000000 in
theorem polyn1_R (R C R0 C0 : Int) (ao : Option Addr) (len cap pb b o n pc : Nat) (hn : 1 ≤ n) (hb : okM R C len) (hr : R ≠ R0) (w : World) (hp : w.cell? ⟨pb, 0, none⟩ = some (.slice (some ⟨b, o, none⟩) n pc)) (h0 : w.cell? ⟨b, o, none⟩ = some (.int .i64 R0)) (h1 : w.cell? ⟨b, o + 1, none⟩ = some (.int .i64 C0)) :
  Calls Tryz.prog 123 #[.agg #[.int .i64 R, .int .i64 C, .slice ao len cap], .pointer (some ⟨pb, 0, none⟩)] w fun e w' => e = .returned (.bool true) ∧ Grown w w' := by
 have CK := hide (fun w => matCheck R C ao len cap w)
 rw [chk_ok hb] at CK
 have g1 : Grown w (w.alloc (.cells #[.int .i64 R, .int .i64 C, .slice ao len cap] 38)) := (Grown.refl _).alloc _ _
 have b1 := Blk.new w #[.int .i64 R, .int .i64 C, .slice ao len cap] 38
 have HH : Hid ((fun w' => w'.cell? ⟨w.heap.size, 0, none⟩ = some (.int .i64 R) ∧ w'.cell? ⟨w.heap.size, 1, none⟩ = some (.int .i64 C) ∧ w'.cell? ⟨w.heap.size, 2, none⟩ = some (.slice ao len cap) ∧ w'.cell? ⟨pb, 0, none⟩ = some (.slice (some ⟨b, o, none⟩) n pc) ∧ w'.cell? ⟨b, o, none⟩ = some (.int .i64 R0) ∧ w'.cell? ⟨b, o + 1, none⟩ = some (.int .i64 C0)) (w.alloc (.cells #[.int .i64 R, .int .i64 C, .slice ao len cap] 38))) := ⟨Blk.cell b1 0, Blk.cell b1 1, Blk.cell b1 2, gat g1 hp, gat g1 h0, gat g1 h1⟩
 have HG := hide g1
 have i0 : (0 : Int) < (n : Int) := by omega
 have b2 : (R != R0) = true := by simpa using hr
 clear g1 b1 hp h0 h1 hb hr
 go_enter Tryz.func123, Tryz.ntmps123
 go_wp2_with fail
 generalize w.alloc (.cells #[.int .i64 R, .int .i64 C, .slice ao len cap] 38) = w1 at *
 have HH2 : Hid ((fun w' => w'.cell? ⟨w.heap.size, 0, none⟩ = some (.int .i64 R) ∧ w'.cell? ⟨w.heap.size, 1, none⟩ = some (.int .i64 C) ∧ w'.cell? ⟨w.heap.size, 2, none⟩ = some (.slice ao len cap) ∧ w'.cell? ⟨pb, 0, none⟩ = some (.slice (some ⟨b, o, none⟩) n pc) ∧ w'.cell? ⟨b, o, none⟩ = some (.int .i64 R0) ∧ w'.cell? ⟨b, o + 1, none⟩ = some (.int .i64 C0)) w1.drew) := unhide HH
 clear HH
 have HH := HH2
 clear HH2
 refine region_G (fun w' => w'.cell? ⟨w.heap.size, 0, none⟩ = some (.int .i64 R) ∧ w'.cell? ⟨w.heap.size, 1, none⟩ = some (.int .i64 C) ∧ w'.cell? ⟨w.heap.size, 2, none⟩ = some (.slice ao len cap) ∧ w'.cell? ⟨pb, 0, none⟩ = some (.slice (some ⟨b, o, none⟩) n pc) ∧ w'.cell? ⟨b, o, none⟩ = some (.int .i64 R0) ∧ w'.cell? ⟨b, o + 1, none⟩ = some (.int .i64 C0)) 21 (by kernel_rfl) (unhide HH) (fun hHeld => ?_)
 refine take_G (i := 0) (d := 4) (v := .agg #[.int .i64 R, .int .i64 C, .slice ao len cap]) rfl rfl (by kernel_rfl) (by kernel_rfl) (by kernel_rfl) (by kernel_rfl) (by kernel_rfl) (Or.inl ⟨by rfl, ?_⟩) hHeld ?_
 ·intro wS hSw
  obtain ⟨z0, z1, z2, z3, z4, z5⟩ := hSw
  clear hHeld
  go_simp
  (try (intro hz; omega))
 (try simp only [Act.put, List.setIfInBounds_toArray, List.set_cons_zero, List.set_cons_succ])
 refine step_G (i := 1) (by kernel_rfl) (fun K hK => ?_)
 refine wpOp_wantP rfl (by rfl) ?_
 unfold Oper.wp
 go_simp
 refine (unhide CK _).mono ?_
 rintro e w3 ⟨rfl, g3⟩
 have hHeld : (fun w' => w'.cell? ⟨w.heap.size, 0, none⟩ = some (.int .i64 R) ∧ w'.cell? ⟨w.heap.size, 1, none⟩ = some (.int .i64 C) ∧ w'.cell? ⟨w.heap.size, 2, none⟩ = some (.slice ao len cap) ∧ w'.cell? ⟨pb, 0, none⟩ = some (.slice (some ⟨b, o, none⟩) n pc) ∧ w'.cell? ⟨b, o, none⟩ = some (.int .i64 R0) ∧ w'.cell? ⟨b, o + 1, none⟩ = some (.int .i64 C0)) w3 := ⟨gat g3 (unhide HH).1, gat g3 (unhide HH).2.1, gat g3 (unhide HH).2.2.1, gat g3 (unhide HH).2.2.2.1, gat g3 (unhide HH).2.2.2.2.1, gat g3 (unhide HH).2.2.2.2.2⟩
 have GG := hide (gtrans (unhide HG) g3)
 clear g3 HG
 refine hK _ _ (fun _ => hHeld) ?_
 clear hK K
 (try simp only [Act.put, List.setIfInBounds_toArray, List.set_cons_zero, List.set_cons_succ])
 refine take_G (i := 2) (d := 6) (v := .bool false) rfl rfl (by kernel_rfl) (by kernel_rfl) (by kernel_rfl) (by kernel_rfl) (by kernel_rfl) (Or.inl ⟨by rfl, ?_⟩) hHeld ?_
 ·intro wS hSw
  obtain ⟨z0, z1, z2, z3, z4, z5⟩ := hSw
  clear hHeld
  go_simp
  (try (intro hz; omega))
 (try simp only [Act.put, List.setIfInBounds_toArray, List.set_cons_zero, List.set_cons_succ])
 refine take_G (i := 3) (d := 7) (v := .bool false) rfl rfl (by kernel_rfl) (by kernel_rfl) (by kernel_rfl) (by kernel_rfl) (by kernel_rfl) (Or.inl ⟨by rfl, ?_⟩) hHeld ?_
 ·intro wS hSw
  obtain ⟨z0, z1, z2, z3, z4, z5⟩ := hSw
  clear hHeld
  go_simp
  (try (intro hz; omega))
 (try simp only [Act.put, List.setIfInBounds_toArray, List.set_cons_zero, List.set_cons_succ])
 refine take_G (i := 4) (d := 8) (v := .pointer (some ⟨w.heap.size, 0, none⟩)) rfl rfl (by kernel_rfl) (by kernel_rfl) (by kernel_rfl) (by kernel_rfl) (by kernel_rfl) (Or.inl ⟨by rfl, ?_⟩) hHeld ?_
 ·intro wS hSw
  obtain ⟨z0, z1, z2, z3, z4, z5⟩ := hSw
  clear hHeld
  go_simp
  (try (intro hz; omega))
 (try simp only [Act.put, List.setIfInBounds_toArray, List.set_cons_zero, List.set_cons_succ])
 refine take_G (i := 5) (d := 9) (v := .int .i64 R) rfl rfl (by kernel_rfl) (by kernel_rfl) (by kernel_rfl) (by kernel_rfl) (by kernel_rfl) (Or.inl ⟨by rfl, ?_⟩) hHeld ?_
 ·intro wS hSw
  obtain ⟨z0, z1, z2, z3, z4, z5⟩ := hSw
  clear hHeld
  go_simp
  (try (intro hz; omega))
 (try simp only [Act.put, List.setIfInBounds_toArray, List.set_cons_zero, List.set_cons_succ])
 refine take_G (i := 6) (d := 10) (v := .slice (some ⟨b, o, none⟩) n pc) rfl rfl (by kernel_rfl) (by kernel_rfl) (by kernel_rfl) (by kernel_rfl) (by kernel_rfl) (Or.inl ⟨by rfl, ?_⟩) hHeld ?_
 ·intro wS hSw
  obtain ⟨z0, z1, z2, z3, z4, z5⟩ := hSw
  clear hHeld
  go_simp
  (try (intro hz; omega))
 (try simp only [Act.put, List.setIfInBounds_toArray, List.set_cons_zero, List.set_cons_succ])
 refine take_G (i := 7) (d := 11) (v := .pointer (some ⟨b, o, none⟩)) rfl rfl (by kernel_rfl) (by kernel_rfl) (by kernel_rfl) (by kernel_rfl) (by kernel_rfl) (Or.inl ⟨by rfl, ?_⟩) hHeld ?_
 ·intro wS hSw
  obtain ⟨z0, z1, z2, z3, z4, z5⟩ := hSw
  clear hHeld
  go_simp
  (try (intro hz; omega))
 (try simp only [Act.put, List.setIfInBounds_toArray, List.set_cons_zero, List.set_cons_succ])
 refine take_G (i := 8) (d := 12) (v := .pointer (some ⟨b, o, none⟩)) rfl rfl (by kernel_rfl) (by kernel_rfl) (by kernel_rfl) (by kernel_rfl) (by kernel_rfl) (Or.inl ⟨by rfl, ?_⟩) hHeld ?_
 ·intro wS hSw
  obtain ⟨z0, z1, z2, z3, z4, z5⟩ := hSw
  clear hHeld
  go_simp
  (try (intro hz; omega))
 (try simp only [Act.put, List.setIfInBounds_toArray, List.set_cons_zero, List.set_cons_succ])
 refine take_G (i := 9) (d := 13) (v := .int .i64 R0) rfl rfl (by kernel_rfl) (by kernel_rfl) (by kernel_rfl) (by kernel_rfl) (by kernel_rfl) (Or.inl ⟨by rfl, ?_⟩) hHeld ?_
 ·intro wS hSw
  obtain ⟨z0, z1, z2, z3, z4, z5⟩ := hSw
  clear hHeld
  go_simp
  (try (intro hz; omega))
 (try simp only [Act.put, List.setIfInBounds_toArray, List.set_cons_zero, List.set_cons_succ])
 refine take_G (i := 10) (d := 14) (v := .bool true) rfl rfl (by kernel_rfl) (by kernel_rfl) (by kernel_rfl) (by kernel_rfl) (by kernel_rfl) (Or.inl ⟨by rfl, ?_⟩) hHeld ?_
 ·intro wS hSw
  obtain ⟨z0, z1, z2, z3, z4, z5⟩ := hSw
  clear hHeld
  go_simp
  (try (intro hz; omega))
 (try simp only [Act.put, List.setIfInBounds_toArray, List.set_cons_zero, List.set_cons_succ])
 refine take_G (i := 11) (d := 15) (v := .bool true) rfl rfl (by kernel_rfl) (by kernel_rfl) (by kernel_rfl) (by kernel_rfl) (by kernel_rfl) (Or.inl ⟨by rfl, ?_⟩) hHeld ?_
 ·intro wS hSw
  obtain ⟨z0, z1, z2, z3, z4, z5⟩ := hSw
  clear hHeld
  go_simp
  (try (intro hz; omega))
 (try simp only [Act.put, List.setIfInBounds_toArray, List.set_cons_zero, List.set_cons_succ])
 refine take_G (i := 12) (d := 16) (v := .bool true) rfl rfl (by kernel_rfl) (by kernel_rfl) (by kernel_rfl) (by kernel_rfl) (by kernel_rfl) (Or.inl ⟨by rfl, ?_⟩) hHeld ?_
 ·intro wS hSw
  obtain ⟨z0, z1, z2, z3, z4, z5⟩ := hSw
  clear hHeld
  go_simp
  (try (intro hz; omega))
 (try simp only [Act.put, List.setIfInBounds_toArray, List.set_cons_zero, List.set_cons_succ])
 refine take_G (i := 13) (d := 17) (v := undef) rfl rfl (by kernel_rfl) (by kernel_rfl) (by kernel_rfl) (by kernel_rfl) (by kernel_rfl) (Or.inr ⟨by rfl, rfl⟩) hHeld ?_
 (try simp only [Act.put, List.setIfInBounds_toArray, List.set_cons_zero, List.set_cons_succ])
 refine take_G (i := 14) (d := 18) (v := undef) rfl rfl (by kernel_rfl) (by kernel_rfl) (by kernel_rfl) (by kernel_rfl) (by kernel_rfl) (Or.inr ⟨by rfl, rfl⟩) hHeld ?_
 (try simp only [Act.put, List.setIfInBounds_toArray, List.set_cons_zero, List.set_cons_succ])
 refine take_G (i := 15) (d := 19) (v := undef) rfl rfl (by kernel_rfl) (by kernel_rfl) (by kernel_rfl) (by kernel_rfl) (by kernel_rfl) (Or.inr ⟨by rfl, rfl⟩) hHeld ?_
 (try simp only [Act.put, List.setIfInBounds_toArray, List.set_cons_zero, List.set_cons_succ])
 refine take_G (i := 16) (d := 20) (v := undef) rfl rfl (by kernel_rfl) (by kernel_rfl) (by kernel_rfl) (by kernel_rfl) (by kernel_rfl) (Or.inr ⟨by rfl, rfl⟩) hHeld ?_
 (try simp only [Act.put, List.setIfInBounds_toArray, List.set_cons_zero, List.set_cons_succ])
 refine take_G (i := 17) (d := 21) (v := undef) rfl rfl (by kernel_rfl) (by kernel_rfl) (by kernel_rfl) (by kernel_rfl) (by kernel_rfl) (Or.inr ⟨by rfl, rfl⟩) hHeld ?_
 (try simp only [Act.put, List.setIfInBounds_toArray, List.set_cons_zero, List.set_cons_succ])
 refine take_G (i := 18) (d := 22) (v := undef) rfl rfl (by kernel_rfl) (by kernel_rfl) (by kernel_rfl) (by kernel_rfl) (by kernel_rfl) (Or.inr ⟨by rfl, rfl⟩) hHeld ?_
 (try simp only [Act.put, List.setIfInBounds_toArray, List.set_cons_zero, List.set_cons_succ])
 refine take_G (i := 19) (d := 23) (v := undef) rfl rfl (by kernel_rfl) (by kernel_rfl) (by kernel_rfl) (by kernel_rfl) (by kernel_rfl) (Or.inr ⟨by rfl, rfl⟩) hHeld ?_
 (try simp only [Act.put, List.setIfInBounds_toArray, List.set_cons_zero, List.set_cons_succ])
 refine take_G (i := 20) (d := 24) (v := .bool true) rfl rfl (by kernel_rfl) (by kernel_rfl) (by kernel_rfl) (by kernel_rfl) (by kernel_rfl) (Or.inl ⟨by rfl, ?_⟩) hHeld ?_
 ·intro wS hSw
  obtain ⟨z0, z1, z2, z3, z4, z5⟩ := hSw
  clear hHeld
  go_simp
  (try (intro hz; omega))
 (try simp only [Act.put, List.setIfInBounds_toArray, List.set_cons_zero, List.set_cons_succ])
 clear hHeld
 refine step_G (i := 21) (by kernel_rfl) (fun K hK => ?_)
 refine wpOp_wantP rfl (by rfl) ?_
 unfold Oper.wp
 go_simp
 refine hK _ _ (fun h => absurd rfl h) ?_
 clear hK K
 (try simp only [Act.put, List.setIfInBounds_toArray, List.set_cons_zero, List.set_cons_succ])
 refine done_G (by kernel_rfl) ?_
 refine noPanic_normalE ?_
 go_wp2
 go_ret
 exact ⟨rfl, unhide GG⟩
set_option maxRecDepth 50000 in
set_option maxHeartbeats 4000000 in
theorem polyn1_C (R C R0 C0 : Int) (ao : Option Addr) (len cap pb b o n pc : Nat) (hn : 1 ≤ n) (hb : okM R C len) (hr : C ≠ C0) (hR : R = R0) (w : World) (hp : w.cell? ⟨pb, 0, none⟩ = some (.slice (some ⟨b, o, none⟩) n pc)) (h0 : w.cell? ⟨b, o, none⟩ = some (.int .i64 R0)) (h1 : w.cell? ⟨b, o + 1, none⟩ = some (.int .i64 C0)) :
  Calls Tryz.prog 123 #[.agg #[.int .i64 R, .int .i64 C, .slice ao len cap], .pointer (some ⟨pb, 0, none⟩)] w fun e w' => e = .returned (.bool true) ∧ Grown w w' := by
 have CK := hide (fun w => matCheck R C ao len cap w)
 rw [chk_ok hb] at CK
 have g1 : Grown w (w.alloc (.cells #[.int .i64 R, .int .i64 C, .slice ao len cap] 38)) := (Grown.refl _).alloc _ _
 have b1 := Blk.new w #[.int .i64 R, .int .i64 C, .slice ao len cap] 38
 have HH : Hid ((fun w' => w'.cell? ⟨w.heap.size, 0, none⟩ = some (.int .i64 R) ∧ w'.cell? ⟨w.heap.size, 1, none⟩ = some (.int .i64 C) ∧ w'.cell? ⟨w.heap.size, 2, none⟩ = some (.slice ao len cap) ∧ w'.cell? ⟨pb, 0, none⟩ = some (.slice (some ⟨b, o, none⟩) n pc) ∧ w'.cell? ⟨b, o, none⟩ = some (.int .i64 R0) ∧ w'.cell? ⟨b, o + 1, none⟩ = some (.int .i64 C0)) (w.alloc (.cells #[.int .i64 R, .int .i64 C, .slice ao len cap] 38))) := ⟨Blk.cell b1 0, Blk.cell b1 1, Blk.cell b1 2, gat g1 hp, gat g1 h0, gat g1 h1⟩
 have HG := hide g1
 have i0 : (0 : Int) < (n : Int) := by omega
 have b2 : (C != C0) = true := by simpa using hr
 have b3 : (R != R0) = false := by simpa using hR
 clear g1 b1 hp h0 h1 hb hr hR
 go_enter Tryz.func123, Tryz.ntmps123
 go_wp2_with fail
 generalize w.alloc (.cells #[.int .i64 R, .int .i64 C, .slice ao len cap] 38) = w1 at *
 have HH2 : Hid ((fun w' => w'.cell? ⟨w.heap.size, 0, none⟩ = some (.int .i64 R) ∧ w'.cell? ⟨w.heap.size, 1, none⟩ = some (.int .i64 C) ∧ w'.cell? ⟨w.heap.size, 2, none⟩ = some (.slice ao len cap) ∧ w'.cell? ⟨pb, 0, none⟩ = some (.slice (some ⟨b, o, none⟩) n pc) ∧ w'.cell? ⟨b, o, none⟩ = some (.int .i64 R0) ∧ w'.cell? ⟨b, o + 1, none⟩ = some (.int .i64 C0)) w1.drew) := unhide HH
 clear HH
 have HH := HH2
 clear HH2
 refine region_G (fun w' => w'.cell? ⟨w.heap.size, 0, none⟩ = some (.int .i64 R) ∧ w'.cell? ⟨w.heap.size, 1, none⟩ = some (.int .i64 C) ∧ w'.cell? ⟨w.heap.size, 2, none⟩ = some (.slice ao len cap) ∧ w'.cell? ⟨pb, 0, none⟩ = some (.slice (some ⟨b, o, none⟩) n pc) ∧ w'.cell? ⟨b, o, none⟩ = some (.int .i64 R0) ∧ w'.cell? ⟨b, o + 1, none⟩ = some (.int .i64 C0)) 21 (by kernel_rfl) (unhide HH) (fun hHeld => ?_)
 refine take_G (i := 0) (d := 4) (v := .agg #[.int .i64 R, .int .i64 C, .slice ao len cap]) rfl rfl (by kernel_rfl) (by kernel_rfl) (by kernel_rfl) (by kernel_rfl) (by kernel_rfl) (Or.inl ⟨by rfl, ?_⟩) hHeld ?_
 ·intro wS hSw
  obtain ⟨z0, z1, z2, z3, z4, z5⟩ := hSw
  clear hHeld
  go_simp
  (try (intro hz; omega))
 (try simp only [Act.put, List.setIfInBounds_toArray, List.set_cons_zero, List.set_cons_succ])
 refine step_G (i := 1) (by kernel_rfl) (fun K hK => ?_)
 refine wpOp_wantP rfl (by rfl) ?_
 unfold Oper.wp
 go_simp
 refine (unhide CK _).mono ?_
 rintro e w3 ⟨rfl, g3⟩
 have hHeld : (fun w' => w'.cell? ⟨w.heap.size, 0, none⟩ = some (.int .i64 R) ∧ w'.cell? ⟨w.heap.size, 1, none⟩ = some (.int .i64 C) ∧ w'.cell? ⟨w.heap.size, 2, none⟩ = some (.slice ao len cap) ∧ w'.cell? ⟨pb, 0, none⟩ = some (.slice (some ⟨b, o, none⟩) n pc) ∧ w'.cell? ⟨b, o, none⟩ = some (.int .i64 R0) ∧ w'.cell? ⟨b, o + 1, none⟩ = some (.int .i64 C0)) w3 := ⟨gat g3 (unhide HH).1, gat g3 (unhide HH).2.1, gat g3 (unhide HH).2.2.1, gat g3 (unhide HH).2.2.2.1, gat g3 (unhide HH).2.2.2.2.1, gat g3 (unhide HH).2.2.2.2.2⟩
 have GG := hide (gtrans (unhide HG) g3)
 clear g3 HG
 refine hK _ _ (fun _ => hHeld) ?_
 clear hK K
 (try simp only [Act.put, List.setIfInBounds_toArray, List.set_cons_zero, List.set_cons_succ])
 refine take_G (i := 2) (d := 6) (v := .bool false) rfl rfl (by kernel_rfl) (by kernel_rfl) (by kernel_rfl) (by kernel_rfl) (by kernel_rfl) (Or.inl ⟨by rfl, ?_⟩) hHeld ?_
 ·intro wS hSw
  obtain ⟨z0, z1, z2, z3, z4, z5⟩ := hSw
  clear hHeld
  go_simp
  (try (intro hz; omega))
 (try simp only [Act.put, List.setIfInBounds_toArray, List.set_cons_zero, List.set_cons_succ])
 refine take_G (i := 3) (d := 7) (v := .bool false) rfl rfl (by kernel_rfl) (by kernel_rfl) (by kernel_rfl) (by kernel_rfl) (by kernel_rfl) (Or.inl ⟨by rfl, ?_⟩) hHeld ?_
 ·intro wS hSw
  obtain ⟨z0, z1, z2, z3, z4, z5⟩ := hSw
  clear hHeld
  go_simp
  (try (intro hz; omega))
 (try simp only [Act.put, List.setIfInBounds_toArray, List.set_cons_zero, List.set_cons_succ])
 refine take_G (i := 4) (d := 8) (v := .pointer (some ⟨w.heap.size, 0, none⟩)) rfl rfl (by kernel_rfl) (by kernel_rfl) (by kernel_rfl) (by kernel_rfl) (by kernel_rfl) (Or.inl ⟨by rfl, ?_⟩) hHeld ?_
 ·intro wS hSw
  obtain ⟨z0, z1, z2, z3, z4, z5⟩ := hSw
  clear hHeld
  go_simp
  (try (intro hz; omega))
 (try simp only [Act.put, List.setIfInBounds_toArray, List.set_cons_zero, List.set_cons_succ])
 refine take_G (i := 5) (d := 9) (v := .int .i64 R) rfl rfl (by kernel_rfl) (by kernel_rfl) (by kernel_rfl) (by kernel_rfl) (by kernel_rfl) (Or.inl ⟨by rfl, ?_⟩) hHeld ?_
 ·intro wS hSw
  obtain ⟨z0, z1, z2, z3, z4, z5⟩ := hSw
  clear hHeld
  go_simp
  (try (intro hz; omega))
 (try simp only [Act.put, List.setIfInBounds_toArray, List.set_cons_zero, List.set_cons_succ])
 refine take_G (i := 6) (d := 10) (v := .slice (some ⟨b, o, none⟩) n pc) rfl rfl (by kernel_rfl) (by kernel_rfl) (by kernel_rfl) (by kernel_rfl) (by kernel_rfl) (Or.inl ⟨by rfl, ?_⟩) hHeld ?_
 ·intro wS hSw
  obtain ⟨z0, z1, z2, z3, z4, z5⟩ := hSw
  clear hHeld
  go_simp
  (try (intro hz; omega))
 (try simp only [Act.put, List.setIfInBounds_toArray, List.set_cons_zero, List.set_cons_succ])
 refine take_G (i := 7) (d := 11) (v := .pointer (some ⟨b, o, none⟩)) rfl rfl (by kernel_rfl) (by kernel_rfl) (by kernel_rfl) (by kernel_rfl) (by kernel_rfl) (Or.inl ⟨by rfl, ?_⟩) hHeld ?_
 ·intro wS hSw
  obtain ⟨z0, z1, z2, z3, z4, z5⟩ := hSw
  clear hHeld
  go_simp
  (try (intro hz; omega))
 (try simp only [Act.put, List.setIfInBounds_toArray, List.set_cons_zero, List.set_cons_succ])
 refine take_G (i := 8) (d := 12) (v := .pointer (some ⟨b, o, none⟩)) rfl rfl (by kernel_rfl) (by kernel_rfl) (by kernel_rfl) (by kernel_rfl) (by kernel_rfl) (Or.inl ⟨by rfl, ?_⟩) hHeld ?_
 ·intro wS hSw
  obtain ⟨z0, z1, z2, z3, z4, z5⟩ := hSw
  clear hHeld
  go_simp
  (try (intro hz; omega))
 (try simp only [Act.put, List.setIfInBounds_toArray, List.set_cons_zero, List.set_cons_succ])
 refine take_G (i := 9) (d := 13) (v := .int .i64 R0) rfl rfl (by kernel_rfl) (by kernel_rfl) (by kernel_rfl) (by kernel_rfl) (by kernel_rfl) (Or.inl ⟨by rfl, ?_⟩) hHeld ?_
 ·intro wS hSw
  obtain ⟨z0, z1, z2, z3, z4, z5⟩ := hSw
  clear hHeld
  go_simp
  (try (intro hz; omega))
 (try simp only [Act.put, List.setIfInBounds_toArray, List.set_cons_zero, List.set_cons_succ])
 refine take_G (i := 10) (d := 14) (v := .bool false) rfl rfl (by kernel_rfl) (by kernel_rfl) (by kernel_rfl) (by kernel_rfl) (by kernel_rfl) (Or.inl ⟨by rfl, ?_⟩) hHeld ?_
 ·intro wS hSw
  obtain ⟨z0, z1, z2, z3, z4, z5⟩ := hSw
  clear hHeld
  go_simp
  (try (intro hz; omega))
 (try simp only [Act.put, List.setIfInBounds_toArray, List.set_cons_zero, List.set_cons_succ])
 refine take_G (i := 11) (d := 15) (v := .bool false) rfl rfl (by kernel_rfl) (by kernel_rfl) (by kernel_rfl) (by kernel_rfl) (by kernel_rfl) (Or.inl ⟨by rfl, ?_⟩) hHeld ?_
 ·intro wS hSw
  obtain ⟨z0, z1, z2, z3, z4, z5⟩ := hSw
  clear hHeld
  go_simp
  (try (intro hz; omega))
 (try simp only [Act.put, List.setIfInBounds_toArray, List.set_cons_zero, List.set_cons_succ])
 refine take_G (i := 12) (d := 16) (v := .bool false) rfl rfl (by kernel_rfl) (by kernel_rfl) (by kernel_rfl) (by kernel_rfl) (by kernel_rfl) (Or.inl ⟨by rfl, ?_⟩) hHeld ?_
 ·intro wS hSw
  obtain ⟨z0, z1, z2, z3, z4, z5⟩ := hSw
  clear hHeld
  go_simp
  (try (intro hz; omega))
 (try simp only [Act.put, List.setIfInBounds_toArray, List.set_cons_zero, List.set_cons_succ])
 refine take_G (i := 13) (d := 17) (v := .pointer (some ⟨w.heap.size, 1, none⟩)) rfl rfl (by kernel_rfl) (by kernel_rfl) (by kernel_rfl) (by kernel_rfl) (by kernel_rfl) (Or.inl ⟨by rfl, ?_⟩) hHeld ?_
 ·intro wS hSw
  obtain ⟨z0, z1, z2, z3, z4, z5⟩ := hSw
  clear hHeld
  go_simp
  (try (intro hz; omega))
 (try simp only [Act.put, List.setIfInBounds_toArray, List.set_cons_zero, List.set_cons_succ])
 refine take_G (i := 14) (d := 18) (v := .int .i64 C) rfl rfl (by kernel_rfl) (by kernel_rfl) (by kernel_rfl) (by kernel_rfl) (by kernel_rfl) (Or.inl ⟨by rfl, ?_⟩) hHeld ?_
 ·intro wS hSw
  obtain ⟨z0, z1, z2, z3, z4, z5⟩ := hSw
  clear hHeld
  go_simp
  (try (intro hz; omega))
 (try simp only [Act.put, List.setIfInBounds_toArray, List.set_cons_zero, List.set_cons_succ])
 refine take_G (i := 15) (d := 19) (v := .slice (some ⟨b, o, none⟩) n pc) rfl rfl (by kernel_rfl) (by kernel_rfl) (by kernel_rfl) (by kernel_rfl) (by kernel_rfl) (Or.inl ⟨by rfl, ?_⟩) hHeld ?_
 ·intro wS hSw
  obtain ⟨z0, z1, z2, z3, z4, z5⟩ := hSw
  clear hHeld
  go_simp
  (try (intro hz; omega))
 (try simp only [Act.put, List.setIfInBounds_toArray, List.set_cons_zero, List.set_cons_succ])
 refine take_G (i := 16) (d := 20) (v := .pointer (some ⟨b, o, none⟩)) rfl rfl (by kernel_rfl) (by kernel_rfl) (by kernel_rfl) (by kernel_rfl) (by kernel_rfl) (Or.inl ⟨by rfl, ?_⟩) hHeld ?_
 ·intro wS hSw
  obtain ⟨z0, z1, z2, z3, z4, z5⟩ := hSw
  clear hHeld
  go_simp
  (try (intro hz; omega))
 (try simp only [Act.put, List.setIfInBounds_toArray, List.set_cons_zero, List.set_cons_succ])
 refine take_G (i := 17) (d := 21) (v := .pointer (some ⟨b, o + 1, none⟩)) rfl rfl (by kernel_rfl) (by kernel_rfl) (by kernel_rfl) (by kernel_rfl) (by kernel_rfl) (Or.inl ⟨by rfl, ?_⟩) hHeld ?_
 ·intro wS hSw
  obtain ⟨z0, z1, z2, z3, z4, z5⟩ := hSw
  clear hHeld
  go_simp
  (try (intro hz; omega))
 (try simp only [Act.put, List.setIfInBounds_toArray, List.set_cons_zero, List.set_cons_succ])
 refine take_G (i := 18) (d := 22) (v := .int .i64 C0) rfl rfl (by kernel_rfl) (by kernel_rfl) (by kernel_rfl) (by kernel_rfl) (by kernel_rfl) (Or.inl ⟨by rfl, ?_⟩) hHeld ?_
 ·intro wS hSw
  obtain ⟨z0, z1, z2, z3, z4, z5⟩ := hSw
  clear hHeld
  go_simp
  (try (intro hz; omega))
 (try simp only [Act.put, List.setIfInBounds_toArray, List.set_cons_zero, List.set_cons_succ])
 refine take_G (i := 19) (d := 23) (v := .bool true) rfl rfl (by kernel_rfl) (by kernel_rfl) (by kernel_rfl) (by kernel_rfl) (by kernel_rfl) (Or.inl ⟨by rfl, ?_⟩) hHeld ?_
 ·intro wS hSw
  obtain ⟨z0, z1, z2, z3, z4, z5⟩ := hSw
  clear hHeld
  go_simp
  (try (intro hz; omega))
 (try simp only [Act.put, List.setIfInBounds_toArray, List.set_cons_zero, List.set_cons_succ])
 refine take_G (i := 20) (d := 24) (v := .bool true) rfl rfl (by kernel_rfl) (by kernel_rfl) (by kernel_rfl) (by kernel_rfl) (by kernel_rfl) (Or.inl ⟨by rfl, ?_⟩) hHeld ?_
 ·intro wS hSw
  obtain ⟨z0, z1, z2, z3, z4, z5⟩ := hSw
  clear hHeld
  go_simp
  (try (intro hz; omega))
 (try simp only [Act.put, List.setIfInBounds_toArray, List.set_cons_zero, List.set_cons_succ])
 clear hHeld
 refine step_G (i := 21) (by kernel_rfl) (fun K hK => ?_)
 refine wpOp_wantP rfl (by rfl) ?_
 unfold Oper.wp
 go_simp
 refine hK _ _ (fun h => absurd rfl h) ?_
 clear hK K
 (try simp only [Act.put, List.setIfInBounds_toArray, List.set_cons_zero, List.set_cons_succ])
 refine done_G (by kernel_rfl) ?_
 refine noPanic_normalE ?_
 go_wp2
 go_ret
 exact ⟨rfl, unhide GG⟩
set_option maxRecDepth 50000 in
set_option maxHeartbeats 4000000 in
theorem polyn1_ok (R C R0 C0 : Int) (ao : Option Addr) (len cap pb b o n pc : Nat) (hn : 1 ≤ n) (hb : okM R C len) (hr : C = C0) (hR : R = R0) (w : World) (hp : w.cell? ⟨pb, 0, none⟩ = some (.slice (some ⟨b, o, none⟩) n pc)) (h0 : w.cell? ⟨b, o, none⟩ = some (.int .i64 R0)) (h1 : w.cell? ⟨b, o + 1, none⟩ = some (.int .i64 C0)) :
  Calls Tryz.prog 123 #[.agg #[.int .i64 R, .int .i64 C, .slice ao len cap], .pointer (some ⟨pb, 0, none⟩)] w fun e w' => e = .returned (.bool false) ∧ Grown w w' := by
 have CK := hide (fun w => matCheck R C ao len cap w)
 rw [chk_ok hb] at CK
 have g1 : Grown w (w.alloc (.cells #[.int .i64 R, .int .i64 C, .slice ao len cap] 38)) := (Grown.refl _).alloc _ _
 have b1 := Blk.new w #[.int .i64 R, .int .i64 C, .slice ao len cap] 38
 have HH : Hid ((fun w' => w'.cell? ⟨w.heap.size, 0, none⟩ = some (.int .i64 R) ∧ w'.cell? ⟨w.heap.size, 1, none⟩ = some (.int .i64 C) ∧ w'.cell? ⟨w.heap.size, 2, none⟩ = some (.slice ao len cap) ∧ w'.cell? ⟨pb, 0, none⟩ = some (.slice (some ⟨b, o, none⟩) n pc) ∧ w'.cell? ⟨b, o, none⟩ = some (.int .i64 R0) ∧ w'.cell? ⟨b, o + 1, none⟩ = some (.int .i64 C0)) (w.alloc (.cells #[.int .i64 R, .int .i64 C, .slice ao len cap] 38))) := ⟨Blk.cell b1 0, Blk.cell b1 1, Blk.cell b1 2, gat g1 hp, gat g1 h0, gat g1 h1⟩
 have HG := hide g1
 have i0 : (0 : Int) < (n : Int) := by omega
 have b2 : (C != C0) = false := by simpa using hr
 have b3 : (R != R0) = false := by simpa using hR
 clear g1 b1 hp h0 h1 hb hr hR
 go_enter Tryz.func123, Tryz.ntmps123
 go_wp2_with fail
 generalize w.alloc (.cells #[.int .i64 R, .int .i64 C, .slice ao len cap] 38) = w1 at *
 have HH2 : Hid ((fun w' => w'.cell? ⟨w.heap.size, 0, none⟩ = some (.int .i64 R) ∧ w'.cell? ⟨w.heap.size, 1, none⟩ = some (.int .i64 C) ∧ w'.cell? ⟨w.heap.size, 2, none⟩ = some (.slice ao len cap) ∧ w'.cell? ⟨pb, 0, none⟩ = some (.slice (some ⟨b, o, none⟩) n pc) ∧ w'.cell? ⟨b, o, none⟩ = some (.int .i64 R0) ∧ w'.cell? ⟨b, o + 1, none⟩ = some (.int .i64 C0)) w1.drew) := unhide HH
 clear HH
 have HH := HH2
 clear HH2
 refine region_G (fun w' => w'.cell? ⟨w.heap.size, 0, none⟩ = some (.int .i64 R) ∧ w'.cell? ⟨w.heap.size, 1, none⟩ = some (.int .i64 C) ∧ w'.cell? ⟨w.heap.size, 2, none⟩ = some (.slice ao len cap) ∧ w'.cell? ⟨pb, 0, none⟩ = some (.slice (some ⟨b, o, none⟩) n pc) ∧ w'.cell? ⟨b, o, none⟩ = some (.int .i64 R0) ∧ w'.cell? ⟨b, o + 1, none⟩ = some (.int .i64 C0)) 21 (by kernel_rfl) (unhide HH) (fun hHeld => ?_)
 refine take_G (i := 0) (d := 4) (v := .agg #[.int .i64 R, .int .i64 C, .slice ao len cap]) rfl rfl (by kernel_rfl) (by kernel_rfl) (by kernel_rfl) (by kernel_rfl) (by kernel_rfl) (Or.inl ⟨by rfl, ?_⟩) hHeld ?_
 ·intro wS hSw
  obtain ⟨z0, z1, z2, z3, z4, z5⟩ := hSw
  clear hHeld
  go_simp
  (try (intro hz; omega))
 (try simp only [Act.put, List.setIfInBounds_toArray, List.set_cons_zero, List.set_cons_succ])
 refine step_G (i := 1) (by kernel_rfl) (fun K hK => ?_)
 refine wpOp_wantP rfl (by rfl) ?_
 unfold Oper.wp
 go_simp
 refine (unhide CK _).mono ?_
 rintro e w3 ⟨rfl, g3⟩
 have hHeld : (fun w' => w'.cell? ⟨w.heap.size, 0, none⟩ = some (.int .i64 R) ∧ w'.cell? ⟨w.heap.size, 1, none⟩ = some (.int .i64 C) ∧ w'.cell? ⟨w.heap.size, 2, none⟩ = some (.slice ao len cap) ∧ w'.cell? ⟨pb, 0, none⟩ = some (.slice (some ⟨b, o, none⟩) n pc) ∧ w'.cell? ⟨b, o, none⟩ = some (.int .i64 R0) ∧ w'.cell? ⟨b, o + 1, none⟩ = some (.int .i64 C0)) w3 := ⟨gat g3 (unhide HH).1, gat g3 (unhide HH).2.1, gat g3 (unhide HH).2.2.1, gat g3 (unhide HH).2.2.2.1, gat g3 (unhide HH).2.2.2.2.1, gat g3 (unhide HH).2.2.2.2.2⟩
 have GG := hide (gtrans (unhide HG) g3)
 clear g3 HG
 refine hK _ _ (fun _ => hHeld) ?_
 clear hK K
 (try simp only [Act.put, List.setIfInBounds_toArray, List.set_cons_zero, List.set_cons_succ])
 refine take_G (i := 2) (d := 6) (v := .bool false) rfl rfl (by kernel_rfl) (by kernel_rfl) (by kernel_rfl) (by kernel_rfl) (by kernel_rfl) (Or.inl ⟨by rfl, ?_⟩) hHeld ?_
 ·intro wS hSw
  obtain ⟨z0, z1, z2, z3, z4, z5⟩ := hSw
  clear hHeld
  go_simp
  (try (intro hz; omega))
 (try simp only [Act.put, List.setIfInBounds_toArray, List.set_cons_zero, List.set_cons_succ])
 refine take_G (i := 3) (d := 7) (v := .bool false) rfl rfl (by kernel_rfl) (by kernel_rfl) (by kernel_rfl) (by kernel_rfl) (by kernel_rfl) (Or.inl ⟨by rfl, ?_⟩) hHeld ?_
 ·intro wS hSw
  obtain ⟨z0, z1, z2, z3, z4, z5⟩ := hSw
  clear hHeld
  go_simp
  (try (intro hz; omega))
 (try simp only [Act.put, List.setIfInBounds_toArray, List.set_cons_zero, List.set_cons_succ])
 refine take_G (i := 4) (d := 8) (v := .pointer (some ⟨w.heap.size, 0, none⟩)) rfl rfl (by kernel_rfl) (by kernel_rfl) (by kernel_rfl) (by kernel_rfl) (by kernel_rfl) (Or.inl ⟨by rfl, ?_⟩) hHeld ?_
 ·intro wS hSw
  obtain ⟨z0, z1, z2, z3, z4, z5⟩ := hSw
  clear hHeld
  go_simp
  (try (intro hz; omega))
 (try simp only [Act.put, List.setIfInBounds_toArray, List.set_cons_zero, List.set_cons_succ])
 refine take_G (i := 5) (d := 9) (v := .int .i64 R) rfl rfl (by kernel_rfl) (by kernel_rfl) (by kernel_rfl) (by kernel_rfl) (by kernel_rfl) (Or.inl ⟨by rfl, ?_⟩) hHeld ?_
 ·intro wS hSw
  obtain ⟨z0, z1, z2, z3, z4, z5⟩ := hSw
  clear hHeld
  go_simp
  (try (intro hz; omega))
 (try simp only [Act.put, List.setIfInBounds_toArray, List.set_cons_zero, List.set_cons_succ])
 refine take_G (i := 6) (d := 10) (v := .slice (some ⟨b, o, none⟩) n pc) rfl rfl (by kernel_rfl) (by kernel_rfl) (by kernel_rfl) (by kernel_rfl) (by kernel_rfl) (Or.inl ⟨by rfl, ?_⟩) hHeld ?_
 ·intro wS hSw
  obtain ⟨z0, z1, z2, z3, z4, z5⟩ := hSw
  clear hHeld
  go_simp
  (try (intro hz; omega))
 (try simp only [Act.put, List.setIfInBounds_toArray, List.set_cons_zero, List.set_cons_succ])
 refine take_G (i := 7) (d := 11) (v := .pointer (some ⟨b, o, none⟩)) rfl rfl (by kernel_rfl) (by kernel_rfl) (by kernel_rfl) (by kernel_rfl) (by kernel_rfl) (Or.inl ⟨by rfl, ?_⟩) hHeld ?_
 ·intro wS hSw
  obtain ⟨z0, z1, z2, z3, z4, z5⟩ := hSw
  clear hHeld
  go_simp
  (try (intro hz; omega))
 (try simp only [Act.put, List.setIfInBounds_toArray, List.set_cons_zero, List.set_cons_succ])
 refine take_G (i := 8) (d := 12) (v := .pointer (some ⟨b, o, none⟩)) rfl rfl (by kernel_rfl) (by kernel_rfl) (by kernel_rfl) (by kernel_rfl) (by kernel_rfl) (Or.inl ⟨by rfl, ?_⟩) hHeld ?_
 ·intro wS hSw
  obtain ⟨z0, z1, z2, z3, z4, z5⟩ := hSw
  clear hHeld
  go_simp
  (try (intro hz; omega))
 (try simp only [Act.put, List.setIfInBounds_toArray, List.set_cons_zero, List.set_cons_succ])
 refine take_G (i := 9) (d := 13) (v := .int .i64 R0) rfl rfl (by kernel_rfl) (by kernel_rfl) (by kernel_rfl) (by kernel_rfl) (by kernel_rfl) (Or.inl ⟨by rfl, ?_⟩) hHeld ?_
 ·intro wS hSw
  obtain ⟨z0, z1, z2, z3, z4, z5⟩ := hSw
  clear hHeld
  go_simp
  (try (intro hz; omega))
 (try simp only [Act.put, List.setIfInBounds_toArray, List.set_cons_zero, List.set_cons_succ])
 refine take_G (i := 10) (d := 14) (v := .bool false) rfl rfl (by kernel_rfl) (by kernel_rfl) (by kernel_rfl) (by kernel_rfl) (by kernel_rfl) (Or.inl ⟨by rfl, ?_⟩) hHeld ?_
 ·intro wS hSw
  obtain ⟨z0, z1, z2, z3, z4, z5⟩ := hSw
  clear hHeld
  go_simp
  (try (intro hz; omega))
 (try simp only [Act.put, List.setIfInBounds_toArray, List.set_cons_zero, List.set_cons_succ])
 refine take_G (i := 11) (d := 15) (v := .bool false) rfl rfl (by kernel_rfl) (by kernel_rfl) (by kernel_rfl) (by kernel_rfl) (by kernel_rfl) (Or.inl ⟨by rfl, ?_⟩) hHeld ?_
 ·intro wS hSw
  obtain ⟨z0, z1, z2, z3, z4, z5⟩ := hSw
  clear hHeld
  go_simp
  (try (intro hz; omega))
 (try simp only [Act.put, List.setIfInBounds_toArray, List.set_cons_zero, List.set_cons_succ])
 refine take_G (i := 12) (d := 16) (v := .bool false) rfl rfl (by kernel_rfl) (by kernel_rfl) (by kernel_rfl) (by kernel_rfl) (by kernel_rfl) (Or.inl ⟨by rfl, ?_⟩) hHeld ?_
 ·intro wS hSw
  obtain ⟨z0, z1, z2, z3, z4, z5⟩ := hSw
  clear hHeld
  go_simp
  (try (intro hz; omega))
 (try simp only [Act.put, List.setIfInBounds_toArray, List.set_cons_zero, List.set_cons_succ])
 refine take_G (i := 13) (d := 17) (v := .pointer (some ⟨w.heap.size, 1, none⟩)) rfl rfl (by kernel_rfl) (by kernel_rfl) (by kernel_rfl) (by kernel_rfl) (by kernel_rfl) (Or.inl ⟨by rfl, ?_⟩) hHeld ?_
 ·intro wS hSw
  obtain ⟨z0, z1, z2, z3, z4, z5⟩ := hSw
  clear hHeld
  go_simp
  (try (intro hz; omega))
 (try simp only [Act.put, List.setIfInBounds_toArray, List.set_cons_zero, List.set_cons_succ])
 refine take_G (i := 14) (d := 18) (v := .int .i64 C) rfl rfl (by kernel_rfl) (by kernel_rfl) (by kernel_rfl) (by kernel_rfl) (by kernel_rfl) (Or.inl ⟨by rfl, ?_⟩) hHeld ?_
 ·intro wS hSw
  obtain ⟨z0, z1, z2, z3, z4, z5⟩ := hSw
  clear hHeld
  go_simp
  (try (intro hz; omega))
 (try simp only [Act.put, List.setIfInBounds_toArray, List.set_cons_zero, List.set_cons_succ])
 refine take_G (i := 15) (d := 19) (v := .slice (some ⟨b, o, none⟩) n pc) rfl rfl (by kernel_rfl) (by kernel_rfl) (by kernel_rfl) (by kernel_rfl) (by kernel_rfl) (Or.inl ⟨by rfl, ?_⟩) hHeld ?_
 ·intro wS hSw
  obtain ⟨z0, z1, z2, z3, z4, z5⟩ := hSw
  clear hHeld
  go_simp
  (try (intro hz; omega))
 (try simp only [Act.put, List.setIfInBounds_toArray, List.set_cons_zero, List.set_cons_succ])
 refine take_G (i := 16) (d := 20) (v := .pointer (some ⟨b, o, none⟩)) rfl rfl (by kernel_rfl) (by kernel_rfl) (by kernel_rfl) (by kernel_rfl) (by kernel_rfl) (Or.inl ⟨by rfl, ?_⟩) hHeld ?_
 ·intro wS hSw
  obtain ⟨z0, z1, z2, z3, z4, z5⟩ := hSw
  clear hHeld
  go_simp
  (try (intro hz; omega))
 (try simp only [Act.put, List.setIfInBounds_toArray, List.set_cons_zero, List.set_cons_succ])
 refine take_G (i := 17) (d := 21) (v := .pointer (some ⟨b, o + 1, none⟩)) rfl rfl (by kernel_rfl) (by kernel_rfl) (by kernel_rfl) (by kernel_rfl) (by kernel_rfl) (Or.inl ⟨by rfl, ?_⟩) hHeld ?_
 ·intro wS hSw
  obtain ⟨z0, z1, z2, z3, z4, z5⟩ := hSw
  clear hHeld
  go_simp
  (try (intro hz; omega))
 (try simp only [Act.put, List.setIfInBounds_toArray, List.set_cons_zero, List.set_cons_succ])
 refine take_G (i := 18) (d := 22) (v := .int .i64 C0) rfl rfl (by kernel_rfl) (by kernel_rfl) (by kernel_rfl) (by kernel_rfl) (by kernel_rfl) (Or.inl ⟨by rfl, ?_⟩) hHeld ?_
 ·intro wS hSw
  obtain ⟨z0, z1, z2, z3, z4, z5⟩ := hSw
  clear hHeld
  go_simp
  (try (intro hz; omega))
 (try simp only [Act.put, List.setIfInBounds_toArray, List.set_cons_zero, List.set_cons_succ])
 refine take_G (i := 19) (d := 23) (v := .bool false) rfl rfl (by kernel_rfl) (by kernel_rfl) (by kernel_rfl) (by kernel_rfl) (by kernel_rfl) (Or.inl ⟨by rfl, ?_⟩) hHeld ?_
 ·intro wS hSw
  obtain ⟨z0, z1, z2, z3, z4, z5⟩ := hSw
  clear hHeld
  go_simp
  (try (intro hz; omega))
 (try simp only [Act.put, List.setIfInBounds_toArray, List.set_cons_zero, List.set_cons_succ])
 refine take_G (i := 20) (d := 24) (v := .bool false) rfl rfl (by kernel_rfl) (by kernel_rfl) (by kernel_rfl) (by kernel_rfl) (by kernel_rfl) (Or.inl ⟨by rfl, ?_⟩) hHeld ?_
 ·intro wS hSw
  obtain ⟨z0, z1, z2, z3, z4, z5⟩ := hSw
  clear hHeld
  go_simp
  (try (intro hz; omega))
 (try simp only [Act.put, List.setIfInBounds_toArray, List.set_cons_zero, List.set_cons_succ])
 clear hHeld
 refine step_G (i := 21) (by kernel_rfl) (fun K hK => ?_)
 refine wpOp_wantP rfl (by rfl) ?_
 unfold Oper.wp
 go_simp
 refine hK _ _ (fun h => absurd rfl h) ?_
 clear hK K
 (try simp only [Act.put, List.setIfInBounds_toArray, List.set_cons_zero, List.set_cons_succ])
 refine done_G (by kernel_rfl) ?_
 refine noPanic_normalE ?_
 go_wp2
 go_ret
 exact ⟨rfl, unhide GG⟩
theorem polyn1 (R C R0 C0 : Int) (ao : Option Addr) (len cap pb b o n pc : Nat) (hn : 1 ≤ n) (w : World) (hp : w.cell? ⟨pb, 0, none⟩ = some (.slice (some ⟨b, o, none⟩) n pc)) (h0 : w.cell? ⟨b, o, none⟩ = some (.int .i64 R0)) (h1 : w.cell? ⟨b, o + 1, none⟩ = some (.int .i64 C0)) :
  Calls Tryz.prog 123 #[.agg #[.int .i64 R, .int .i64 C, .slice ao len cap], .pointer (some ⟨pb, 0, none⟩)] w fun e w' => e = .returned (.bool (badM R C len R0 C0)) ∧ Grown w w' := by
 by_cases h : okM R C len
 ·by_cases hR : R = R0
  ·by_cases hC : C = C0
   ·rw [badM_no ⟨h, hR, hC⟩]
    exact polyn1_ok R C R0 C0 ao len cap pb b o n pc hn h hC hR w hp h0 h1
   ·rw [badM_yes (fun k => hC k.2.2)]
    exact polyn1_C R C R0 C0 ao len cap pb b o n pc hn h hC hR w hp h0 h1
  ·rw [badM_yes (fun k => hR k.2.1)]
   exact polyn1_R R C R0 C0 ao len cap pb b o n pc hn h hR w hp h0 h1
 ·rw [badM_yes (fun k => h k.1)]
  exact polyn1_bad R C R0 C0 ao len cap pb b o n pc hn h w hp h0 h1
def IdxP (n : Nat) (X : Nat → MV) (R0 C0 : Int) (w : World) (e : Ending) (w' : World) : Prop :=
 ∃ r : Int, e = .returned (.int .i64 r) ∧ Grown w w' ∧ ((r = -1 ∧ ∀ i, i < n → likeM (X i).R (X i).C (X i).len R0 C0) ∨ (0 ≤ r ∧ ∃ i, i < n ∧ ¬ likeM (X i).R (X i).C (X i).len R0 C0))
set_option maxRecDepth 20000 in
set_option maxHeartbeats 2000000 in
theorem indexMat (ao : Option Addr) (n cap pb pc b o : Nat) (X : Nat → MV) (R0 C0 : Int) (hn : 1 ≤ n ∧ n ≤ 25) (w : World) (hm : Mats w ao n X) (hp : w.cell? ⟨pb, 0, none⟩ = some (.slice (some ⟨b, o, none⟩) n pc)) (h0 : w.cell? ⟨b, o, none⟩ = some (.int .i64 R0)) (h1 : w.cell? ⟨b, o + 1, none⟩ = some (.int .i64 C0)) :
  Calls Tryz.prog 155 #[.slice ao n cap, .func (.func 123) #[] #[.pointer (some ⟨pb, 0, none⟩)]] w fun e w' => IdxP n X R0 C0 w e w' := by
 have HM := hide hm
 have HP := hide (And.intro hp (And.intro h0 h1))
 have eF := enters_of Tryz.func123 (by kernel_rfl) rfl
 have PN : Hid (∀ R C ao len cap wx, Grown w wx → Calls Tryz.prog 123 #[.agg #[.int .i64 R, .int .i64 C, .slice ao len cap], .pointer (some ⟨pb, 0, none⟩)] wx fun e w' => e = .returned (.bool (badM R C len R0 C0)) ∧ Grown wx w') := fun R C ao len cap wx g => polyn1 R C R0 C0 ao len cap pb b o n pc hn.1 wx (gat g hp) (gat g h0) (gat g h1)
 obtain ⟨n1, n2⟩ := hn
 clear hm hp h0 h1
 go_enter Tryz.func155, Tryz.ntmps155
 go_wp2_with fail
 go_loopw [8] (fun i wr => ∃ k : Nat, k ≤ n ∧ i = .int .i64 k ∧ Hid (Grown w wr ∧ ∀ i, i < k → likeM (X i).R (X i).C (X i).len R0 C0)) (fun i _ => n - (intOf i).toNat)
 case atStart => exact ⟨0, Nat.zero_le _, rfl, Grown.refl _, fun i hi => absurd hi (Nat.not_lt_zero _)⟩
 case round =>
  obtain ⟨k, hk, rfl, HI⟩ := hrel
  by_cases hlt : k < n
  ·obtain ⟨bb, oo, rfl, c0, c1, c2⟩ := ((unhide HM).grown (unhide HI).1).at hlt
   have P1 := hide (unhide PN (X k).R (X k).C (X k).ao (X k).len (X k).cap wr (unhide HI).1)
   have i1 : (k : Int) < (n : Int) := by omega
   have i0 : (0 : Int) ≤ (k : Int) := by omega
   have DB : Hid (badM (X k).R (X k).C (X k).len R0 C0 = true → ¬ likeM (X k).R (X k).C (X k).len R0 C0) := fun h k => by rw [badM_no k] at h; cases h
   have DG : Hid (badM (X k).R (X k).C (X k).len R0 C0 = false → likeM (X k).R (X k).C (X k).len R0 C0) := fun h => by
    classical
    exact Decidable.byContradiction fun k => by rw [badM_yes k] at h; cases h
   generalize badM (X k).R (X k).C (X k).len R0 C0 = bd at *
   cases bd
   ·go_wp2_with fail
    refine (unhide P1).mono ?_
    rintro e w2 ⟨rfl, g2⟩
    have R : Hid (Grown w w2 ∧ ∀ i, i < k + 1 → likeM (X i).R (X i).C (X i).len R0 C0) := ⟨gtrans (unhide HI).1 g2, fun i hi => by
     by_cases e : i = k
     ·subst e; exact unhide DG trivial
     ·exact (unhide HI).2 i (by omega)⟩
    clear g2 P1 c0 c1 c2
    go_wp2
    go_roundw
    case rel => exact ⟨k + 1, by omega, by go_num, R⟩
    case measure => simp [intOf]; omega
   ·go_wp2_with fail
    refine (unhide P1).mono ?_
    rintro e w2 ⟨rfl, g2⟩
    have R : Hid (Grown w w2) := gtrans (unhide HI).1 g2
    clear g2 P1 c0 c1 c2
    go_wp2
    go_ret
    exact (show IdxP _ _ _ _ _ _ _ from ⟨_, rfl, unhide R, Or.inr ⟨i0, k, hlt, unhide DB trivial⟩⟩)
  ·obtain rfl : k = n := by omega
   go_wp2
   go_ret
   exact (show IdxP _ _ _ _ _ _ _ from ⟨_, rfl, (unhide HI).1, Or.inl ⟨rfl, (unhide HI).2⟩⟩)
def ConP (n : Nat) (X : Nat → MV) (R0 C0 : Int) (w : World) (e : Ending) (w' : World) : Prop :=
 ∃ r : Bool, e = .returned (.bool r) ∧ Grown w w' ∧ ((r = false ∧ ∀ i, i < n → likeM (X i).R (X i).C (X i).len R0 C0) ∨ (r = true ∧ ∃ i, i < n ∧ ¬ likeM (X i).R (X i).C (X i).len R0 C0))
set_option maxRecDepth 20000 in
set_option maxHeartbeats 2000000 in
theorem containsMat (ao : Option Addr) (n cap pb pc b o : Nat) (X : Nat → MV) (R0 C0 : Int) (hn : 1 ≤ n ∧ n ≤ 25) (w : World) (hm : Mats w ao n X) (hp : w.cell? ⟨pb, 0, none⟩ = some (.slice (some ⟨b, o, none⟩) n pc)) (h0 : w.cell? ⟨b, o, none⟩ = some (.int .i64 R0)) (h1 : w.cell? ⟨b, o + 1, none⟩ = some (.int .i64 C0)) :
  Calls Tryz.prog 122 #[.slice ao n cap, .func (.func 123) #[] #[.pointer (some ⟨pb, 0, none⟩)]] w fun e w' => ConP n X R0 C0 w e w' := by
 have IX := hide (indexMat ao n cap pb pc b o X R0 C0 hn w hm hp h0 h1)
 clear hm hp h0 h1
 go_enter Tryz.func122, Tryz.ntmps122
 go_wp2_with fail
 refine (unhide IX).mono ?_
 intro e w2 hI
 obtain ⟨r, rfl, g2, hr⟩ := hI
 have G2 := hide (And.intro g2 hr)
 clear IX
 rcases hr with ⟨rfl, _⟩ | ⟨hr, _⟩
 ·clear g2
  go_wp2
  go_ret
  exact (show ConP _ _ _ _ _ _ _ from ⟨_, rfl, (unhide G2).1, ((unhide G2).2.imp (fun h => ⟨rfl, h.2⟩) (fun h => absurd h.1 (by omega)))⟩)
 ·have d0 : decide ((0 : Int) ≤ r) = true := decide_eq_true hr
  have HR := hide hr
  clear g2 hr
  go_wp2
  go_ret
  exact (show ConP _ _ _ _ _ _ _ from ⟨_, rfl, (unhide G2).1, ((unhide G2).2.imp (fun h => absurd h.1 (by have := unhide HR; omega)) (fun h => ⟨rfl, h.2⟩))⟩)
def okP (n : Nat) (X : Nat → MV) : Prop := (1 ≤ n ∧ n ≤ 25) ∧ ∀ i, i < n → likeM (X i).R (X i).C (X i).len (X 0).R (X 0).C
open Classical in
noncomputable def okPB (n : Nat) (X : Nat → MV) : Bool := decide (okP n X)
theorem okPB_yes {n : Nat} {X : Nat → MV} (h : okP n X) : okPB n X = true := by classical exact decide_eq_true h
theorem okPB_no {n : Nat} {X : Nat → MV} (h : ¬ okP n X) : okPB n X = false := by classical exact decide_eq_false h
set_option maxRecDepth 20000 in
set_option maxHeartbeats 4000000 in
theorem polyPolynomial (ao : Option Addr) (n cap : Nat) (X : Nat → MV) (hl : n ≤ 9223372036854775807) (w : World) (hm : Mats w ao n X) :
  Calls Tryz.prog 87 #[.slice ao n cap] w fun e w' => e = .returned (.bool (okPB n X)) ∧ Grown w w' := by
 have g1 : Grown w (w.alloc (.cells #[.slice ao n cap] 73)) := (Grown.refl _).alloc _ _
 have b1 := Blk.new w #[.slice ao n cap] 73
 have x0 : (w.alloc (.cells #[.slice ao n cap] 73)).cell? ⟨w.heap.size, 0, none⟩ = some (.slice ao n cap) := Blk.cell b1 0
 have HG := hide g1
 have HM := hide (hm.grown g1)
 clear g1 hm b1
 by_cases h1 : 1 ≤ n
 ·have d1 : decide ((1 : Int) ≤ (n : Int)) = true := decide_eq_true (by omega)
  by_cases h2 : n ≤ 25
  ·have d2 : decide ((n : Int) ≤ 25) = true := decide_eq_true (by omega)
   obtain ⟨b, o, rfl, hc⟩ := (unhide HM).resolve_left (by omega)
   have CT := hide (containsMat (some ⟨b, o, none⟩) n cap w.heap.size cap b o X (X 0).R (X 0).C ⟨h1, h2⟩ _ (unhide HM) x0 (hc 0 (by omega) 0 (by omega)) (hc 0 (by omega) 1 (by omega)))
   clear hc HM
   go_enter Tryz.func87, Tryz.ntmps87
   go_wp2_with fail
   generalize w.alloc (.cells #[.slice (some ⟨b, o, none⟩) n cap] 73) = w1 at *
   refine (unhide CT).mono ?_
   intro e w2 hI
   obtain ⟨r, rfl, g2, hr⟩ := hI
   have G2 := hide (gtrans (unhide HG) g2)
   have HR := hide hr
   clear CT g2 hr x0 HG
   have E : Hid (okPB n X = !r) := by
    rcases unhide HR with ⟨rfl, h⟩ | ⟨rfl, i, hi, h⟩
    ·exact okPB_yes ⟨⟨h1, h2⟩, h⟩
    ·exact okPB_no (fun k => h (k.2 i hi))
   clear HR
   cases r
   ·go_wp2
    go_ret
    exact ⟨by rw [unhide E]; rfl, unhide G2⟩
   ·go_wp2
    go_ret
    exact ⟨by rw [unhide E]; rfl, unhide G2⟩
  ·have d2 : decide ((n : Int) ≤ 25) = false := decide_eq_false (by omega)
   have E := hide (okPB_no (X := X) (fun h => h2 h.1.2))
   clear h1 h2
   go_enter Tryz.func87, Tryz.ntmps87
   go_wp2
   go_ret
   exact ⟨by rw [unhide E]; rfl, unhide HG⟩
 ·have d1 : decide ((1 : Int) ≤ (n : Int)) = false := decide_eq_false (by omega)
  have E := hide (okPB_no (X := X) (fun h => h1 h.1.1))
  clear h1
  go_enter Tryz.func87, Tryz.ntmps87
  go_wp2
  go_ret
  exact ⟨by rw [unhide E]; rfl, unhide HG⟩
def KC (D : Nat → Prop) (W W' : World) : Prop := (∀ k cs t fr, ¬ D k → W.heap[k]? = some (.cells cs t fr) → W'.heap[k]? = some (.cells cs t fr)) ∧ W.heap.size ≤ W'.heap.size
theorem KC.refl (D : Nat → Prop) (W : World) : KC D W W := ⟨fun _ _ _ _ _ h => h, Nat.le_refl _⟩
theorem KC.trans {D : Nat → Prop} {A B C : World} (h : KC D A B) (k : KC D B C) : KC D A C := ⟨fun i cs t fr hi e => k.1 i cs t fr hi (h.1 i cs t fr hi e), Nat.le_trans h.2 k.2⟩
theorem KC.putObj {D : Nat → Prop} {W : World} {l : Nat} {o o' : Obj} (hl : W.heap[l]? = some o) (ho : o.isCells = false) : KC D W (W.putObj l o') := by
 refine ⟨fun k cs t fr _ h => (World.putObj_heap_other (fun e => ?_)).trans h, by simp⟩
 subst e
 rw [hl] at h
 cases h
 cases ho
theorem KC.blk {D : Nat → Prop} {W W' : World} {U : Nat} {cs : Array Value} {T : TypeId} (h : KC D W W') (hb : Blk U cs T W) (hU : ¬ D U) : Blk U cs T W' := h.1 U cs T (0, 0) hU hb
theorem KC.of {D : Nat → Prop} {W W' : World} (h : ∀ k, k < W.heap.size → ¬ D k → W'.heap[k]? = W.heap[k]?) (hs : W.heap.size ≤ W'.heap.size) : KC D W W' :=
 ⟨fun k cs t fr hk e => (h k (Array.getElem?_eq_some_iff.1 e).1 hk).trans e, hs⟩
def ownPostD {α : Type} (B : Nat) (D : Nat → Prop) (I : List α → World → Prop) (Ix : Code → List α → World → Prop) (xs : List α) (W : World) : Exit → Act → World → Prop
 | .normal, _, W' => KeepsFrom B W W' ∧ KC D W W' ∧ I xs W'
 | .ret, _, W' => KeepsFrom B W W' ∧ KC D W W' ∧ Ix .ret xs W'
 | .exit id, _, W' => KeepsFrom B W W' ∧ KC D W W' ∧ Ix (.exit id) xs W'
 | .goto t, _, W' => KeepsFrom B W W' ∧ KC D W W' ∧ Ix (.goto t) xs W'
 | .panic _, _, _ => False
 | .outgrown, _, _ => False
def SeqD {α : Type} (F : Fence) (n : Nat) (P : Program) (gf : Nat) (lb : Array Value) (encs : α → Array Value) (D : Nat → Prop) (St : World → World → Prop) (Px : List α → α → Prop) (Pp : List α → Prop) (S Sp : List α → World → Prop) (w : World) : Prop :=
 ∀ (l : Nat) (J Jx : List α → World → Prop) (W : World), w.grownBy W none → (∀ s A B, J s A → St A B → J s B) →
  (∀ pre x W1, J pre W1 → Px pre x → YieldAt F (n - 1) P l (encs x) W1 fun e W' =>
   KC D W1 W' ∧ ((e = .returned (.bool true) ∧ J (pre ++ [x]) W' ∧ Pp (pre ++ [x])) ∨ (e = .returned (.bool false) ∧ Jx (pre ++ [x]) W'))) →
  J [] W → CallsIn F n P gf (#[.func (.yield l) #[] #[]] ++ lb) W fun e W' => (∃ v, e = .returned v) ∧ ((∃ xs, S xs W' ∧ J xs W') ∨ (∃ pre, Sp pre W' ∧ Jx pre W'))
theorem range_own {F : Fence} {n : Nat} {P : Program} {α : Type} {g : Operand} {ps : Array Tmp} {assign body : Code} {Q : Exit → Act → World → Prop} {a : Act} {w : World}
  (hro : F.round = none) (h1 : 1 ≤ n) {gf : Nat} {lb : Array Value} (hg : a.eval g = .func (.func gf) #[] lb) (hFg : F.fn gf) (eg : ∀ args w, (callFunc gf args).run P w = .ok (.enter gf args) w)
  {encs : α → Array Value} (hps : ∀ x, (encs x).size = ps.size) {D : Nat → Prop} {St : World → World → Prop} {Px : List α → α → Prop} {Pp : List α → Prop} {S Sp : List α → World → Prop}
  (hSt : ∀ A B k o, St A B → w.heap.size ≤ k → A.heap[k]? = some o → o.isCells = false → B.heap[k]? = some o)
  (hseq : SeqD F (n - 1) P gf lb encs D St Px Pp S Sp w)
  (I : List α → World → Prop) (Ix : Code → List α → World → Prop) (hI : OwnFrom w.heap.size I) (hIx : ∀ c, OwnFrom w.heap.size (Ix c)) (hS : OwnFrom w.heap.size S) (hSp : OwnFrom w.heap.size Sp)
  (hIS : ∀ s A B, I s A → St A B → I s B) (hIp : ∀ s W, I s W → Pp s) (h0 : I [] w) (Ax : α → Act → World → Prop) (hAx : ∀ x a', OwnFrom w.heap.size (fun (_ : Unit) W => Ax x a' W))
  (hassign : ∀ (l : Nat) (pre : List α) (x : α) (W : World) (K : Act → World → Prop), I pre W → (∀ a' W', KeepsFrom w.heap.size W W' → KC D W W' → I pre W' → Ax x a' W' → K a' W') →
   assign.wpIn (F.inRound l) (n - 1 - 1) P (Exit.then K (fun _ _ _ => False)) { tmps := (ps.zip (encs x)).foldl (fun t (p, v) => t.setIfInBounds p v) a.tmps, defers := [] } W)
  (hbody : ∀ (l : Nat) (pre : List α) (x : α) (a' : Act) (W : World), I pre W → Ax x a' W → Px pre x → body.wpIn (F.inRound l) (n - 1 - 1) P (ownPostD w.heap.size D I Ix (pre ++ [x]) W) a' W)
  (hdone : ∀ (d : Nat) (xs : List α) (W : World), w.heap.size ≤ d → S xs W → I xs W → W.heap[d]? = some (.deferred (some [])) → Q .normal { a with defers := { target := .collected d, args := #[] } :: a.defers } W)
  (hstop : ∀ (d : Nat) (c : Code) (pre : List α) (W : World), w.heap.size ≤ d → Sp pre W → Ix c pre W → W.heap[d]? = some (.deferred (some [])) → c.wpIn F n P Q { a with defers := { target := .collected d, args := #[] } :: a.defers } W) :
  (Code.rangeFunc g ps assign body).wpIn F n P Q a w := by
 refine wpIn_rangeFunc fun fn hfn => ?_
 rw [hro]
 obtain ⟨d, hd⟩ : ∃ d, w.heap.size = d := ⟨_, rfl⟩
 obtain ⟨mk, hmk⟩ : ∃ mk : LoopState → Option Code → Loop, mk = fun st pe => { state := st, pending := pe, fn, tmps := a.tmps, params := ps, assign, body, defers := d } := ⟨_, rfl⟩
 have es : ∀ st st' pe, { mk st pe with state := st' } = mk st' pe := fun st st' pe => by rw [hmk]
 obtain ⟨wl, hwl⟩ : ∃ wl, (w.alloc (.deferred (some []))).alloc (.loop (mk .ready none)) = wl := ⟨_, rfl⟩
 have kl : wl.heap[d + 1]? = some (.loop (mk .ready none)) := by
  have := World.alloc_heap_new (w.alloc (.deferred (some []))) (.loop (mk .ready none))
  rwa [World.size_alloc, hd, hwl] at this
 have kd : wl.heap[d]? = some (.deferred (some [])) := by
  rw [← hwl, Below.heap_alloc _ _ _ (by simp; omega), ← hd]
  exact World.alloc_heap_new w _
 have i0 : I [] wl := by rw [← hwl]; exact hI.alloc _ (hI.alloc _ h0)
 have gl : w.grownBy wl none := by
  rw [← hwl]
  exact (World.grownBy_alloc w _ none).trans (World.grownBy_alloc _ _ none)
 rw [hd] at hSt hI hIx hS hSp hAx hassign hbody hdone hstop
 refine ⟨d + 1, [{ target := .collected d, args := #[] }], wl, { target := .fn (.func gf) lb, args := #[.func (.yield (d + 1)) #[] #[]] }, wl, gf, #[.func (.yield (d + 1)) #[] #[]] ++ lb, wl, ?_, ?_, ?_, ?_, fun _ => h1, ?_⟩
 ·rw [← hwl, hmk, ← hd]; exact run_enterLoop_outer _ _ _ _ _
 ·simp only [resolve, hg]
  simp [go_sem]
 ·intro f' hf'; simp [Target.leads] at hf'; subst hf'; exact hFg
 ·simp [invoke, go_sem, eg]
 ·refine (hseq (d + 1)
   (fun pre W => I pre W ∧ W.heap[d + 1]? = some (.loop (mk .ready none)) ∧ W.heap[d]? = some (.deferred (some [])))
   (fun pre W => ∃ c, Ix c pre W ∧ W.heap[d + 1]? = some (.loop (mk .done (some c))) ∧ W.heap[d]? = some (.deferred (some [])))
   wl gl (fun s A B hs hst => ⟨hIS s A B hs.1 hst, hSt _ _ _ _ hst (by omega) hs.2.1 rfl, hSt _ _ _ _ hst (by omega) hs.2.2 rfl⟩) ?_ ⟨i0, kl, kd⟩).mono ?_
  ·rintro pre x W ⟨hi, hl, hk⟩ hpx
   have hy := run_yield (P := P) (args := encs x) hl (by rw [hmk]; exact hps x)
   rw [hmk] at hy
   refine ⟨fn, _, assign, body, hy, roundIn_of_wpIn hfn (hassign _ pre x W _ hi fun a' Wa kf kc hia hax => ?_)⟩
   have hla := kf.same _ _ (by omega) hl rfl
   have hka := kf.same _ _ (by omega) hk rfl
   have lta := (Array.getElem?_eq_some_iff.1 hla).1
   refine ⟨_, run_beginRound hla (by rw [hmk]), ?_⟩
   rw [es]
   have hlb : (Wa.putObj (d + 1) (.loop (mk .busy none))).heap[d + 1]? = some (.loop (mk .busy none)) := World.putObj_heap_same lta
   have hkb : (Wa.putObj (d + 1) (.loop (mk .busy none))).heap[d]? = some (.deferred (some [])) := (World.putObj_heap_other (by omega)).trans hka
   have kcb : KC D W (Wa.putObj (d + 1) (.loop (mk .busy none))) := kc.trans (KC.putObj hla rfl)
   refine wpIn_mono (hbody _ pre x a' _ (hI.putObj _ hia (by omega) hla rfl) ((hAx x a').putObj (s := ()) _ hax (by omega) hla rfl) hpx) fun e a3 W3 hp => ?_
   have fin : ∀ (jump : Option Code), KeepsFrom d (Wa.putObj (d + 1) (.loop (mk .busy none))) W3 → KC D (Wa.putObj (d + 1) (.loop (mk .busy none))) W3 →
     ∃ W4, (Instr.endRound (d + 1) jump).run P W3 = .ok (.bool jump.isNone) W4 ∧ W4 = W3.putObj (d + 1) (.loop (mk (if jump.isNone then .ready else .done) jump)) ∧ W3.heap[d + 1]? = some (.loop (mk .busy none)) ∧
      W4.heap[d + 1]? = some (.loop (mk (if jump.isNone then .ready else .done) jump)) ∧ W4.heap[d]? = some (.deferred (some [])) ∧ KC D W W4 := fun jump k1 k2 => by
    have hl3 := k1.same _ _ (by omega) hlb rfl
    have hk3 := k1.same _ _ (by omega) hkb rfl
    have e := run_endRound (P := P) jump hl3
    have e2 : { mk .busy none with state := if jump.isNone then .ready else .done, pending := jump } = mk (if jump.isNone then .ready else .done) jump := by rw [hmk]
    rw [e2] at e
    exact ⟨_, e, rfl, hl3, World.putObj_heap_same (Array.getElem?_eq_some_iff.1 hl3).1, (World.putObj_heap_other (by omega)).trans hk3, (kcb.trans k2).trans (KC.putObj hl3 rfl)⟩
   cases e with
   | normal =>
    obtain ⟨k1, k2, k3⟩ := hp
    obtain ⟨W4, r1, rfl, r3, r4, r5, r6⟩ := fin none k1 k2
    have i4 := hI.putObj (.loop (mk .ready none)) k3 (by omega) r3 rfl
    exact ⟨_, _, r1, r6, .inl ⟨rfl, ⟨i4, r4, r5⟩, hIp _ _ i4⟩⟩
   | ret =>
    obtain ⟨k1, k2, k3⟩ := hp
    obtain ⟨W4, r1, rfl, r3, r4, r5, r6⟩ := fin (some .ret) k1 k2
    exact ⟨_, _, r1, r6, .inr ⟨rfl, .ret, (hIx _).putObj _ k3 (by omega) r3 rfl, r4, r5⟩⟩
   | exit id =>
    obtain ⟨k1, k2, k3⟩ := hp
    obtain ⟨W4, r1, rfl, r3, r4, r5, r6⟩ := fin (some (.exit id)) k1 k2
    exact ⟨_, _, r1, r6, .inr ⟨rfl, .exit id, (hIx _).putObj _ k3 (by omega) r3 rfl, r4, r5⟩⟩
   | goto t =>
    obtain ⟨k1, k2, k3⟩ := hp
    obtain ⟨W4, r1, rfl, r3, r4, r5, r6⟩ := fin (some (.goto t)) k1 k2
    exact ⟨_, _, r1, r6, .inr ⟨rfl, .goto t, (hIx _).putObj _ k3 (by omega) r3 rfl, r4, r5⟩⟩
   | panic ch => exact hp.elim
   | outgrown => exact hp.elim
  ·rintro e W2 ⟨⟨v, rfl⟩, (⟨xs, hs, hi, hl, hk⟩ | ⟨pre, hs, c, hi, hl, hk⟩)⟩
   ·have e := run_endLoop (P := P) hl (by rw [hmk]; simp)
    exact ⟨none, _, by rw [e, hmk], hdone d xs _ (Nat.le_refl _) (hS.putObj _ hs (by omega) hl rfl) (hI.putObj _ hi (by omega) hl rfl) ((World.putObj_heap_other (by omega)).trans hk)⟩
   ·have e := run_endLoop (P := P) hl (by rw [hmk]; simp)
    exact ⟨some c, _, by rw [e, hmk], hstop d c pre _ (Nat.le_refl _) (hSp.putObj _ hs (by omega) hl rfl) ((hIx c).putObj _ hi (by omega) hl rfl) ((World.putObj_heap_other (by omega)).trans hk)⟩
end Go.Proofs.YtjobgjcfkomhpaaGreat
namespace Go.Proofs.YtjobgjcfkomhpaaGreat
open Go.RowKit Go.Shelf Go.Proofs.Wd
set_option maxRecDepth 10000
def StT (N U : Nat) (A B : World) : Prop := KeepsOthers A B ∧ B.os = A.os ∧ B.output = A.output ∧ ∀ k, k < N → k ≠ U → B.heap[k]? = A.heap[k]?
theorem StT.trans {N U : Nat} {A B C : World} (h : StT N U A B) (k : StT N U B C) : StT N U A C := ⟨h.1.trans k.1, k.2.1.trans h.2.1, k.2.2.1.trans h.2.2.1, fun i hi hu => (k.2.2.2 i hi hu).trans (h.2.2.2 i hi hu)⟩
theorem StT.mk {N U : Nat} {cs : Array Value} {T : TypeId} {A B : World} (m : Mk U A B) (hU : Blk U cs T A) (hN : N ≤ A.heap.size) : StT N U A B :=
 ⟨⟨m.2.2.2, fun k o hk ho => (m.2.2.1 k (Array.getElem?_eq_some_iff.1 hk).1 (fun e => by
  subst e
  rw [show A.heap[k]? = _ from hU] at hk
  cases hk
  cases ho)).trans hk⟩, m.1, m.2.1, fun k hk hu => m.2.2.1 k (by omega) hu⟩
theorem StT.kp {N U : Nat} {A B : World} (m : Kp A B) (hN : N ≤ A.heap.size) : StT N U A B :=
 ⟨⟨m.2.2.2, fun k o hk ho => (m.2.2.1 k (Array.getElem?_eq_some_iff.1 hk).1).trans hk⟩, m.1, m.2.1, fun k hk hu => m.2.2.1 k (by omega)⟩
theorem StT.set {N U b o : Nat} {v : Value} (A : World) (hb : N ≤ b) : StT N U A (A.setCell ⟨b, o, none⟩ v) :=
 ⟨KeepsOthers.setCell _ _ _, rfl, rfl, fun k hk hu => Below.heap_setCell _ _ _ _ (by show k ≠ b; omega)⟩
theorem StT.new {N U b : Nat} {A B : World} (m : Mod b A B) (hb : N ≤ b) {cs : Array Value} {T : TypeId} (hB : Blk b cs T A) (hN : N ≤ A.heap.size) : StT N U A B :=
 ⟨⟨m.2.2.2.2, fun k o hk ho => (m.2.2.1 k (Array.getElem?_eq_some_iff.1 hk).1 (fun e => by
  subst e
  rw [show A.heap[k]? = _ from hB] at hk
  cases hk
  cases ho)).trans hk⟩, m.1, m.2.1, fun k hk hu => m.2.2.1 k (by omega) (by omega)⟩
theorem KC.cell {D : Nat → Prop} {W W' : World} (h : KC D W W') {b o : Nat} {v : Value} (hc : W.cell? ⟨b, o, none⟩ = some v) (hD : ¬ D b) : W'.cell? ⟨b, o, none⟩ = some v := by
 obtain ⟨x, hx, hi⟩ := cells_of_cell hc
 cases x with
 | cells cs t fr => exact (World.cell?_of_block ((h.1 b cs t fr hD hx).trans hx.symm)).trans hc
 | _ => cases hi
def TSq (N n nn : Nat) (A : Nat → Int) (pre : List (Nat × Nat)) (W : World) : Prop :=
 (∀ i x, pre[i]? = some x → Blk x.1 (ints nn (termZ A n i)) 3 W ∧ N ≤ x.1 ∧ nn ≤ x.2) ∧ (pre.map Prod.fst).Pairwise (· < ·)
def encT (n nn : Nat) (x : Nat × Nat) : Array Value := #[.agg #[.int .i64 n, .int .i64 n, .slice (some ⟨x.1, 0, none⟩) nn x.2]]
def goesT (pre : List (Nat × Nat)) : Prop := pre.length ≤ 24
def UW (U : Nat) (c : Bool) (n0 D : Int) (W : World) : Prop := ∃ cnt, n0 ≤ cnt ∧ cnt ≤ n0 + D ∧ UC U c cnt W
def SpT (N U n nn : Nat) (c0 : Bool) (n0 : Int) (A : Nat → Int) (pre : List (Nat × Nat)) (W : World) : Prop :=
 ∃ j, pre.length = j + 1 ∧ j ≤ 24 ∧ TSq N n nn A pre W ∧ UW U (c0 || termC A n j) n0 100000 W
theorem TSq.of {N n nn : Nat} {A : Nat → Int} {pre : List (Nat × Nat)} {W W' : World} (h : TSq N n nn A pre W) (k : ∀ b cs, N ≤ b → Blk b cs 3 W → Blk b cs 3 W') : TSq N n nn A pre W' :=
 ⟨fun i x hx => ⟨k _ _ (h.1 i x hx).2.1 (h.1 i x hx).1, (h.1 i x hx).2⟩, h.2⟩
theorem TSq.of2 {N n nn : Nat} {A : Nat → Int} {pre : List (Nat × Nat)} {W W' : World} (h : TSq N n nn A pre W) (k : ∀ y ∈ pre, ∀ cs, N ≤ y.1 → Blk y.1 cs 3 W → Blk y.1 cs 3 W') : TSq N n nn A pre W' :=
 ⟨fun i x hx => ⟨k x (List.mem_of_getElem? hx) _ (h.1 i x hx).2.1 (h.1 i x hx).1, (h.1 i x hx).2⟩, h.2⟩
theorem TSq.snoc {N n nn : Nat} {A : Nat → Int} {pre : List (Nat × Nat)} {W : World} {B cp : Nat} (h : TSq N n nn A pre W) (hb : Blk B (ints nn (termZ A n pre.length)) 3 W) (hN : N ≤ B) (hc : nn ≤ cp) (hl : ∀ y ∈ pre, y.1 < B) : TSq N n nn A (pre ++ [(B, cp)]) W := by
 refine ⟨fun i x hx => ?_, ?_⟩
 ·rw [List.getElem?_append] at hx
  split at hx
  ·exact h.1 i x hx
  ·rename_i hi
   have : i = pre.length := by
    rcases Nat.lt_or_ge (i - pre.length) 1 with h1 | h1
    ·omega
    ·rw [List.getElem?_eq_none (by simpa using h1)] at hx; cases hx
   subst this
   rw [Nat.sub_self] at hx
   cases hx
   exact ⟨hb, hN, hc⟩
 ·rw [List.map_append, List.pairwise_append]
  refine ⟨h.2, by simp, fun a ha b hb => ?_⟩
  simp at hb
  subst hb
  obtain ⟨y, hy, rfl⟩ := List.mem_map.1 ha
  exact hl y hy
theorem spT_own (N U n nn : Nat) (c0 : Bool) (n0 : Int) (A : Nat → Int) (B : Nat) : OwnFrom B (SpT N U n nn c0 n0 A) := by
 rintro pre W W' row ⟨j, h1, h2, h3, cnt, h4, h5, h6⟩ hg hr
 have hr' : ∀ r, row = some r → ∃ o : Obj, W.heap[r]? = some o ∧ o.isCells = false := fun r e => (hr r e).2
 exact ⟨j, h1, h2, h3.of (fun b cs _ hb => blk_own hb hg hr'), cnt, h4, h5, blk_own h6 hg hr'⟩
def TmC (N U n nn ua aa ab ao cap : Nat) (A : Nat → Int) (W : World) : Prop :=
 Blk ua #[.pointer (some ⟨U, 0, none⟩)] 26 W ∧ Blk aa #[.int .i64 n, .int .i64 n, .slice (some ⟨ab, ao, none⟩) nn cap] 38 W ∧ (∀ j, j < nn → W.cell? ⟨ab, ao + j, none⟩ = some (.int .i64 (A j))) ∧ N ≤ W.heap.size
theorem TmC.kc {N U n nn ua aa ab ao cap : Nat} {A : Nat → Int} {D : Nat → Prop} {W W' : World} (h : TmC N U n nn ua aa ab ao cap A W) (k : KC D W W') (h1 : ¬ D ua) (h2 : ¬ D aa) (h3 : ¬ D ab) : TmC N U n nn ua aa ab ao cap A W' :=
 ⟨k.blk h.1 h1, k.blk h.2.1 h2, fun j hj => k.cell (h.2.2.1 j hj) h3, Nat.le_trans h.2.2.2 k.2⟩
theorem TmC.mk {N U n nn ua aa ab ao cap V : Nat} {A : Nat → Int} {W W' : World} (h : TmC N U n nn ua aa ab ao cap A W) (k : Mk V W W') (h1 : ua ≠ V) (h2 : aa ≠ V) (h3 : ab ≠ V) : TmC N U n nn ua aa ab ao cap A W' :=
 ⟨Blk.mk h.1 k h1, Blk.mk h.2.1 k h2, fun j hj => k.cell (h.2.2.1 j hj) h3, Nat.le_trans h.2.2.2 k.2.2.2⟩
def TmI (N U n nn ua aa ab ao cap Tb : Nat) (c0 : Bool) (n0 : Int) (A : Nat → Int) (J : List (Nat × Nat) → World → Prop) (j : Nat) (wr : World) : Prop :=
 ∃ (pre : List (Nat × Nat)) (B cp : Nat), J pre wr ∧ pre.length = j ∧ TSq N n nn A pre wr ∧ Blk Tb #[.int .i64 n, .int .i64 n, .slice (some ⟨B, 0, none⟩) nn cp] 38 wr ∧ Blk B (ints nn (termZ A n j)) 3 wr ∧ nn ≤ cp ∧ N ≤ B ∧ (∀ y ∈ pre, y.1 < B) ∧
  UW U (c0 || termC A n j) n0 ((j : Int) * 4000) wr ∧ TmC N U n nn ua aa ab ao cap A wr
def mixZ (Y : Nat → Int) (m k : Nat) : Nat → Int := fun i => if i < k then dvZ Y m i else Y i
theorem mix_zero (nn : Nat) (Y : Nat → Int) (m : Nat) : ints nn Y = ints nn (mixZ Y m 0) := ints_congr _ _ _ fun i _ => by simp [mixZ]
theorem mix_all (nn : Nat) (Y : Nat → Int) (m : Nat) : ints nn (mixZ Y m nn) = ints nn (dvZ Y m) := ints_congr _ _ _ fun i hi => by simp [mixZ, hi]
theorem mix_succ (nn : Nat) (Y : Nat → Int) (m k : Nat) : ints nn (fun i => if i = k then dvZ Y m k else mixZ Y m k i) = ints nn (mixZ Y m (k + 1)) := ints_congr _ _ _ fun i _ => by
 unfold mixZ
 by_cases e : i = k
 ·subst e; simp
 ·rw [if_neg e]
  by_cases h : i < k
  ·rw [if_pos h, if_pos (by omega)]
  ·rw [if_neg h, if_neg (by omega)]
def DvI (N U n nn ua aa ab ao cap Tb B cp : Nat) (c1 : Bool) (n1 : Int) (A Y : Nat → Int) (j k : Nat) (w5 wr : World) : Prop :=
 Blk Tb #[.int .i64 n, .int .i64 n, .slice (some ⟨B, 0, none⟩) nn cp] 38 wr ∧ Blk B (ints nn (mixZ Y (j + 1) k)) 3 wr ∧ UC U (c1 || orC (dvG Y (j + 1)) k) (n1 + 2 * k) wr ∧ TmC N U n nn ua aa ab ao cap A wr ∧ StT N U w5 wr ∧ (∀ b cs, b ≠ Tb → b ≠ B → b ≠ U → Blk b cs 3 w5 → Blk b cs 3 wr)
theorem blk_ne {b c : Nat} {cs ds : Array Value} {T S : TypeId} {w : World} (h : Blk b cs T w) (k : Blk c ds S w) (hT : T ≠ S) : b ≠ c := fun e => by
 subst e
 unfold Blk at h k
 rw [h] at k
 cases k
 exact hT rfl
theorem DvI.put {N U n nn ua aa ab ao cap Tb B cp : Nat} {c1 wc qc : Bool} {n1 q : Int} {A Y : Nat → Int} {j k : Nat} {w5 wr w7 : World} (h : DvI N U n nn ua aa ab ao cap Tb B cp c1 n1 A Y j k w5 wr) (u : UC U (c1 || orC (dvG Y (j + 1)) k || wc || qc) (n1 + 2 * k + 1 + 1) w7) (m : Mod U wr w7) (hk : k < nn) (e1 : q = dvZ Y (j + 1) k) (e2 : orC (dvG Y (j + 1)) (k + 1) = (orC (dvG Y (j + 1)) k || (wc || qc))) (nua : ua ≠ U) (naa : aa ≠ U) (nab : ab ≠ U) (lU : U < N) (lua : ua < N) (laa : aa < N) (lab : ab < N) (hB : N ≤ B) :
  DvI N U n nn ua aa ab ao cap Tb B cp c1 n1 A Y j (k + 1) w5 (w7.setCell ⟨B, k, none⟩ (.int .i64 q)) ∧ Blk Tb #[.int .i64 n, .int .i64 n, .slice (some ⟨B, 0, none⟩) nn cp] 38 w7 ∧ Blk B (ints nn (mixZ Y (j + 1) k)) 3 w7 := by
 obtain ⟨h1, h2, h3, h4, h5, h6⟩ := h
 have s : Mod B w7 (w7.setCell ⟨B, k, none⟩ (.int .i64 q)) := (Mod.refl _ _).setCell _ _
 have tU : Tb ≠ U := blk_ne h1 h3 (by decide +kernel)
 have bU : B ≠ U := blk_ne h2 h3 (by decide +kernel)
 have tB : Tb ≠ B := blk_ne h1 h2 (by decide +kernel)
 have t7 := Blk.keep h1 m tU
 have b7 := Blk.keep h2 m bU
 have c7 := h4.mk (Mk.of m) nua naa nab
 refine ⟨⟨Blk.keep t7 s tB, ?_, ?_, c7.mk (Mk.of s) (by omega) (by omega) (by omega), (h5.trans (StT.mk (Mk.of m) h3 h4.2.2.2)).trans (StT.set w7 hB), fun b cs n1 n2 n3 hb => Blk.keep (Blk.keep (h6 b cs n1 n2 n3 hb) m n3) s n2⟩, t7, b7⟩
 ·have := Blk.setI b7 k q
  rw [e1, mix_succ] at this
  rw [e1]
  exact this
 ·rw [e2, ← Bool.or_assoc, ← Bool.or_assoc, show n1 + 2 * ((k + 1 : Nat) : Int) = n1 + 2 * k + 1 + 1 by omega]
  exact Blk.keep u s (Ne.symm bU)
theorem DvI.drew {N U n nn ua aa ab ao cap Tb B cp : Nat} {c1 : Bool} {n1 : Int} {A Y : Nat → Int} {j k : Nat} {w5 wr : World} (h : DvI N U n nn ua aa ab ao cap Tb B cp c1 n1 A Y j k w5 wr) : DvI N U n nn ua aa ab ao cap Tb B cp c1 n1 A Y j k w5 wr.drew :=
 ⟨h.1, h.2.1, h.2.2.1, ⟨h.2.2.2.1.1, h.2.2.2.1.2.1, h.2.2.2.1.2.2.1, h.2.2.2.1.2.2.2⟩, ⟨⟨h.2.2.2.2.1.1.size, h.2.2.2.2.1.1.same⟩, h.2.2.2.2.1.2.1, h.2.2.2.2.1.2.2.1, h.2.2.2.2.1.2.2.2⟩, h.2.2.2.2.2⟩
section
attribute [local go_sem] Oper.semAt_some
set_option maxRecDepth 100000 in
set_option maxHeartbeats 8000000 in
theorem terms1_in (f l N U n nn ua aa ab ao cap : Nat) (hf : 1 ≤ f) (c0 : Bool) (n0 : Int) (hn0 : 0 ≤ n0 ∧ n0 < 1000000000000000000) (A : Nat → Int) (hn : 1 ≤ n ∧ n ≤ 12) (hnn : n * n = nn) (hA : ∀ j, j < nn → I64 (A j)) (hcap : nn ≤ cap) (nua : ua ≠ U) (naa : aa ≠ U) (nab : ab ≠ U) (lU : U < N) (lua : ua < N) (laa : aa < N) (lab : ab < N)
  (D : Nat → Prop) (dU : ¬ D U) (dua : ¬ D ua) (daa : ¬ D aa) (dab : ¬ D ab) (dN : ∀ k, N ≤ k → ¬ D k) (J Jx : List (Nat × Nat) → World → Prop) (hJ : ∀ s X Y, J s X → StT N U X Y → J s Y)
  (hY : ∀ pre x W1, J pre W1 → True → YieldAt Fence.wide (f - 1) Tryz.prog l (encT n nn x) W1 fun e W' => KC D W1 W' ∧ ((e = .returned (.bool true) ∧ J (pre ++ [x]) W' ∧ goesT (pre ++ [x])) ∨ (e = .returned (.bool false) ∧ Jx (pre ++ [x]) W')))
  (W : World) (hU : UC U c0 n0 W) (hC : TmC N U n nn ua aa ab ao cap A W) (h0 : J [] W) :
  CallsIn Fence.wide f Tryz.prog 154 #[.func (.yield l) #[] #[], .pointer (some ⟨aa, 0, none⟩), .pointer (some ⟨ua, 0, none⟩)] W fun e W' => (∃ v, e = .returned v) ∧ ((∃ xs : List (Nat × Nat), False ∧ J xs W') ∨ (∃ pre, SpT N U n nn c0 n0 A pre W' ∧ Jx pre W')) := by
 have k2 := mul12n n n hn hn
 rw [hnn] at k2
 have HE := hide (fun w => matEye_ok n hn w)
 rw [hnn] at HE
 have d0 : W.cell? ⟨aa, 0, none⟩ = some (.int .i64 n) := Blk.cell hC.2.1 0
 have HY := hide hY
 have HJ := hide hJ
 have HW := hide (And.intro hU (And.intro hC h0))
 have HN := hide (And.intro hn (And.intro hn0 k2))
 have HA := hide hA
 have HM : Hid (∀ m, m ≤ 24 → ∀ wx B cp (c : Bool) (q : Int), 0 ≤ q ∧ q < 1152921504606846976 → nn ≤ cp → UC U c q wx → Row wx (some ⟨B, 0, none⟩) nn (termZ A n m) → B ≠ U → (∀ j, j < nn → wx.cell? ⟨ab, ao + j, none⟩ = some (.int .i64 (A j))) →
   Calls Tryz.prog 30 #[.pointer (some ⟨U, 0, none⟩), .agg #[.int .i64 n, .int .i64 n, .slice (some ⟨B, 0, none⟩) nn cp], .agg #[.int .i64 n, .int .i64 n, .slice (some ⟨ab, ao, none⟩) nn cap]] wx fun e w' => MatP n n nn (mulZ (termZ A n m) A n n) 0 (fun w' => UC U (c || orC (mulG (termZ A n m) A n n) nn) (q + 2 * n * (nn : Int)) w' ∧ Mk U wx w') wx e w') := by
  intro m hm wx B cp c q hq hcp hu hr hB hab
  have ht := termZ_I64 A n m
  rw [hnn] at ht
  obtain ⟨_, _, e, hz⟩ := hr.some (by omega)
  cases e
  have := matMul_ok U c q hq n n n B 0 cp ab ao cap (termZ A n m) A hn hn hn (by rw [hnn]; exact hcp) (by rw [hnn]; exact ht) (by rw [hnn]; exact hA) wx hu (by rw [hnn]; exact hz) (by rw [hnn]; exact hab) hB nab
  rw [hnn] at this
  exact this
 have HNE := hide (And.intro nua (And.intro naa (And.intro nab (And.intro lU (And.intro lua (And.intro laa lab))))))
 have HD := hide (And.intro dU (And.intro dua (And.intro daa (And.intro dab dN))))
 have EN := hide hnn
 have n1 : 1 ≤ nn := k2.1
 clear hY hJ h0 hU hC hn hn0 hA nua naa nab lU lua laa lab dU dua daa dab dN hnn k2 hcap
 refine callsIn_of_wp Tryz.func154 rfl trivial ?_ rfl
 simp only [Tryz.ntmps154, List.size_toArray, List.length_cons, List.length_nil, Nat.reduceAdd, Nat.reduceSub, Array.replicate_succ, Array.replicate_zero, List.push_toArray, List.append_toArray, List.nil_append, List.cons_append]
 gi_wp2_with (refine ⟨trivial, ?_⟩; gi_at_call 28; refine (callsIn_wide.2 (unhide HE _)).mono ?_; rintro e w1 ⟨_, cp, B, rfl, hB, hb, hcp, k1⟩; obtain ⟨rfl, hbn⟩ := hb.resolve_left (Nat.ne_of_gt n1); have R1 := hide (And.intro hB (And.intro hbn (And.intro hcp k1))); clear hB hb hbn hcp k1)
 have I0 : Hid (TmI N U n nn ua aa ab ao cap w1.heap.size c0 n0 A J 0 (w1.alloc (.cells #[.int .i64 n, .int .i64 n, .slice (some ⟨B, 0, none⟩) nn cp] 38)) ∧ N ≤ w1.heap.size) := by
  obtain ⟨hB, hb, hcp, k1⟩ := unhide R1
  obtain ⟨hU, hC, h0⟩ := unhide HW
  have k2 : Kp W (w1.alloc (.cells #[.int .i64 n, .int .i64 n, .slice (some ⟨B, 0, none⟩) nn cp] 38)) := k1.grown ((Grown.refl _).alloc _ _)
  refine ⟨⟨[], B, cp, unhide HJ _ _ _ h0 (StT.kp k2 hC.2.2.2), rfl, ⟨fun i x hx => (by cases hx), List.Pairwise.nil⟩, Blk.new _ _ _, Blk.grown hb ((Grown.refl _).alloc _ _), hcp, Nat.le_trans hC.2.2.2 hB, fun _ h => absurd h List.not_mem_nil, ⟨n0, by omega, by omega, ?_⟩, (hC.mk (Mk.kp (U := U) k2) (unhide HNE).1 (unhide HNE).2.1 (unhide HNE).2.2.1)⟩, Nat.le_trans hC.2.2.2 k1.2.2.2⟩
  show UC U (c0 || false) _ _
  rw [Bool.or_false]
  exact Blk.kp hU k2
 have HTb : Hid (N ≤ w1.heap.size) := (unhide I0).2
 clear R1 HW d0 HE
 generalize w1.alloc (.cells #[.int .i64 n, .int .i64 n, .slice (some ⟨B, 0, none⟩) nn cp] 38) = w2 at *
 generalize w1.heap.size = Tb at *
 gi_loopw [6] (fun i wr => ∃ j : Nat, j ≤ 24 ∧ i = .int .i64 ((j + 1 : Nat) : Int) ∧ Hid (TmI N U n nn ua aa ab ao cap Tb c0 n0 A J j wr)) (fun i _ => 26 - (intOf i).toNat)
 case atStart => exact ⟨0, Nat.zero_le _, rfl, (unhide I0).1⟩
 case round =>
  obtain ⟨j, hj, rfl, HI⟩ := hrel
  clear I0
  obtain ⟨pre, B, cp, hJ1, hl, hT, hTb, hb, hcp, hB, hlt, hu, hC⟩ := unhide HI
  obtain ⟨fn, tmps, assign, body, hy, hR⟩ := unhide HY pre (B, cp) wr hJ1 trivial
  dsimp only [encT] at hy
  have x0 : wr.cell? ⟨Tb, 0, none⟩ = some (.int .i64 n) := Blk.cell hTb 0
  have x1 : wr.cell? ⟨Tb, 1, none⟩ = some (.int .i64 n) := Blk.cell hTb 1
  have x2 : wr.cell? ⟨Tb, 2, none⟩ = some (.slice (some ⟨B, 0, none⟩) nn cp) := Blk.cell hTb 2
  have HS := hide (And.intro hl (And.intro hT (And.intro hTb (And.intro hb (And.intro hcp (And.intro hB (And.intro hlt (And.intro hu hC))))))))
  clear hJ1 hl hT hTb hb hcp hB hlt hu hC HI
  gi_wp2
  refine hR.mono ?_
  rintro e W3 ⟨hk, (⟨rfl, hJ3, hP⟩ | ⟨rfl, hJx⟩)⟩
  ·obtain ⟨hl, hT, hTb, hb, hcp, hB, hlt, ⟨cnt, q1, q2, hu⟩, hC⟩ := unhide HS
   obtain ⟨dU, dua, daa, dab, dN⟩ := unhide HD
   have hj2 : j + 1 ≤ 24 := by unfold goesT at hP; rw [List.length_append] at hP; simpa [hl] using hP
   have hT3 : TSq N n nn A (pre ++ [(B, cp)]) W3 := (hT.of (fun b cs hbN h => hk.blk h (dN b hbN))).snoc (by rw [hl]; exact hk.blk hb (dN B hB)) hB hcp hlt
   have hTb3 := hk.blk hTb (dN Tb (unhide HTb))
   have hb3 := hk.blk hb (dN B hB)
   have hu3 := hk.blk hu dU
   have hC3 := hC.kc hk dua daa dab
   have x0 : W3.cell? ⟨Tb, 0, none⟩ = some (.int .i64 n) := Blk.cell hTb3 0
   have x1 : W3.cell? ⟨Tb, 1, none⟩ = some (.int .i64 n) := Blk.cell hTb3 1
   have x2 : W3.cell? ⟨Tb, 2, none⟩ = some (.slice (some ⟨B, 0, none⟩) nn cp) := Blk.cell hTb3 2
   have y0 : W3.cell? ⟨ua, 0, none⟩ = some (.pointer (some ⟨U, 0, none⟩)) := Blk.cell hC3.1 0
   have z0 : W3.cell? ⟨aa, 0, none⟩ = some (.int .i64 n) := Blk.cell hC3.2.1 0
   have z1 : W3.cell? ⟨aa, 1, none⟩ = some (.int .i64 n) := Blk.cell hC3.2.1 1
   have z2 : W3.cell? ⟨aa, 2, none⟩ = some (.slice (some ⟨ab, ao, none⟩) nn cap) := Blk.cell hC3.2.1 2
   have hB3 := Blk.lt hb3
   have bB : ∀ y ∈ pre ++ [(B, cp)], y.1 < W3.heap.size := fun y hy => by
    obtain ⟨i, hi⟩ := List.getElem?_of_mem hy
    exact Blk.lt (hT3.1 i y hi).1
   have qb : 0 ≤ (j : Int) * 4000 ∧ (j : Int) * 4000 ≤ 96000 := by omega
   have MU := hide (unhide HM j hj W3 B cp (c0 || termC A n j) cnt (by have := (unhide HN).2.1; omega) hcp hu3 (Blk.row hb3) (blk_ne (b := B) (c := U) hb3 hu3 (by decide +kernel)) hC3.2.2.1)
   have S3 := hide (And.intro hJ3 (And.intro hl (And.intro hT3 (And.intro hTb3 (And.intro hu3 (And.intro hC3 (And.intro bB (And.intro q1 (And.intro q2 hj2)))))))))
   clear hJ3 hl hT hT3 hTb hTb3 hb hb3 hu hu3 hC hC3 hcp hB hlt hk hP q1 q2 dU dua daa dab dN bB hB3 hR hy HS qb
   gi_wp2_with (refine ⟨trivial, ?_⟩; gi_at_call 30; refine (callsIn_wide.2 (unhide MU)).mono ?_; rintro e w4 ⟨_, cp2, B2, rfl, hB2, hb2, hcp2, hu4, m4⟩; obtain ⟨rfl, hbn⟩ := hb2.resolve_left (Nat.ne_of_gt n1); have t4 := Blk.mk (unhide S3).2.2.2.1 m4 (blk_ne (unhide S3).2.2.2.1 (unhide S3).2.2.2.2.1 (by decide +kernel)); have x0 : w4.cell? ⟨Tb, 0, none⟩ = some (.int .i64 n) := Blk.cell t4 0; have x1 : w4.cell? ⟨Tb, 1, none⟩ = some (.int .i64 n) := Blk.cell t4 1; have x2 : w4.cell? ⟨Tb, 2, none⟩ = some (.slice (some ⟨B, 0, none⟩) nn cp) := Blk.cell t4 2; have ff := Blk.free t4; have R4 := hide (And.intro hB2 (And.intro hbn (And.intro hcp2 (And.intro hu4 (And.intro m4 t4))))); clear hB2 hb2 hbn hcp2 hu4 m4 t4)
   obtain ⟨Y, hYe⟩ : ∃ Y, mulZ (termZ A n j) A n n = Y := ⟨_, rfl⟩
   obtain ⟨w5, hw5⟩ : ∃ w5, (((w4.setCell ⟨Tb, 0, none⟩ (.int .i64 n)).setCell ⟨Tb, 1, none⟩ (.int .i64 n)).setCell ⟨Tb, 2, none⟩ (.slice (some ⟨B2, 0, none⟩) nn cp2)) = w5 := ⟨_, rfl⟩
   have S5 : Hid (DvI N U n nn ua aa ab ao cap Tb B2 cp2 (c0 || termC A n j || orC (mulG (termZ A n j) A n n) nn) (cnt + 2 * n * (nn : Int)) A Y j 0 w5 w5 ∧ StT N U W3 w5 ∧ TSq N n nn A (pre ++ [(B, cp)]) w5 ∧ (∀ y ∈ pre ++ [(B, cp)], y.1 < B2) ∧ N ≤ B2 ∧ nn ≤ cp2) := by
    obtain ⟨hB2, hb2, hcp2, hu4, m4, t4⟩ := unhide R4
    obtain ⟨_, hl, hT3, hTb3, hu3, hC3, bB, q1, q2, hj2⟩ := unhide S3
    obtain ⟨nua, naa, nab, lU, lua, laa, lab⟩ := unhide HNE
    have hTbN := unhide HTb
    have P := putM t4 (.int .i64 n) (.int .i64 n) (.slice (some ⟨B2, 0, none⟩) nn cp2)
    rw [hw5] at P
    have tl := Blk.lt hTb3
    have c4 := hC3.mk m4 nua naa nab
    have s1 : StT N U W3 w4 := StT.mk m4 hu3 hC3.2.2.2
    have s2 : StT N U w4 w5 := StT.new P.2 hTbN t4 c4.2.2.2
    refine ⟨⟨P.1, ?_, ?_, c4.mk (Mk.of P.2) (by omega) (by omega) (by omega), ⟨KeepsOthers.refl _, rfl, rfl, fun _ _ _ => rfl⟩, fun _ _ _ _ _ h => h⟩, s1.trans s2, hT3.of (fun b cs hbN h => Blk.keep (Blk.mk h m4 (by omega)) P.2 (blk_ne (Blk.mk h m4 (by omega)) t4 (by decide +kernel))), fun y hy => Nat.lt_of_lt_of_le (bB y hy) hB2, Nat.le_trans hC3.2.2.2 hB2, hcp2⟩
    ·rw [← mix_zero, ← hYe]
     exact Blk.keep hb2 P.2 (by omega)
    ·show UC U (_ || false) (_ + 2 * 0) _
     rw [Bool.or_false, Int.mul_zero, Int.add_zero]
     exact Blk.keep hu4 P.2 (by omega)
   have J3 := hide (unhide S3).1
   have K3 : Hid (pre.length = j ∧ n0 ≤ cnt ∧ cnt ≤ n0 + (j : Int) * 4000 ∧ j + 1 ≤ 24) := ⟨(unhide S3).2.1, (unhide S3).2.2.2.2.2.2.2.1, (unhide S3).2.2.2.2.2.2.2.2.1, (unhide S3).2.2.2.2.2.2.2.2.2⟩
   rw [hw5]
   have g2 : w5.cell? ⟨Tb, 2, none⟩ = some (.slice (some ⟨B2, 0, none⟩) nn cp2) := Blk.cell (unhide S5).1.1 2
   clear hw5 R4 S3 x0 x1 x2 y0 z0 z1 z2 MU ff
   have HYE := hide hYe
   clear hYe
   gi_wp2
   gi_loopw [30] (fun i wq => ∃ k : Nat, k ≤ nn ∧ i = .int .i64 k ∧ Hid (DvI N U n nn ua aa ab ao cap Tb B2 cp2 (c0 || termC A n j || orC (mulG (termZ A n j) A n n) nn) (cnt + 2 * n * (nn : Int)) A Y j k w5 wq)) (fun i _ => nn - (intOf i).toNat)
   case atStart => exact ⟨0, Nat.zero_le _, rfl, (unhide S5).1⟩
   case round =>
    obtain ⟨k, hk, rfl, HK⟩ := hrel
    clear g2
    by_cases hkn : k < nn
    ·have xk : wr.cell? ⟨B2, k, none⟩ = some (.int .i64 (Y k)) := by
      rw [Blk.cell (unhide HK).2.1, ints_at nn _ k hkn]
      simp [mixZ]
     have y0 : wr.cell? ⟨Tb, 2, none⟩ = some (.slice (some ⟨B2, 0, none⟩) nn cp2) := Blk.cell (unhide HK).1 2
     have y1 : wr.cell? ⟨ua, 0, none⟩ = some (.pointer (some ⟨U, 0, none⟩)) := Blk.cell (unhide HK).2.2.2.1.1 0
     have i0 : (0 : Int) ≤ (k : Int) := by omega
     have i1 : (k : Int) < (nn : Int) := by omega
     have k144 : k ≤ 143 := by have := (unhide HN).2.2.2; omega
     have mI : I64 ((j + 1 : Nat) : Int) := by unfold I64; omega
     have yI : I64 (Y k) := by
      rw [← unhide HYE]
      exact mulZ_I64 _ _ _ _ _
     have UL : U < wr.heap.size := Blk.lt (unhide HK).2.2.1
     have hm := unhide HN
     have kb : (n : Int) * (nn : Int) ≤ 12 * 144 := Int.mul_le_mul (by omega) (by omega) (by omega) (by omega)
     have kb0 : 0 ≤ (n : Int) * (nn : Int) := Int.mul_nonneg (by omega) (by omega)
     have kq : 2 * (n : Int) * (nn : Int) = 2 * ((n : Int) * (nn : Int)) := Int.mul_assoc _ _ _
     have kj : (j : Int) * 4000 ≤ 96000 := by omega
     have cb : 0 ≤ cnt + 2 * (n : Int) * (nn : Int) + 2 * (k : Int) ∧ cnt + 2 * (n : Int) * (nn : Int) + 2 * (k : Int) + 10 < 2305843009213693952 := by
      have := (unhide K3).2
      rw [kq]
      generalize (n : Int) * (nn : Int) = p at *
      omega
     have WH := hide (fun c w h => unitWhole U c (cnt + 2 * (n : Int) * (nn : Int) + 2 * (k : Int)) ((j + 1 : Nat) : Int) mI ⟨cb.1, by omega⟩ w h)
     have DV := hide (fun c w h => unitDiv U c (cnt + 2 * (n : Int) * (nn : Int) + 2 * (k : Int) + 1) (Y k) (whoN ((j + 1 : Nat) : Int)) yI (whoN_I64 _) ⟨by omega, by omega⟩ w h)
     have ED : Hid (divN (Y k) (whoN ((j + 1 : Nat) : Int)) = dvZ Y (j + 1) k) := rfl
     have EG : Hid (orC (dvG Y (j + 1)) (k + 1) = (orC (dvG Y (j + 1)) k || (whoC ((j + 1 : Nat) : Int) || divC (Y k) (whoN ((j + 1 : Nat) : Int))))) := rfl
     generalize whoN ((j + 1 : Nat) : Int) = wm at *
     generalize whoC ((j + 1 : Nat) : Int) = wc at *
     generalize Y k = y at *
     generalize divN y wm = q at *
     generalize divC y wm = qc at *
     clear kb kb0 kq kj cb hm
     gi_wp2
     refine wpIn_wide.2 ?_
     refine region_G (fun w' => w'.cell? ⟨Tb, 2, none⟩ = some (.slice (some ⟨B2, 0, none⟩) nn cp2) ∧ w'.cell? ⟨ua, 0, none⟩ = some (.pointer (some ⟨U, 0, none⟩))) 10 (by kernel_rfl) ⟨y0, y1⟩ (fun hHeld => ?_)
     refine take_G (i := 0) (d := 35) (v := .pointer (some ⟨Tb, 2, none⟩)) rfl rfl (by kernel_rfl) (by kernel_rfl) (by kernel_rfl) (by kernel_rfl) (by kernel_rfl) (Or.inl ⟨by rfl, ?_⟩) hHeld ?_
     ·intro wS hSw
      obtain ⟨z0, z1⟩ := hSw
      clear hHeld
      go_simp
     (try simp only [Act.put, List.setIfInBounds_toArray, List.set_cons_zero, List.set_cons_succ])
     refine take_G (i := 1) (d := 36) (v := .slice (some ⟨B2, 0, none⟩) nn cp2) rfl rfl (by kernel_rfl) (by kernel_rfl) (by kernel_rfl) (by kernel_rfl) (by kernel_rfl) (Or.inl ⟨by rfl, ?_⟩) hHeld ?_
     ·intro wS hSw
      obtain ⟨z0, z1⟩ := hSw
      clear hHeld
      go_simp
     (try simp only [Act.put, List.setIfInBounds_toArray, List.set_cons_zero, List.set_cons_succ])
     refine take_G (i := 2) (d := 37) (v := .int .i64 (k : Int)) rfl rfl (by kernel_rfl) (by kernel_rfl) (by kernel_rfl) (by kernel_rfl) (by kernel_rfl) (Or.inl ⟨by rfl, ?_⟩) hHeld ?_
     ·intro wS hSw
      obtain ⟨z0, z1⟩ := hSw
      clear hHeld
      go_simp
     (try simp only [Act.put, List.setIfInBounds_toArray, List.set_cons_zero, List.set_cons_succ])
     refine take_G (i := 3) (d := 38) (v := .pointer (some ⟨U, 0, none⟩)) rfl rfl (by kernel_rfl) (by kernel_rfl) (by kernel_rfl) (by kernel_rfl) (by kernel_rfl) (Or.inl ⟨by rfl, ?_⟩) hHeld ?_
     ·intro wS hSw
      obtain ⟨z0, z1⟩ := hSw
      clear hHeld
      go_simp
     (try simp only [Act.put, List.setIfInBounds_toArray, List.set_cons_zero, List.set_cons_succ])
     refine take_G (i := 4) (d := 39) (v := .int .i64 y) rfl rfl (by kernel_rfl) (by kernel_rfl) (by kernel_rfl) (by kernel_rfl) (by kernel_rfl) (Or.inl ⟨by rfl, ?_⟩) hHeld ?_
     ·intro wS hSw
      obtain ⟨z0, z1⟩ := hSw
      clear hHeld
      go_simp
     (try simp only [Act.put, List.setIfInBounds_toArray, List.set_cons_zero, List.set_cons_succ])
     refine take_G (i := 5) (d := 40) (v := .pointer (some ⟨U, 0, none⟩)) rfl rfl (by kernel_rfl) (by kernel_rfl) (by kernel_rfl) (by kernel_rfl) (by kernel_rfl) (Or.inl ⟨by rfl, ?_⟩) hHeld ?_
     ·intro wS hSw
      obtain ⟨z0, z1⟩ := hSw
      clear hHeld
      go_simp
     (try simp only [Act.put, List.setIfInBounds_toArray, List.set_cons_zero, List.set_cons_succ])
     refine take_G (i := 6) (d := 41) (v := .int .i64 ((j + 1 : Nat) : Int)) rfl rfl (by kernel_rfl) (by kernel_rfl) (by kernel_rfl) (by kernel_rfl) (by kernel_rfl) (Or.inl ⟨by rfl, ?_⟩) hHeld ?_
     ·intro wS hSw
      obtain ⟨z0, z1⟩ := hSw
      clear hHeld
      go_simp
     (try simp only [Act.put, List.setIfInBounds_toArray, List.set_cons_zero, List.set_cons_succ])
     have HK2 : Hid (DvI N U n nn ua aa ab ao cap Tb B2 cp2 (c0 || termC A n j || orC (mulG (termZ A n j) A n n) nn) (cnt + 2 * n * (nn : Int)) A Y j k w5 wr.drew) := (unhide HK).drew
     clear HK xk y0 y1 hHeld
     refine step_G (i := 7) (by kernel_rfl) (fun K hK => ?_)
     refine wpOp_of rfl rfl ?_
     unfold Oper.wp
     go_simp
     refine (unhide WH _ _ (unhide HK2).2.2.1).mono ?_
     rintro e w6 ⟨rfl, u6, m6⟩
     have b6 := Blk.keep (unhide HK2).1 m6 (blk_ne (unhide HK2).1 (unhide HK2).2.2.1 (by decide +kernel))
     have v6 := Blk.keep (unhide HK2).2.2.2.1.1 m6 (unhide HNE).1
     have hHeld : w6.cell? ⟨Tb, 2, none⟩ = some (.slice (some ⟨B2, 0, none⟩) nn cp2) ∧ w6.cell? ⟨ua, 0, none⟩ = some (.pointer (some ⟨U, 0, none⟩)) := ⟨Blk.cell b6 2, Blk.cell v6 0⟩
     have S6 := hide (And.intro u6 (And.intro m6 (And.intro b6 v6)))
     refine hK _ _ (fun _ => hHeld) ?_
     clear hK K u6 m6 b6 v6
     (try simp only [Act.put, List.setIfInBounds_toArray, List.set_cons_zero, List.set_cons_succ])
     refine step_G (i := 8) (by kernel_rfl) (fun K hK => ?_)
     refine wpOp_of rfl rfl ?_
     unfold Oper.wp
     go_simp
     refine (unhide DV _ _ (unhide S6).1).mono ?_
     rintro e w7 ⟨rfl, u7, m7⟩
     have P7 := hide ((unhide HK2).put u7 ((unhide S6).2.1.trans m7) hkn (unhide ED) (unhide EG) (unhide HNE).1 (unhide HNE).2.1 (unhide HNE).2.2.1 (unhide HNE).2.2.2.1 (unhide HNE).2.2.2.2.1 (unhide HNE).2.2.2.2.2.1 (unhide HNE).2.2.2.2.2.2 (unhide S5).2.2.2.2.1)
     have b7 := (unhide P7).2.1
     have k7 := Blk.cell (unhide P7).2.2 k
     rw [ints_at nn _ k hkn] at k7
     have f7 := Blk.free (unhide P7).2.2 k
     have v7 := Blk.keep (unhide S6).2.2.2 m7 (unhide HNE).1
     have hHeld : w7.cell? ⟨Tb, 2, none⟩ = some (.slice (some ⟨B2, 0, none⟩) nn cp2) ∧ w7.cell? ⟨ua, 0, none⟩ = some (.pointer (some ⟨U, 0, none⟩)) := ⟨Blk.cell b7 2, Blk.cell v7 0⟩
     refine hK _ _ (fun _ => hHeld) ?_
     clear hK K u7 m7 b7 v7 S6
     (try simp only [Act.put, List.setIfInBounds_toArray, List.set_cons_zero, List.set_cons_succ])
     refine take_G (i := 9) (d := 44) (v := .pointer (some ⟨B2, k, none⟩)) rfl rfl (by kernel_rfl) (by kernel_rfl) (by kernel_rfl) (by kernel_rfl) (by kernel_rfl) (Or.inl ⟨by rfl, ?_⟩) hHeld ?_
     ·intro wS hSw
      obtain ⟨z0, z1⟩ := hSw
      clear hHeld
      go_simp
     (try simp only [Act.put, List.setIfInBounds_toArray, List.set_cons_zero, List.set_cons_succ])
     clear hHeld
     generalize mixZ Y (j + 1) k k = old at *
     refine step_G (i := 10) (by kernel_rfl) (fun K hK => ?_)
     refine wpOp_of rfl rfl ?_
     unfold Oper.wp
     go_simp
     refine hK _ _ (fun h => absurd rfl h) ?_
     clear hK K
     (try simp only [Act.put, List.setIfInBounds_toArray, List.set_cons_zero, List.set_cons_succ])
     refine done_G (by kernel_rfl) ?_
     refine noPanic_normalE ?_
     have R : Hid (DvI N U n nn ua aa ab ao cap Tb B2 cp2 (c0 || termC A n j || orC (mulG (termZ A n j) A n n) nn) (cnt + 2 * n * (nn : Int)) A Y j (k + 1) w5 (w7.setCell ⟨B2, k, none⟩ (.int .i64 q))) := (unhide P7).1
     clear P7 k7 f7 WH DV ED EG HK2
     gi_wp2
     go_roundw
     case rel => exact ⟨k + 1, by omega, by go_num, R⟩
     case measure => simp [intOf]; omega
    ·obtain rfl : k = nn := by omega
     have R : Hid (TmI N U n k ua aa ab ao cap Tb c0 n0 A J (j + 1) wr) := by
      obtain ⟨h1, h2, h3, h4, h5, h6⟩ := unhide HK
      obtain ⟨s1, s2, s3, s4, s5, s6⟩ := unhide S5
      obtain ⟨q1, q2, q3, q4⟩ := unhide K3
      refine ⟨pre ++ [(B, cp)], B2, cp2, unhide HJ _ _ _ (unhide J3) (s2.trans h5), by rw [List.length_append, q1]; rfl, s3.of2 (fun y hy cs hN hb => h6 _ _ (blk_ne hb s1.1 (by decide +kernel)) (Nat.ne_of_lt (s4 y hy)) (blk_ne hb s1.2.2.1 (by decide +kernel)) hb), h1, ?_, s6, s5, s4, ⟨cnt + 2 * n * (k : Int) + 2 * k, ?_, ?_, ?_⟩, h4⟩
      ·rw [mix_all, ← unhide HYE] at h2
       exact h2
      ·have : 0 ≤ (n : Int) * (k : Int) := Int.mul_nonneg (by omega) (by omega)
       rw [Int.mul_assoc]
       omega
      ·have kb : (n : Int) * (k : Int) ≤ 12 * 144 := Int.mul_le_mul (by have := unhide HN; omega) (by have := unhide HN; omega) (by omega) (by omega)
       rw [Int.mul_assoc, Int.natCast_add, Int.add_mul]
       have := (unhide HN).2.2.2
       omega
      ·show UC U (c0 || (termC A n j || orC (mulG (termZ A n j) A n n) (n * n) || orC (dvG (mulZ (termZ A n j) A n n) (j + 1)) (n * n))) _ _
       rw [unhide EN, unhide HYE, ← Bool.or_assoc, ← Bool.or_assoc]
       exact h3
     have q4 := (unhide K3).2.2.2
     clear HK
     gi_wp2
     go_roundw
     case rel => exact ⟨j + 1, q4, by go_num, R⟩
     case measure => simp [intOf]; omega
  ·obtain ⟨hl, hT, hTb, hb, hcp, hB, hlt, ⟨cnt, q1, q2, hu⟩, hC⟩ := unhide HS
   obtain ⟨dU, dua, daa, dab, dN⟩ := unhide HD
   have R : Hid (SpT N U n nn c0 n0 A (pre ++ [(B, cp)]) W3 ∧ Jx (pre ++ [(B, cp)]) W3) := by
    refine ⟨⟨j, by rw [List.length_append, hl]; rfl, hj, (hT.of (fun b cs hbN h => hk.blk h (dN b hbN))).snoc (by rw [hl]; exact hk.blk hb (dN B hB)) hB hcp hlt, cnt, q1, by omega, hk.blk hu dU⟩, hJx⟩
   clear hl hT hTb hb hcp hB hlt hu hC hk hJx hR hy HS dU dua daa dab dN x0 x1 x2
   gi_wp2
   go_end0
   exact ⟨⟨_, rfl⟩, .inr ⟨_, unhide R⟩⟩
end
end Go.Proofs.YtjobgjcfkomhpaaGreat
namespace Go.Proofs.YtjobgjcfkomhpaaGreat
open Go.RowKit Go.Shelf Go.Proofs.Wd
set_option maxRecDepth 10000
set_option maxHeartbeats 1000000 in
theorem polyTermsMk (u : Option Addr) (R C : Int) (ao : Option Addr) (len cap : Nat) (w : World) : Calls Tryz.prog 119 #[.pointer u, .agg #[.int .i64 R, .int .i64 C, .slice ao len cap]] w fun e w' => e = .returned (.func (.func 154) #[] #[.pointer (some ⟨w.heap.size + 1, 0, none⟩), .pointer (some ⟨w.heap.size, 0, none⟩)]) ∧ w' = (w.alloc (.cells #[.pointer u] 26)).alloc (.cells #[.int .i64 R, .int .i64 C, .slice ao len cap] 38) := by
 go_enter Tryz.func119, Tryz.ntmps119
 go_wp2
 go_ret
 exact ⟨rfl, rfl⟩
theorem make_mats (c : Nat) (hc : c ≤ 1000000) : ∃ zc : Array Value, zc.size = c * 3 ∧ ∀ w : World, (Instr.makeSlice 73 (.int .i64 0) (.int .i64 (c : Int))).run Tryz.prog w = .ok (.slice (some ⟨w.heap.size, 0, none⟩) 0 c) (w.alloc (.cells zc 38)) := by
 obtain ⟨i0, hi, hz0, hz1, hz2⟩ := info_parts Tryz.infoMat
 refine ⟨madeCells (Value.agg #[.int .i64 0, .int .i64 0, .slice none 0 0]).cells (c * 3), by rw [size_madeCells], fun w => ?_⟩
 have := run_make (P := Tryz.prog) w 73 38 i0 _ Tryz.underlying73 hi hz0 .i64 .i64 0 c (Int.le_refl _) (by omega) (by rw [hz2]; omega) (by omega)
 rw [hz1, Int.toNat_natCast] at this
 exact this
def XT (n nn : Nat) (A : Nat → Int) (i : Nat) (x : Nat × Nat) : MV := ⟨n, n, some ⟨x.1, 0, none⟩, nn, x.2, termZ A n i⟩
def listT (n nn : Nat) (A : Nat → Int) (pre : List (Nat × Nat)) : List MV := pre.mapIdx (XT n nn A)
theorem listT_len (n nn : Nat) (A : Nat → Int) (pre : List (Nat × Nat)) : (listT n nn A pre).length = pre.length := by simp [listT]
theorem listT_snoc (n nn : Nat) (A : Nat → Int) (pre : List (Nat × Nat)) (x : Nat × Nat) : listT n nn A (pre ++ [x]) = listT n nn A pre ++ [XT n nn A pre.length x] := by simp [listT]
def TermP (U n nn : Nat) (c : Bool) (n0 : Int) (A : Nat → Int) (k : Nat) (w : World) (e : Ending) (w' : World) : Prop :=
 ∃ (Lb : Nat) (pre : List (Nat × Nat)), e = .returned (.tuple #[.slice (some ⟨Lb, 0, none⟩) (k + 1) (k + 1), .int .i64 0]) ∧ pre.length = k + 1 ∧ MLs w' w.heap.size (.slice (some ⟨Lb, 0, none⟩) (k + 1) (k + 1)) (listT n nn A pre) ∧ TSq w.heap.size n nn A pre w' ∧ UW U (c || termC A n k) n0 100000 w' ∧ Mk U w w'
theorem TSq.mono {N M n nn : Nat} {A : Nat → Int} {pre : List (Nat × Nat)} {W : World} (h : TSq N n nn A pre W) (hN : M ≤ N) : TSq M n nn A pre W := ⟨fun i x hx => ⟨(h.1 i x hx).1, Nat.le_trans hN (h.1 i x hx).2.1, (h.1 i x hx).2.2⟩, h.2⟩
def TmJ (w : World) (U n nn S3 k : Nat) (A : Nat → Int) (p : Nat) (pre : List (Nat × Nat)) (W : World) : Prop :=
 pre.length = p ∧ MLs W w.heap.size (.slice (some ⟨S3, 0, none⟩) p (k + 1)) (listT n nn A pre) ∧ Blk (S3 + 1) #[.slice (some ⟨S3, 0, none⟩) p (k + 1)] 73 W ∧ Blk (w.heap.size + 1) #[.int .i64 k] 3 W ∧ Mk U w W ∧ S3 + 4 ≤ W.heap.size
theorem mls_own {base : Nat} {v : Value} {l : List MV} {W W' : World} {row : Option Nat} (h : MLs W base v l) (hg : W.grownBy W' row) (hr : ∀ r, row = some r → ∃ o : Obj, W.heap[r]? = some o ∧ o.isCells = false) : MLs W' base v l := h.blk fun _ _ _ _ hb => blk_own hb hg hr
theorem mk_own {U B : Nat} {w W W' : World} {row : Option Nat} (h : Mk U w W) (hB : w.heap.size ≤ B) (hg : W.grownBy W' row) (hr : ∀ r, row = some r → B ≤ r ∧ ∃ o : Obj, W.heap[r]? = some o ∧ o.isCells = false) : Mk U w W' := h.by hg (fun k e => Nat.le_trans hB (hr k e).1)
theorem tmJ_own {w W W' : World} {U n nn S3 k p B : Nat} {A : Nat → Int} {pre : List (Nat × Nat)} {row : Option Nat} (h : TmJ w U n nn S3 k A p pre W) (hB : w.heap.size ≤ B) (hg : W.grownBy W' row) (hr : ∀ r, row = some r → B ≤ r ∧ ∃ o : Obj, W.heap[r]? = some o ∧ o.isCells = false) : TmJ w U n nn S3 k A p pre W' := by
 have hr' : ∀ r, row = some r → ∃ o : Obj, W.heap[r]? = some o ∧ o.isCells = false := fun r e => (hr r e).2
 exact ⟨h.1, mls_own h.2.1 hg hr', blk_own h.2.2.1 hg hr', blk_own h.2.2.2.1 hg hr', mk_own h.2.2.2.2.1 hB hg hr, Nat.le_trans h.2.2.2.2.2 hg.size⟩
theorem mk_stT {U N : Nat} {w A B : World} (h : Mk U w A) (s : StT N U A B) (hN : w.heap.size ≤ N) : Mk U w B :=
 ⟨s.2.1.trans h.1, s.2.2.1.trans h.2.1, fun k hk hu => (s.2.2.2 k (by omega) hu).trans (h.2.2.1 k hk hu), Nat.le_trans h.2.2.2 s.1.size⟩
theorem tmJ_stT {w A B : World} {U N n nn S3 k p : Nat} {Z : Nat → Int} {pre : List (Nat × Nat)} (h : TmJ w U n nn S3 k Z p pre A) (s : StT N U A B) (hN : S3 + 4 ≤ N) (hw : w.heap.size + 2 ≤ S3) (hU : U < w.heap.size) : TmJ w U n nn S3 k Z p pre B :=
 have kb : ∀ b cs T, b < N → b ≠ U → Blk b cs T A → Blk b cs T B := fun b cs T hb hu h => (s.2.2.2 b hb hu).trans h
 ⟨h.1, h.2.1.blk fun g cs e hb hB => kb g cs _ (by cases e; show S3 < N; omega) (by cases e; show S3 ≠ U; omega) hB, kb _ _ _ (by omega) (by omega) h.2.2.1, kb _ _ _ (by omega) (by omega) h.2.2.2.1, mk_stT h.2.2.2.2.1 s (by omega), Nat.le_trans h.2.2.2.2.2 s.1.size⟩
theorem TmJ.app {w W w' : World} {U n nn S3 k p : Nat} {A : Nat → Int} {pre : List (Nat × Nat)} {x : Nat × Nat} (h : TmJ w U n nn S3 k A p pre W) (hS : w.heap.size + 2 ≤ S3)
  (hown : w'.ownsRow w.heap.size 38 3 (.slice (some ⟨S3, 0, none⟩) (p + 1) (k + 1)) (p + 1) (flat (listT n nn A pre) ++ (XT n nn A p x).cells.toList)) (hg : (W.alloc (.cells (XT n nn A p x).cells 38)).grownBy w' (some S3)) :
  Blk (S3 + 1) #[.slice (some ⟨S3, 0, none⟩) p (k + 1)] 73 w' ∧ Blk (w.heap.size + 1) #[.int .i64 k] 3 w' ∧
   TmJ w U n nn S3 k A (p + 1) (pre ++ [x]) (w'.setCell ⟨S3 + 1, 0, none⟩ (.slice (some ⟨S3, 0, none⟩) (p + 1) (k + 1))) ∧
   KC (fun k => k = S3 ∨ k = S3 + 1) W (w'.setCell ⟨S3 + 1, 0, none⟩ (.slice (some ⟨S3, 0, none⟩) (p + 1) (k + 1))) ∧ KeepsOthers W (w'.setCell ⟨S3 + 1, 0, none⟩ (.slice (some ⟨S3, 0, none⟩) (p + 1) (k + 1))) := by
 obtain ⟨h1, h2, h3, h4, h5, h6⟩ := h
 have ga : Grown W (W.alloc (.cells (XT n nn A p x).cells 38)) := (Grown.refl _).alloc _ _
 have b3 := Blk.by (Blk.grown h3 ga) hg (by simp)
 have b4 := Blk.by (Blk.grown h4 ga) hg (by simp; omega)
 have s : Mod (S3 + 1) w' (w'.setCell ⟨S3 + 1, 0, none⟩ (.slice (some ⟨S3, 0, none⟩) (p + 1) (k + 1))) := (Mod.refl _ _).setCell _ _
 have sz : W.heap.size ≤ w'.heap.size := Nat.le_trans ga.2.2 hg.size
 have lS : S3 < W.heap.size := by omega
 obtain ⟨hb0, cur, hcur⟩ := h2.has
 have hc2 : Blk S3 cur 38 (W.alloc (.cells (XT n nn A p x).cells 38)) := Blk.grown hcur ga
 refine ⟨b3, b4, ⟨by rw [List.length_append, h1]; rfl, ?_, Blk.set b3 0 _, Blk.keep b4 s (by omega), ((h5.grown ga).by hg (fun k e => by cases e; omega)).new s (by omega), Nat.le_trans (by omega) s.2.2.2.2⟩, ?_, ?_⟩
 ·unfold MLs
  rw [listT_snoc, flat_snoc, h1, List.length_append, listT_len, h1]
  have : MLs w' w.heap.size (.slice (some ⟨S3, 0, none⟩) (p + 1) (k + 1)) (listT n nn A (pre ++ [x])) := by
   unfold MLs
   rw [listT_snoc, flat_snoc, h1, List.length_append, listT_len, h1]
   exact hown
  have t := this.blk (w' := w'.setCell ⟨S3 + 1, 0, none⟩ (.slice (some ⟨S3, 0, none⟩) (p + 1) (k + 1))) (fun g cs e _ hb => Blk.keep hb s (by cases e; show S3 ≠ S3 + 1; omega))
  unfold MLs at t
  rwa [listT_snoc, flat_snoc, h1, List.length_append, listT_len, h1] at t
 ·refine KC.of (fun i hi hD => ?_) (Nat.le_trans sz s.2.2.2.2)
  rw [s.2.2.1 i (by omega) (fun e => hD (Or.inr e)), hg.block i (Nat.lt_of_lt_of_le hi ga.2.2) (fun e => hD (Or.inl (by cases e; rfl)))]
  exact gblock ga hi
 ·refine ((KeepsOthers.alloc W _).trans (KeepsOthers.of_grownBy hg (fun j o e ho => ?_))).trans (KeepsOthers.setCell _ _ _)
  cases e
  rw [show (W.alloc (.cells (XT n nn A p x).cells 38)).heap[S3]? = _ from hc2] at ho
  cases ho
  rfl
section
attribute [local go_sem] Oper.semAt_some
set_option maxRecDepth 100000 in
set_option maxHeartbeats 4000000 in
theorem polyTerms_ok (U n nn b o cap k : Nat) (c0 : Bool) (n0 : Int) (hn0 : 0 ≤ n0 ∧ n0 < 1000000000000000000) (A : Nat → Int) (hn : 1 ≤ n ∧ n ≤ 12) (hnn : n * n = nn) (hk : k ≤ 24) (hcap : nn ≤ cap) (hA : ∀ j, j < nn → I64 (A j)) (w : World) (h : UC U c0 n0 w) (za : ∀ j, j < nn → w.cell? ⟨b, o + j, none⟩ = some (.int .i64 (A j))) (hb : b ≠ U) :
  Calls Tryz.prog 82 #[.pointer (some ⟨U, 0, none⟩), .agg #[.int .i64 n, .int .i64 n, .slice (some ⟨b, o, none⟩) nn cap], .int .i64 k] w fun e w' => TermP U n nn c0 n0 A k w e w' := by
 have SQ := hide (fun w => polySquare n n (some ⟨b, o, none⟩) nn cap w)
 rw [← hnn, sqB_yes (sqA_of hn), hnn] at SQ
 have lU := Blk.lt h
 have lb : b < w.heap.size := heap_gt (za 0 (by have := mul12n n n hn hn; omega))
 have bn := Blk.new w #[.int .i64 n, .int .i64 n, .slice (some ⟨b, o, none⟩) nn cap] 38
 have G : Grown w ((w.alloc (.cells #[.int .i64 n, .int .i64 n, .slice (some ⟨b, o, none⟩) nn cap] 38)).alloc (.cells #[.int .i64 k] 3)) := ((Grown.refl _).alloc _ _).alloc _ _
 have HB : Hid (Blk w.heap.size #[.int .i64 n, .int .i64 n, .slice (some ⟨b, o, none⟩) nn cap] 38 ((w.alloc (.cells #[.int .i64 n, .int .i64 n, .slice (some ⟨b, o, none⟩) nn cap] 38)).alloc (.cells #[.int .i64 k] 3)) ∧ Blk (w.heap.size + 1) #[.int .i64 k] 3 ((w.alloc (.cells #[.int .i64 n, .int .i64 n, .slice (some ⟨b, o, none⟩) nn cap] 38)).alloc (.cells #[.int .i64 k] 3)) ∧ ((w.alloc (.cells #[.int .i64 n, .int .i64 n, .slice (some ⟨b, o, none⟩) nn cap] 38)).alloc (.cells #[.int .i64 k] 3)).heap.size = w.heap.size + 2) := ⟨Blk.grown bn ((Grown.refl _).alloc _ _), blk_new2 w _ _ _, by simp⟩
 have HG := hide G
 have HU := hide (And.intro h (And.intro lU (And.intro za (And.intro hb lb))))
 have HA := hide (And.intro hA (And.intro hn0 (And.intro hn (And.intro hnn hcap))))
 have d24 : decide ((24 : Int) < (k : Int)) = false := decide_eq_false (by omega)
 have d0 : decide ((k : Int) < 0) = false := decide_eq_false (by omega)
 obtain ⟨zc, hzc, MK0⟩ := make_mats (k + 1) (by omega)
 have MK : ∀ w : World, (Instr.makeSlice 73 (.int .i64 0) (.int .i64 ((k : Int) + 1))).run Tryz.prog w = .ok (.slice (some ⟨w.heap.size, 0, none⟩) 0 (k + 1)) (w.alloc (.cells zc 38)) := fun w => MK0 w
 clear MK0
 have HZ := hide hzc
 clear hzc
 have wk : wrap64 ((k : Int) + 1) = (k : Int) + 1 := by unfold wrap64; omega
 clear G bn h lU lb za hb hA hn0 hn hnn hcap
 refine (callsIn_wide (n := 6)).1 ?_
 refine callsIn_of_wp_marks Tryz.func82 rfl trivial ?_ rfl
 simp only [Tryz.ntmps82, List.size_toArray, List.length_cons, List.length_nil, Nat.reduceAdd, Nat.reduceSub, Array.replicate_succ, Array.replicate_zero, List.push_toArray, List.append_toArray, List.nil_append, List.cons_append]
 gi_wp2_with fail
 generalize (w.alloc (.cells #[.int .i64 n, .int .i64 n, .slice (some ⟨b, o, none⟩) nn cap] 38)).alloc (.cells #[.int .i64 k] 3) = w1 at *
 refine ⟨trivial, ?_⟩
 refine (callsIn_wide.2 (unhide SQ _)).mono ?_
 rintro e w2 ⟨rfl, g2⟩
 have RF := hide (polyRefuse U c0 n0 ⟨(unhide HA).2.1.1, by have := (unhide HA).2.1.2; omega⟩ true w2 (Blk.grown (Blk.grown (unhide HU).1 (unhide HG)) g2))
 have G2 := hide g2
 clear g2 SQ
 gi_wp2_with (refine ⟨trivial, ?_⟩; gi_at_call 79; refine (callsIn_wide.2 (unhide RF)).mono ?_; rintro e w3 ⟨rfl, u3, m3⟩; have B3 := hide (And.intro (Blk.keep (Blk.grown (unhide HB).1 (unhide G2)) m3 (Nat.ne_of_gt (unhide HU).2.1)) (And.intro (Blk.keep (Blk.grown (unhide HB).2.1 (unhide G2)) m3 (by have := (unhide HU).2.1; omega)) (And.intro u3 m3))); have x0 : w3.cell? ⟨w.heap.size, 0, none⟩ = some (.int .i64 n) := Blk.cell (unhide B3).1 0; have x1 : w3.cell? ⟨w.heap.size, 1, none⟩ = some (.int .i64 n) := Blk.cell (unhide B3).1 1; have x2 : w3.cell? ⟨w.heap.size, 2, none⟩ = some (.slice (some ⟨b, o, none⟩) nn cap) := Blk.cell (unhide B3).1 2; have x3 : w3.cell? ⟨w.heap.size + 1, 0, none⟩ = some (.int .i64 k) := Blk.cell (unhide B3).2.1 0; have q1 : w.heap.size < w3.heap.size := Blk.lt (unhide B3).1; have q2 : w.heap.size + 1 < w3.heap.size := Blk.lt (unhide B3).2.1; have q3 : w.heap.size ≠ w3.heap.size := (by omega); have q4 : w.heap.size ≠ w3.heap.size + 1 := (by omega); clear u3 m3 RF; simp only [errB, if_true])
 refine ⟨trivial, ?_⟩
 refine (callsIn_wide.2 (polyTermsMk _ _ _ _ _ _ _)).mono ?_
 rintro e w4 ⟨rfl, rfl⟩
 gi_wp2_with fail
 obtain ⟨S3, hS3⟩ : ∃ S3, w3.heap.size = S3 := ⟨_, rfl⟩
 simp only [World.size_alloc, hS3]
 obtain ⟨W0, hW0⟩ : ∃ W0, ((((w3.alloc (.cells zc 38)).alloc (.cells #[.slice (some ⟨S3, 0, none⟩) 0 (k + 1)] 73)).alloc (.cells #[.pointer (some ⟨U, 0, none⟩)] 26)).alloc (.cells #[.int .i64 n, .int .i64 n, .slice (some ⟨b, o, none⟩) nn cap] 38)) = W0 := ⟨_, rfl⟩
 rw [hW0]
 have ST : Hid (TmJ w U n nn S3 k A 0 [] W0 ∧ TmC W0.heap.size U n nn (S3 + 2) (S3 + 3) b o cap A W0 ∧ UC U c0 n0 W0 ∧ W0.heap.size = S3 + 4 ∧ w.heap.size + 2 ≤ S3) := by
  obtain ⟨B1, B2, u3, m3⟩ := unhide B3
  obtain ⟨hu, lU, za, hb, lb⟩ := unhide HU
  have gz : Grown w w2 := gtrans (unhide HG) (unhide G2)
  have M3 : Mk U w w3 := (Mk.kp (Kp.of gz)).trans (Mk.of m3)
  subst hS3
  have e0 := World.ownsRow_made (base := w.heap.size) (e := 38) (size := 3) w3 zc (k + 1) M3.2.2.2 (by unfold maxLen; omega) (unhide HZ)
  have g1 : Grown w3 (w3.alloc (.cells zc 38)) := (Grown.refl _).alloc _ _
  generalize hw4 : w3.alloc (.cells zc 38) = w4 at *
  have s4 : w4.heap.size = w3.heap.size + 1 := by rw [← hw4]; simp
  have e1 := Blk.new w4 #[.slice (some ⟨w3.heap.size, 0, none⟩) 0 (k + 1)] 73
  have g2 : Grown w4 (w4.alloc (.cells #[.slice (some ⟨w3.heap.size, 0, none⟩) 0 (k + 1)] 73)) := (Grown.refl _).alloc _ _
  generalize hw5 : w4.alloc (.cells #[.slice (some ⟨w3.heap.size, 0, none⟩) 0 (k + 1)] 73) = w5 at *
  have s5 : w5.heap.size = w3.heap.size + 2 := by rw [← hw5]; simp; omega
  have e2 := Blk.new w5 #[.pointer (some ⟨U, 0, none⟩)] 26
  have g3 : Grown w5 (w5.alloc (.cells #[.pointer (some ⟨U, 0, none⟩)] 26)) := (Grown.refl _).alloc _ _
  generalize hw6 : w5.alloc (.cells #[.pointer (some ⟨U, 0, none⟩)] 26) = w6 at *
  have s6 : w6.heap.size = w3.heap.size + 3 := by rw [← hw6]; simp; omega
  have e3 := Blk.new w6 #[.int .i64 n, .int .i64 n, .slice (some ⟨b, o, none⟩) nn cap] 38
  have g4 : Grown w6 (w6.alloc (.cells #[.int .i64 n, .int .i64 n, .slice (some ⟨b, o, none⟩) nn cap] 38)) := (Grown.refl _).alloc _ _
  rw [hW0] at e3 g4
  have s7 : W0.heap.size = w3.heap.size + 4 := by rw [← hW0]; simp; omega
  rw [s4] at e1
  rw [s5] at e2
  rw [s6] at e3
  have g24 : Grown w4 W0 := gtrans (gtrans g2 g3) g4
  have g30 : Grown w3 W0 := gtrans g1 g24
  refine ⟨⟨rfl, (show MLs w4 w.heap.size (.slice (some ⟨w3.heap.size, 0, none⟩) 0 (k + 1)) [] from e0).kp (Kp.of g24), Blk.grown e1 (gtrans g3 g4), Blk.grown B2 g30, M3.grown g30, by omega⟩, ⟨Blk.grown e2 g4, e3, fun j hj => gat g30 (M3.cell (za j hj) hb), Nat.le_refl _⟩, Blk.grown u3 g30, s7, ?_⟩
  have := Blk.lt B2
  omega
 clear hW0 B3 HB HG G2 x0 x1 x2 x3 q1 q2 q3 q4 HZ MK wk
 obtain ⟨hA, hn0, hn, hnn, hcap⟩ := unhide HA
 obtain ⟨_, lU, _, hb, lb⟩ := unhide HU
 obtain ⟨hJ0, hC0, hU0, hsz, hw3⟩ := unhide ST
 obtain ⟨i0, hi, hz0, hz1, hz2⟩ := info_parts Tryz.infoMat
 have HI0 := hide (And.intro hi hz1)
 clear hi hz0 hz1 hz2
 refine range_own (P := Tryz.prog) (encs := encT n nn) (St := StT W0.heap.size U) (D := fun q => q = S3 ∨ q = S3 + 1) (Px := fun _ _ => True) (Pp := goesT) (S := fun _ _ => False) (Sp := SpT W0.heap.size U n nn c0 n0 A) rfl (by omega) (gf := 154) (lb := #[.pointer (some ⟨S3 + 3, 0, none⟩), .pointer (some ⟨S3 + 2, 0, none⟩)]) rfl trivial (enters_of Tryz.func154 (by kernel_rfl) rfl) (fun _ => rfl)
  (fun A B q x hs hq hx hc => hs.1.same q x hx hc)
  (fun l J Jx W hg hJ hY h0 => ?seq)
  (fun pre W => pre.length ≤ k ∧ TmJ w U n nn S3 k A pre.length pre W)
  (fun c pre W => c = .exit 0 ∧ pre.length = k + 1 ∧ TmJ w U n nn S3 k A (k + 1) pre W)
  (fun pre W W' row h hg hr => ⟨h.1, tmJ_own h.2 (by omega) hg hr⟩)
  (fun c pre W W' row h hg hr => ⟨h.1, h.2.1, tmJ_own h.2.2 (by omega) hg hr⟩)
  (fun _ _ _ _ h _ _ => h)
  (spT_own _ _ _ _ _ _ _ _)
  (fun pre X Y h s => ⟨h.1, tmJ_stT h.2 s (by omega) hw3 lU⟩)
  (fun pre W h => Nat.le_trans h.1 hk)
  ⟨Nat.zero_le _, hJ0⟩
  (fun x a' W => ∃ Bx, S3 + 4 ≤ Bx ∧ Blk Bx (XT n nn A 0 x).cells 38 W ∧ a' = { tmps := #[.pointer (some ⟨U, 0, none⟩), .agg #[.int .i64 n, .int .i64 n, .slice (some ⟨b, o, none⟩) nn cap], .int .i64 k, undef, .pointer (some ⟨w.heap.size, 0, none⟩), .pointer (some ⟨w.heap.size + 1, 0, none⟩), .slice none 0 0, .int .i64 0, .int .i64 0, .pointer (some ⟨S3 + 1, 0, none⟩), .pointer (some ⟨Bx, 0, none⟩), .pointer (some ⟨U, 0, none⟩), .agg #[.int .i64 n, .int .i64 n, .slice (some ⟨b, o, none⟩) nn cap], .bool true, .int .i64 0, .int .i64 0, .bool false, undef, .int .i64 k, .bool false, .bool false, .int .i64 k, .bool false, .bool false, .int .i64 k, .int .i64 ((k : Int) + 1), .slice (some ⟨S3, 0, none⟩) 0 (k + 1), .pointer (some ⟨U, 0, none⟩), .agg #[.int .i64 n, .int .i64 n, .slice (some ⟨b, o, none⟩) nn cap], .func (.func 154) #[] #[.pointer (some ⟨S3 + 3, 0, none⟩), .pointer (some ⟨S3 + 2, 0, none⟩)], .agg #[.int .i64 n, .int .i64 n, .slice (some ⟨x.1, 0, none⟩) nn x.2], undef, undef, undef, undef, undef, undef, undef, undef, undef], defers := [] })
  (fun x a' _ W W' row h hg hr => let ⟨Bx, h1, h2, h3⟩ := h; ⟨Bx, h1, blk_own h2 hg (fun r e => (hr r e).2), h3⟩)
  ?assign ?body ?done ?stop
 case seq =>
  have gk : ∀ c cs T, Blk c cs T W0 → Blk c cs T W := fun c cs T h => (hg.block c (Blk.lt h) (by simp)).trans h
  have C1 : TmC W0.heap.size U n nn (S3 + 2) (S3 + 3) b o cap A W := ⟨gk _ _ _ hC0.1, gk _ _ _ hC0.2.1, fun j hj => hg.cell (hC0.2.2.1 j hj) (by simp), hg.size⟩
  exact terms1_in _ l W0.heap.size U n nn (S3 + 2) (S3 + 3) b o cap (by omega) c0 n0 hn0 A hn hnn hA hcap (by omega) (by omega) hb (by omega) (by omega) (by omega) (by omega) _ (by omega) (by omega) (by omega) (by omega) (fun q hq => by omega) J Jx hJ hY W (gk _ _ _ hU0) C1 h0
 case assign =>
  intro l pre x W K hI hK
  dsimp only [encT]
  clear hJ0 hC0 hU0 hA
  gi_wp2
  refine hK _ _ ((KeepsOthers.alloc _ _).from _) (KC.of (fun q hq _ => gblock ((Grown.refl _).alloc _ _) hq) (by simp)) ⟨hI.1, tmJ_own hI.2 (Nat.le_refl _) (World.grownBy_alloc _ _ none) (fun r e => by cases e)⟩ ⟨W.heap.size, hI.2.2.2.2.2.2, Blk.new _ _ _, rfl⟩
 case body =>
  rintro l pre x a' W ⟨hle, hI⟩ ⟨Bx, hBx, bX, rfl⟩ _
  obtain ⟨p, hp⟩ : ∃ p, pre.length = p := ⟨_, rfl⟩
  rw [hp] at hle hI
  have x0 : W.cell? ⟨Bx, 0, none⟩ = some (.int .i64 n) := Blk.cell bX 0
  have x1 : W.cell? ⟨Bx, 1, none⟩ = some (.int .i64 n) := Blk.cell bX 1
  have x2 : W.cell? ⟨Bx, 2, none⟩ = some (.slice (some ⟨x.1, 0, none⟩) nn x.2) := Blk.cell bX 2
  have y0 : W.cell? ⟨S3 + 1, 0, none⟩ = some (.slice (some ⟨S3, 0, none⟩) p (k + 1)) := Blk.cell hI.2.2.1 0
  obtain ⟨hi, hz1⟩ := unhide HI0
  have hown : Hid ((W.alloc (.cells #[.int .i64 n, .int .i64 n, .slice (some ⟨x.1, 0, none⟩) nn x.2] 38)).ownsRow w.heap.size 38 3 (.slice (some ⟨S3, 0, none⟩) p (k + 1)) p (flat (listT n nn A pre))) := by
   have := hI.2.1
   unfold MLs at this
   rw [listT_len, hp] at this
   exact this.alloc _
  have HN : Hid (∀ j u, (XT n nn A p x).cells.toList[j]? = some u → (W.alloc (.cells #[.int .i64 n, .int .i64 n, .slice (some ⟨x.1, 0, none⟩) nn x.2] 38)).cell? ((⟨W.heap.size, 0, none⟩ : Addr).add j) = some u) := news_mat (x := XT n nn A p x) (Blk.new W _ _)
  have HS := hide (And.intro hI (And.intro hle hp))
  have HX : Hid (∀ u ∈ (XT n nn A p x).cells.toList, u.oneCell' = true) := cells_oneMV _
  have kp1 : p + 1 ≤ k + 1 := by omega
  clear hI hJ0 hC0 hU0 bX hBx hA hp HI0
  by_cases hpk : p < k
  ·have dk : decide ((k : Int) < (p : Int) + 1) = false := decide_eq_false (by omega)
   gi_wp2_with (gi_at_builtin; refine wpListIn_append_fits _ rfl _ _ 73 rfl w.heap.size 38 i0 3 Tryz.underlying73 hi hz1 S3 p (k + 1) (flat (listT n nn A pre)) rfl (unhide hown) ⟨W.heap.size, 0, none⟩ 1 1 (XT n nn A p x).cells.toList rfl rfl (unhide HN) (unhide HX) kp1 ?_; intro w5 hown' hgrow; have P := hide ((unhide HS).1.app (w' := w5) (x := x) hw3 hown' hgrow); have y1 : w5.cell? ⟨S3 + 1, 0, none⟩ = some (.slice (some ⟨S3, 0, none⟩) p (k + 1)) := Blk.cell (unhide P).1 0; have y2 : w5.cell? ⟨w.heap.size + 1, 0, none⟩ = some (.int .i64 k) := Blk.cell (unhide P).2.1 0; have ff := Blk.free (unhide P).1; have ne : w.heap.size + 1 ≠ S3 + 1 := (by omega); clear hown' hgrow)
   have e1 : (pre ++ [x]).length = p + 1 := by rw [List.length_append, (unhide HS).2.2]; rfl
   refine ⟨(unhide P).2.2.2.2.from _, (unhide P).2.2.2.1, by omega, ?_⟩
   rw [e1]
   exact (unhide P).2.2.1
  ·have dk : decide ((k : Int) < (p : Int) + 1) = true := decide_eq_true (by omega)
   gi_wp2_with (gi_at_builtin; refine wpListIn_append_fits _ rfl _ _ 73 rfl w.heap.size 38 i0 3 Tryz.underlying73 hi hz1 S3 p (k + 1) (flat (listT n nn A pre)) rfl (unhide hown) ⟨W.heap.size, 0, none⟩ 1 1 (XT n nn A p x).cells.toList rfl rfl (unhide HN) (unhide HX) kp1 ?_; intro w5 hown' hgrow; have P := hide ((unhide HS).1.app (w' := w5) (x := x) hw3 hown' hgrow); have y1 : w5.cell? ⟨S3 + 1, 0, none⟩ = some (.slice (some ⟨S3, 0, none⟩) p (k + 1)) := Blk.cell (unhide P).1 0; have y2 : w5.cell? ⟨w.heap.size + 1, 0, none⟩ = some (.int .i64 k) := Blk.cell (unhide P).2.1 0; have ff := Blk.free (unhide P).1; have ne : w.heap.size + 1 ≠ S3 + 1 := (by omega); clear hown' hgrow)
   have e1 : (pre ++ [x]).length = p + 1 := by rw [List.length_append, (unhide HS).2.2]; rfl
   have e2 : p = k := by have := (unhide HS).2.1; omega
   have t := unhide P
   rw [e2] at t e1
   rw [e2]
   exact ⟨t.2.2.2.2.from _, t.2.2.2.1, rfl, e1, t.2.2.1⟩
 case done =>
  rintro d xs W hd h
  exact h.elim
 case stop =>
  rintro d c pre W hd hSp ⟨rfl, hl, hT⟩ hDf
  have y0 : W.cell? ⟨S3 + 1, 0, none⟩ = some (.slice (some ⟨S3, 0, none⟩) (k + 1) (k + 1)) := Blk.cell hT.2.2.1 0
  have HS := hide (And.intro hSp (And.intro hl hT))
  clear hJ0 hC0 hU0 hA hSp hT hl
  gi_wp2
  obtain ⟨hSp, hl, hT⟩ := unhide HS
  have gD := grownBy_putObj' W d (.deferred none)
  have hr : ∀ r, some d = some r → W0.heap.size ≤ r ∧ ∃ o : Obj, W.heap[r]? = some o ∧ o.isCells = false := fun r e => by cases e; exact ⟨hd, _, hDf, rfl⟩
  have t2 := tmJ_own hT (by omega) gD hr
  have s2 := spT_own _ _ _ _ _ _ _ _ _ _ _ _ hSp gD hr
  refine ⟨by simp, .inl ⟨_, _, rfl, run_takeDeferred hDf, ?_⟩⟩
  refine ⟨.tuple #[.slice (some ⟨S3, 0, none⟩) (k + 1) (k + 1), .int .i64 0], by simp [results, Tryz.results82, go_sem], ?_⟩
  obtain ⟨j, j1, j2, j3, j4⟩ := s2
  obtain rfl : j = k := by omega
  exact ⟨S3, pre, rfl, hl, t2.2.1, j3.mono (by omega), j4, t2.2.2.2.2.1⟩
end
end Go.Proofs.YtjobgjcfkomhpaaGreat
namespace Go.Proofs.YtjobgjcfkomhpaaGreat
open Go.RowKit Go.Shelf Go.Proofs.Wd
set_option maxRecDepth 10000
theorem pair_rowM (w : World) (x y : Int) : Row (w.alloc (.cells #[.int .i64 x, .int .i64 y] 3)) (some ⟨w.heap.size, 0, none⟩) 2 (pairZ x y) := by
 refine Or.inr ⟨_, 0, rfl, fun i hi => ?_⟩
 rw [Nat.zero_add, Blk.cell (Blk.new w _ _)]
 match i, hi with
 | 0, _ => rfl
 | 1, _ => rfl
theorem addTwoM (U : Nat) (a b : Int) (c : Bool) (n : Int) (bo cap : Nat) (w : World) (ha : I64 a) (hb : I64 b) (hn : 0 ≤ n ∧ n < 2305843009213693952) (h : UC U c n w) (hr : Row w (some ⟨bo, 0, none⟩) 2 (pairZ a b)) (ho : bo ≠ U) :
  Calls Tryz.prog 71 #[.pointer (some ⟨U, 0, none⟩), .slice (some ⟨bo, 0, none⟩) 2 cap] w fun e w' => e = .returned (.int .i64 (s2N a b)) ∧ UC U (c || s2C a b) (n + 2) w' ∧ Mod U w w' := by
 have := unitAdd U c n (some ⟨bo, 0, none⟩) 2 cap (pairZ a b) hn (by omega) (pairZ_I64 ha hb) w h hr (off_blk ho)
 rw [s2N_th, s2C_th] at this
 exact this
theorem mulTwoM (U : Nat) (a b : Int) (c : Bool) (n : Int) (bo cap : Nat) (w : World) (ha : I64 a) (hb : I64 b) (hn : 0 ≤ n ∧ n < 2305843009213693952) (h : UC U c n w) (hr : Row w (some ⟨bo, 0, none⟩) 2 (pairZ a b)) (ho : bo ≠ U) :
  Calls Tryz.prog 73 #[.pointer (some ⟨U, 0, none⟩), .slice (some ⟨bo, 0, none⟩) 2 cap] w fun e w' => e = .returned (.int .i64 (m2N a b)) ∧ UC U (c || m2C a b) (n + 2) w' ∧ Mod U w w' := by
 have := unitMul U c n (some ⟨bo, 0, none⟩) 2 cap (pairZ a b) hn (by omega) (pairZ_I64 ha hb) w h hr (off_blk ho)
 rw [m2N_th, m2C_th] at this
 exact this
theorem matAtG (r c i k b o cap : Nat) (Z : Nat → Int) (hr : 1 ≤ r ∧ r ≤ 12) (hc : 1 ≤ c ∧ c ≤ 12) (hi : i < r) (hk : k < c) (w : World) (hz : w.cell? ⟨b, o + (i * c + k), none⟩ = some (.int .i64 (Z (i * c + k)))) :
  Calls Tryz.prog 93 #[.agg #[.int .i64 r, .int .i64 c, .slice (some ⟨b, o, none⟩) (r * c) cap], .int .i64 i, .int .i64 k] w fun e w' => e = .returned (.int .i64 (Z (i * c + k))) ∧ Grown w w' :=
 (matAt r c i k b o cap Z hr hc hi hk w hz).mono fun e w' h => ⟨h.1, by rw [h.2]; exact (Grown.refl _).alloc _ _⟩
set_option maxRecDepth 20000 in
set_option maxHeartbeats 4000000 in
theorem scale1 (U : Nat) (cc : Bool) (nn : Int) (hn : 0 ≤ nn ∧ nn < 2305843009213693952) (r c i k b o cap Bu Ba Bs : Nat) (s : Int) (A : Nat → Int) (hr : 1 ≤ r ∧ r ≤ 12) (hc : 1 ≤ c ∧ c ≤ 12) (hi : i < r) (hk : k < c) (hs : I64 s) (hA : ∀ j, j < r * c → I64 (A j)) (w : World) (h : UC U cc nn w)
  (hBu : Blk Bu #[.pointer (some ⟨U, 0, none⟩)] 26 w) (hBa : Blk Ba #[.int .i64 r, .int .i64 c, .slice (some ⟨b, o, none⟩) (r * c) cap] 38 w) (hBs : Blk Bs #[.int .i64 s] 3 w) (za : ∀ j, j < r * c → w.cell? ⟨b, o + j, none⟩ = some (.int .i64 (A j))) (n1 : Bu ≠ U) (n2 : Ba ≠ U) (n3 : Bs ≠ U) (n4 : b ≠ U) :
  Calls Tryz.prog 92 #[.int .i64 (i : Int), .int .i64 (k : Int), .pointer (some ⟨Bu, 0, none⟩), .pointer (some ⟨Ba, 0, none⟩), .pointer (some ⟨Bs, 0, none⟩)] w fun e w' => e = .returned (.int .i64 (m2N (A (i * c + k)) s)) ∧ UC U (cc || m2C (A (i * c + k)) s) (nn + 2) w' ∧ Mk U w w' := by
 have hp := place_in i k r c hi hk
 have AT : Hid (∀ wx, Mod U w wx → Calls Tryz.prog 93 #[.agg #[.int .i64 r, .int .i64 c, .slice (some ⟨b, o, none⟩) (r * c) cap], .int .i64 i, .int .i64 k] wx fun e w' => e = .returned (.int .i64 (A (i * c + k))) ∧ Grown wx w') := fun wx mu => matAtG r c i k b o cap A hr hc hi hk wx (mu.cell (za _ hp) n4)
 have ix := hA _ hp
 obtain ⟨x, hx⟩ : ∃ x, A (i * c + k) = x := ⟨_, rfl⟩
 rw [hx] at AT ix
 rw [hx]
 have ML : Hid (∀ wx bo, bo ≠ U → UC U cc nn wx → Row wx (some ⟨bo, 0, none⟩) 2 (pairZ x s) → Calls Tryz.prog 73 #[.pointer (some ⟨U, 0, none⟩), .slice (some ⟨bo, 0, none⟩) 2 2] wx fun e w' => e = .returned (.int .i64 (m2N x s)) ∧ UC U (cc || m2C x s) (nn + 2) w' ∧ Mod U wx w') := fun wx bo hb hu hr => mulTwoM U x s cc nn bo 2 wx ix hs hn hu hr hb
 obtain ⟨z, hz⟩ : ∃ z, m2N x s = z := ⟨_, rfl⟩
 rw [hz] at ML
 rw [hz]
 obtain ⟨len, hlen⟩ : ∃ q, r * c = q := ⟨_, rfl⟩
 rw [hlen] at AT hBa
 have CW : Hid (∀ w', Mod U w w' → w'.cell? ⟨Bu, 0, none⟩ = some (.pointer (some ⟨U, 0, none⟩)) ∧ w'.cell? ⟨Ba, 0, none⟩ = some (.int .i64 r) ∧ w'.cell? ⟨Ba, 1, none⟩ = some (.int .i64 c) ∧ w'.cell? ⟨Ba, 2, none⟩ = some (.slice (some ⟨b, o, none⟩) len cap) ∧ w'.cell? ⟨Bs, 0, none⟩ = some (.int .i64 s)) := fun wx mu => ⟨Blk.cell (Blk.keep hBu mu n1) 0, Blk.cell (Blk.keep hBa mu n2) 0, Blk.cell (Blk.keep hBa mu n2) 1, Blk.cell (Blk.keep hBa mu n2) 2, Blk.cell (Blk.keep hBs mu n3) 0⟩
 have H : Hid (UC U cc nn w.drew) := h
 have hU : Hid (U < w.heap.size) := Blk.lt h
 obtain ⟨x1, x2, x3, x4, x5⟩ := unhide CW w (Mod.refl _ _)
 clear h hBu hBa hBs za hA hn hr hc hi hk hs hx hz hlen n1 n2 n3 n4 hp ix
 go_enter Tryz.func92, Tryz.ntmps92
 go_wp2
 go_region_held3 (fun w' => w'.cell? ⟨Bu, 0, none⟩ = some (.pointer (some ⟨U, 0, none⟩)) ∧ w'.cell? ⟨Ba, 0, none⟩ = some (.int .i64 r) ∧ w'.cell? ⟨Ba, 1, none⟩ = some (.int .i64 c) ∧ w'.cell? ⟨Ba, 2, none⟩ = some (.slice (some ⟨b, o, none⟩) len cap) ∧ w'.cell? ⟨Bs, 0, none⟩ = some (.int .i64 s))
   (simp [go_sem, *])
   (first
    | (go_at_call 93; refine (unhide AT _ (mod_drew U w)).mono ?_; rintro e w2 ⟨rfl, g2⟩; have M2 : Hid (Mod U w w2) := (mod_drew U w).trans (Mod.of g2); have U2 : Hid (UC U cc nn w2) := Blk.grown (unhide H) g2; obtain ⟨y1, y2, y3, y4, y5⟩ := unhide CW w2 (unhide M2); have j1 := heap_gt y1; have j2 := heap_gt y2; have j3 := heap_gt y5; have M3 : Hid (Mod U w (w2.alloc (.cells #[.int .i64 x, .int .i64 s] 3))) := (unhide M2).trans (Mod.of ((Grown.refl _).alloc _ _)); have U3 : Hid (UC U cc nn (w2.alloc (.cells #[.int .i64 x, .int .i64 s] 3))) := Blk.grown (unhide U2) ((Grown.refl _).alloc _ _); have ne : Hid (w2.heap.size ≠ U) := Nat.ne_of_gt (Blk.lt (unhide U2)); clear g2 AT)
    | (go_at_call 73; refine (unhide ML _ _ (unhide ne) (unhide U3) (pair_rowM w2 x s)).mono ?_; rintro e w4 ⟨rfl, h4, m4⟩; obtain ⟨t1, t2, t3, t4, t5⟩ := unhide CW w4 ((unhide M3).trans m4); have R4 : Hid (UC U (cc || m2C x s) (nn + 2) w4 ∧ Mk U w w4) := ⟨h4, Mk.of ((unhide M3).trans m4)⟩; clear h4 m4 ML))
 go_wp2
 go_ret
 exact ⟨rfl, unhide R4⟩
set_option maxRecDepth 20000 in
set_option maxHeartbeats 4000000 in
theorem reckon1M (U Q F : Nat) (eF : ∀ args w, (callFunc F args).run Tryz.prog w = .ok (.enter F args) w) (f : Int → Int → Int) (g : Int → Int → Bool) (d : Int) (cc : Bool) (nn : Int) (r c i k b o cap b2 o2 cap2 Bo Ba Bb : Nat) (A B : Nat → Int) (hr : 1 ≤ r ∧ r ≤ 12) (hc : 1 ≤ c ∧ c ≤ 12) (hi : i < r) (hk : k < c) (w : World) (h : UC U cc nn w)
  (C : ∀ wx bo, bo ≠ U → UC U cc nn wx → Mod U w wx → Row wx (some ⟨bo, 0, none⟩) 2 (pairZ (A (i * c + k)) (B (i * c + k))) → Calls Tryz.prog F #[.pointer (some ⟨U, 0, none⟩), .slice (some ⟨bo, 0, none⟩) 2 2] wx fun e w' => e = .returned (.int .i64 (f (A (i * c + k)) (B (i * c + k)))) ∧ UC U (cc || g (A (i * c + k)) (B (i * c + k))) (nn + d) w' ∧ Mod U wx w')
  (hBo : Blk Bo #[.func (.func F) #[.pointer (some ⟨U, 0, none⟩)] #[]] 67 w) (hBa : Blk Ba #[.int .i64 r, .int .i64 c, .slice (some ⟨b, o, none⟩) (r * c) cap] 38 w) (hBb : Blk Bb #[.int .i64 r, .int .i64 c, .slice (some ⟨b2, o2, none⟩) (r * c) cap2] 38 w) (za : ∀ j, j < r * c → w.cell? ⟨b, o + j, none⟩ = some (.int .i64 (A j))) (zb : ∀ j, j < r * c → w.cell? ⟨b2, o2 + j, none⟩ = some (.int .i64 (B j))) (n1 : Bo ≠ U) (n2 : Ba ≠ U) (n3 : Bb ≠ U) (n4 : b ≠ U) (n5 : b2 ≠ U) :
  Calls Tryz.prog 107 #[.int .i64 (i : Int), .int .i64 (k : Int), .pointer (some ⟨Bo, 0, none⟩), .pointer (some ⟨Ba, 0, none⟩), .pointer (some ⟨Bb, 0, none⟩)] w fun e w' => e = .returned (.int .i64 (f (A (i * c + k)) (B (i * c + k)))) ∧ UC U (cc || g (A (i * c + k)) (B (i * c + k))) (nn + d) w' ∧ Mk U w w' := by
 have hp := place_in i k r c hi hk
 have AT : Hid (∀ wx, Mod U w wx → Calls Tryz.prog 93 #[.agg #[.int .i64 r, .int .i64 c, .slice (some ⟨b, o, none⟩) (r * c) cap], .int .i64 i, .int .i64 k] wx fun e w' => e = .returned (.int .i64 (A (i * c + k))) ∧ Grown wx w') := fun wx mu => matAtG r c i k b o cap A hr hc hi hk wx (mu.cell (za _ hp) n4)
 have AT2 : Hid (∀ wx, Mod U w wx → Calls Tryz.prog 93 #[.agg #[.int .i64 r, .int .i64 c, .slice (some ⟨b2, o2, none⟩) (r * c) cap2], .int .i64 i, .int .i64 k] wx fun e w' => e = .returned (.int .i64 (B (i * c + k))) ∧ Grown wx w') := fun wx mu => matAtG r c i k b2 o2 cap2 B hr hc hi hk wx (mu.cell (zb _ hp) n5)
 have OP := hide C
 obtain ⟨x, hx⟩ : ∃ x, A (i * c + k) = x := ⟨_, rfl⟩
 obtain ⟨y, hy⟩ : ∃ y, B (i * c + k) = y := ⟨_, rfl⟩
 rw [hx] at AT
 rw [hy] at AT2
 rw [hx, hy] at OP
 rw [hx, hy]
 obtain ⟨z, hz⟩ : ∃ z, f x y = z := ⟨_, rfl⟩
 rw [hz] at OP
 rw [hz]
 obtain ⟨len, hlen⟩ : ∃ q, r * c = q := ⟨_, rfl⟩
 rw [hlen] at AT AT2 hBa hBb
 have CW : Hid (∀ w', Mod U w w' → w'.cell? ⟨Bo, 0, none⟩ = some (.func (.func F) #[.pointer (some ⟨U, 0, none⟩)] #[]) ∧ w'.cell? ⟨Ba, 0, none⟩ = some (.int .i64 r) ∧ w'.cell? ⟨Ba, 1, none⟩ = some (.int .i64 c) ∧ w'.cell? ⟨Ba, 2, none⟩ = some (.slice (some ⟨b, o, none⟩) len cap) ∧ w'.cell? ⟨Bb, 0, none⟩ = some (.int .i64 r) ∧ w'.cell? ⟨Bb, 1, none⟩ = some (.int .i64 c) ∧ w'.cell? ⟨Bb, 2, none⟩ = some (.slice (some ⟨b2, o2, none⟩) len cap2)) := fun wx mu => ⟨Blk.cell (Blk.keep hBo mu n1) 0, Blk.cell (Blk.keep hBa mu n2) 0, Blk.cell (Blk.keep hBa mu n2) 1, Blk.cell (Blk.keep hBa mu n2) 2, Blk.cell (Blk.keep hBb mu n3) 0, Blk.cell (Blk.keep hBb mu n3) 1, Blk.cell (Blk.keep hBb mu n3) 2⟩
 have H : Hid (UC U cc nn w.drew) := h
 obtain ⟨x1, x2, x3, x4, x5, x6, x7⟩ := unhide CW w (Mod.refl _ _)
 clear h hBo hBa hBb za zb hr hc hi hk hx hy hz hlen n1 n2 n3 n4 n5 hp C
 go_enter Tryz.func107, Tryz.ntmps107
 go_wp2
 go_region_held3 (fun w' => w'.cell? ⟨Bo, 0, none⟩ = some (.func (.func F) #[.pointer (some ⟨U, 0, none⟩)] #[]) ∧ w'.cell? ⟨Ba, 0, none⟩ = some (.int .i64 r) ∧ w'.cell? ⟨Ba, 1, none⟩ = some (.int .i64 c) ∧ w'.cell? ⟨Ba, 2, none⟩ = some (.slice (some ⟨b, o, none⟩) len cap) ∧ w'.cell? ⟨Bb, 0, none⟩ = some (.int .i64 r) ∧ w'.cell? ⟨Bb, 1, none⟩ = some (.int .i64 c) ∧ w'.cell? ⟨Bb, 2, none⟩ = some (.slice (some ⟨b2, o2, none⟩) len cap2))
   (simp [go_sem, *])
   (first
    | (go_at_call 93; refine (unhide AT _ (mod_drew U w)).mono ?_; clear AT; rintro e w2 ⟨rfl, g2⟩; have M2 : Hid (Mod U w w2) := (mod_drew U w).trans (Mod.of g2); have U2 : Hid (UC U cc nn w2) := Blk.grown (unhide H) g2; obtain ⟨y1, y2, y3, y4, y5, y6, y7⟩ := unhide CW w2 (unhide M2); clear g2)
    | (go_at_call 93; refine (unhide AT2 _ (unhide M2)).mono ?_; clear AT2; rintro e w3 ⟨rfl, g3⟩; have M3 : Hid (Mod U w w3) := (unhide M2).trans (Mod.of g3); have U3 : Hid (UC U cc nn w3) := Blk.grown (unhide U2) g3; obtain ⟨v1, v2, v3, v4, v5, v6, v7⟩ := unhide CW w3 (unhide M3); have j1 := heap_gt v1; have j2 := heap_gt v2; have j3 := heap_gt v5; have M4 : Hid (Mod U w (w3.alloc (.cells #[.int .i64 x, .int .i64 y] 3))) := (unhide M3).trans (Mod.of ((Grown.refl _).alloc _ _)); have U4 : Hid (UC U cc nn (w3.alloc (.cells #[.int .i64 x, .int .i64 y] 3))) := Blk.grown (unhide U3) ((Grown.refl _).alloc _ _); have ne : Hid (w3.heap.size ≠ U) := Nat.ne_of_gt (Blk.lt (unhide U3)); clear g3)
    | (refine (unhide OP _ _ (unhide ne) (unhide U4) (unhide M4) (pair_rowM w3 x y)).mono ?_; rintro e w5 ⟨rfl, h5, m5⟩; obtain ⟨t1, t2, t3, t4, t5, t6, t7⟩ := unhide CW w5 ((unhide M4).trans m5); have R4 : Hid (UC U (cc || g x y) (nn + d) w5 ∧ Mk U w w5) := ⟨h5, Mk.of ((unhide M4).trans m5)⟩; clear h5 m5 OP))
 go_wp2
 go_ret
 exact ⟨rfl, unhide R4⟩
set_option maxHeartbeats 2000000 in
theorem matReckonM (U Q F : Nat) (eF : ∀ args w, (callFunc F args).run Tryz.prog w = .ok (.enter F args) w) (f : Int → Int → Int) (g : Int → Int → Bool) (d : Int) (hd : 0 ≤ d ∧ d ≤ 1000) (I : World → Prop) (hI : ∀ a b, I a → Mk U a b → I b) (c0 : Bool) (n0 : Int) (hn : 0 ≤ n0 ∧ n0 < 1152921504606846976) (r c b o cap b2 o2 cap2 : Nat) (A B : Nat → Int) (hr : 1 ≤ r ∧ r ≤ 12) (hc : 1 ≤ c ∧ c ≤ 12)
  (hA : ∀ j, j < r * c → I64 (A j)) (hB : ∀ j, j < r * c → I64 (B j)) (w : World) (h : UC U c0 n0 w) (iw : I w)
  (C : ∀ cc nn x y wx bo, I64 x → I64 y → 0 ≤ nn ∧ nn < 2305843009213693952 → bo ≠ U → UC U cc nn wx → I wx → Row wx (some ⟨bo, 0, none⟩) 2 (pairZ x y) → Calls Tryz.prog F #[.pointer (some ⟨U, 0, none⟩), .slice (some ⟨bo, 0, none⟩) 2 2] wx fun e w' => e = .returned (.int .i64 (f x y)) ∧ UC U (cc || g x y) (nn + d) w' ∧ Mod U wx w')
  (za : ∀ j, j < r * c → w.cell? ⟨b, o + j, none⟩ = some (.int .i64 (A j))) (zb : ∀ j, j < r * c → w.cell? ⟨b2, o2 + j, none⟩ = some (.int .i64 (B j))) (n4 : b ≠ U) (n5 : b2 ≠ U) :
  Calls Tryz.prog 70 #[.pointer (some ⟨U, 0, none⟩), .agg #[.int .i64 r, .int .i64 c, .slice (some ⟨b, o, none⟩) (r * c) cap], .agg #[.int .i64 r, .int .i64 c, .slice (some ⟨b2, o2, none⟩) (r * c) cap2], .func (.func F) #[.pointer (some ⟨U, 0, none⟩)] #[]] w fun e w' => MatP r c (r * c) (fun p => f (A p) (B p)) 0 (fun w' => UC U (c0 || orC (fun p => g (A p) (B p)) (r * c)) (n0 + d * ((r * c : Nat) : Int)) w' ∧ Mk U w w') w e w' := by
 have hlt := Blk.lt h
 obtain ⟨G, s5, ba, bb, bo, br, bx⟩ := alloc5 w #[.int .i64 r, .int .i64 c, .slice (some ⟨b, o, none⟩) (r * c) cap] 38 #[.int .i64 r, .int .i64 c, .slice (some ⟨b2, o2, none⟩) (r * c) cap2] 38 #[.func (.func F) #[.pointer (some ⟨U, 0, none⟩)] #[]] 67 #[.int .i64 0, .int .i64 0, .slice none 0 0] 38 #[.int .i64 r, .int .i64 c, .slice (some ⟨b, o, none⟩) (r * c) cap, .int .i64 r, .int .i64 c, .slice (some ⟨b2, o2, none⟩) (r * c) cap2] 38
 have ok : okM r c (r * c) := ⟨by omega, by omega, by rw [Int.natCast_mul]⟩
 have RF := hide (refuse2 U c0 n0 ⟨hn.1, by omega⟩ r c (some ⟨b, o, none⟩) (r * c) cap r c (some ⟨b2, o2, none⟩) (r * c) cap2 (w.heap.size + 1 + 1 + 1 + 1) 0 (Or.inl ⟨⟨ok, ok⟩, rfl⟩) _ (Blk.grown h G) bx (by omega))
 have MD : Hid (∀ wx, Mk U w wx → UC U c0 n0 wx → Blk w.heap.size #[.int .i64 r, .int .i64 c, .slice (some ⟨b, o, none⟩) (r * c) cap] 38 wx → Blk (w.heap.size + 1) #[.int .i64 r, .int .i64 c, .slice (some ⟨b2, o2, none⟩) (r * c) cap2] 38 wx → Blk (w.heap.size + 1 + 1) #[.func (.func F) #[.pointer (some ⟨U, 0, none⟩)] #[]] 67 wx →
   Calls Tryz.prog 66 #[.int .i64 r, .int .i64 c, .func (.func 107) #[] #[.pointer (some ⟨w.heap.size + 1 + 1, 0, none⟩), .pointer (some ⟨w.heap.size, 0, none⟩), .pointer (some ⟨w.heap.size + 1, 0, none⟩)]] wx fun e w' => MadeP r c (fun p => f (A p) (B p)) (fun w' => UC U (c0 || orC (fun p => g (A p) (B p)) (r * c)) (n0 + d * ((r * c : Nat) : Int)) w' ∧ Mk U wx w') wx e w') := by
  intro wx mx ux xa xb xo
  refine madeU U c0 n0 d hd (fun p => g (A p) (B p)) 107 (enters_of Tryz.func107 (by kernel_rfl) rfl) _ r c hr hc (fun p => f (A p) (B p)) wx hn ux (fun cc nn i k a hi hk hnn ua ma => ?_)
  exact reckon1M U Q F eF f g d cc nn r c i k b o cap b2 o2 cap2 (w.heap.size + 1 + 1) w.heap.size (w.heap.size + 1) A B hr hc hi hk a ua
   (fun wy bo hbo hu my hrow => C cc nn _ _ wy bo (hA _ (place_in _ _ _ _ hi hk)) (hB _ (place_in _ _ _ _ hi hk)) hnn hbo hu (hI _ _ iw ((mx.trans ma).trans (Mk.of my))) hrow)
   (Blk.mk xo ma (by omega)) (Blk.mk xa ma (by omega)) (Blk.mk xb ma (by omega)) (fun j hj => ma.cell (mx.cell (za j hj) n4) n4) (fun j hj => ma.cell (mx.cell (zb j hj) n5) n5) (by omega) (by omega) (by omega) n4 n5
 have HB := hide (And.intro ba (And.intro bb (And.intro bo br)))
 have HG := hide (And.intro G (And.intro s5 hlt))
 obtain ⟨len, hlen⟩ : ∃ q, r * c = q := ⟨_, rfl⟩
 simp only [hlen] at RF HG HB MD
 rw [hlen]
 have HL := hide hlen
 clear G s5 ba bb bo br bx h hlt za zb hA hB hr hc hlen n4 n5 hn ok C hI iw
 go_enter Tryz.func70, Tryz.ntmps70
 go_wp2_with fail
 generalize (((((w.alloc (.cells #[.int .i64 r, .int .i64 c, .slice (some ⟨b, o, none⟩) len cap] 38)).alloc (.cells #[.int .i64 r, .int .i64 c, .slice (some ⟨b2, o2, none⟩) len cap2] 38)).alloc (.cells #[.func (.func F) #[.pointer (some ⟨U, 0, none⟩)] #[]] 67)).alloc (.cells #[.int .i64 0, .int .i64 0, .slice none 0 0] 38)).alloc (.cells #[.int .i64 r, .int .i64 c, .slice (some ⟨b, o, none⟩) len cap, .int .i64 r, .int .i64 c, .slice (some ⟨b2, o2, none⟩) len cap2] 38)) = w1 at *
 refine (unhide RF).mono ?_
 rintro e w2 ⟨rfl, u2, m2⟩
 have M2 : Hid (Mk U w w2) := Mk.of ((Mod.of (unhide HG).1).trans m2)
 have Z2 : Hid (w.heap.size + 1 + 1 + 1 + 1 + 1 ≤ w2.heap.size) := by have := (unhide HG).2.1; have := m2.2.2.2.2; show _ ≤ _; omega
 obtain ⟨ba, bb, bo, br⟩ := unhide HB
 have lU : Hid (U < w.heap.size) := (unhide HG).2.2
 have ba2 := Blk.keep ba m2 (by have := unhide lU; omega)
 have bb2 := Blk.keep bb m2 (by have := unhide lU; omega)
 have bo2 := Blk.keep bo m2 (by have := unhide lU; omega)
 have br2 := Blk.keep br m2 (by have := unhide lU; omega)
 have p0 : w2.cell? ⟨w.heap.size, 0, none⟩ = some (.int .i64 r) := Blk.cell ba2 0
 have p1 : w2.cell? ⟨w.heap.size, 1, none⟩ = some (.int .i64 c) := Blk.cell ba2 1
 have q0 : w2.cell? ⟨w.heap.size + 1, 0, none⟩ = some (.int .i64 r) := Blk.cell bb2 0
 have q1 : w2.cell? ⟨w.heap.size + 1, 1, none⟩ = some (.int .i64 c) := Blk.cell bb2 1
 have M4 := hide (unhide MD w2 (unhide M2) u2 ba2 bb2 bo2)
 have HR := hide br2
 clear ba bb bo br ba2 bb2 bo2 br2 u2 m2 RF HB MD
 go_wp2_with fail
 refine (unhide M4).mono ?_
 rintro e w5 ⟨Lb, h1, rfl, h3, u5, mk5⟩
 have b3 : Blk (w.heap.size + 1 + 1 + 1) #[.int .i64 0, .int .i64 0, .slice none 0 0] 38 w5 := Blk.mk (unhide HR) mk5 (by have := unhide lU; omega)
 have e0 : w5.cell? ⟨w.heap.size + 1 + 1 + 1, 0, none⟩ = some (.int .i64 0) := Blk.cell b3 0
 have e1 : w5.cell? ⟨w.heap.size + 1 + 1 + 1, 1, none⟩ = some (.int .i64 0) := Blk.cell b3 1
 have e2 : w5.cell? ⟨w.heap.size + 1 + 1 + 1, 2, none⟩ = some (.slice none 0 0) := Blk.cell b3 2
 have f := Blk.free b3
 have R := hide (And.intro b3 (And.intro h1 (And.intro h3 (And.intro u5 mk5))))
 clear b3 h1 h3 u5 mk5 M4 p0 p1 q0 q1
 go_wp2
 obtain ⟨b3, h1, h3, u5, mk5⟩ := unhide R
 have P := putM b3 (.int .i64 r) (.int .i64 c) (.slice (some ⟨Lb, 0, none⟩) (r * c) (r * c))
 generalize (((w5.setCell ⟨w.heap.size + 1 + 1 + 1, 0, none⟩ (.int .i64 r)).setCell ⟨w.heap.size + 1 + 1 + 1, 1, none⟩ (.int .i64 c)).setCell ⟨w.heap.size + 1 + 1 + 1, 2, none⟩ (.slice (some ⟨Lb, 0, none⟩) (r * c) (r * c))) = wE at *
 have c0 : wE.cell? ⟨w.heap.size + 1 + 1 + 1, 0, none⟩ = some (.int .i64 r) := Blk.cell P.1 0
 have c1 : wE.cell? ⟨w.heap.size + 1 + 1 + 1, 1, none⟩ = some (.int .i64 c) := Blk.cell P.1 1
 have c2 : wE.cell? ⟨w.heap.size + 1 + 1 + 1, 2, none⟩ = some (.slice (some ⟨Lb, 0, none⟩) (r * c) (r * c)) := Blk.cell P.1 2
 refine bodyPost_ret (v := .tuple #[.agg #[.int .i64 r, .int .i64 c, .slice (some ⟨Lb, 0, none⟩) (r * c) (r * c)], .int .i64 0]) (by simp [results, Tryz.results70, go_sem, c0, c1, c2]) rfl ?_
 have hz := unhide Z2
 have hu := unhide lU
 have mw := unhide M2
 have hl' := unhide HL
 subst hl'
 exact ⟨_, _, Lb, rfl, by omega, Or.inr ⟨rfl, Blk.keep h3 P.2 (by omega)⟩, Nat.le_refl _, Blk.keep u5 P.2 (by omega), (mw.trans mk5).new P.2 (by omega)⟩
set_option maxHeartbeats 2000000 in
theorem matSum_ok (U : Nat) (c0 : Bool) (n0 : Int) (hn : 0 ≤ n0 ∧ n0 < 1152921504606846976) (r c b o cap b2 o2 cap2 : Nat) (A B : Nat → Int) (hr : 1 ≤ r ∧ r ≤ 12) (hc : 1 ≤ c ∧ c ≤ 12) (hA : ∀ j, j < r * c → I64 (A j)) (hB : ∀ j, j < r * c → I64 (B j)) (w : World) (h : UC U c0 n0 w)
  (za : ∀ j, j < r * c → w.cell? ⟨b, o + j, none⟩ = some (.int .i64 (A j))) (zb : ∀ j, j < r * c → w.cell? ⟨b2, o2 + j, none⟩ = some (.int .i64 (B j))) (n4 : b ≠ U) (n5 : b2 ≠ U) :
  Calls Tryz.prog 31 #[.pointer (some ⟨U, 0, none⟩), .agg #[.int .i64 r, .int .i64 c, .slice (some ⟨b, o, none⟩) (r * c) cap], .agg #[.int .i64 r, .int .i64 c, .slice (some ⟨b2, o2, none⟩) (r * c) cap2]] w fun e w' => MatP r c (r * c) (fun p => s2N (A p) (B p)) 0 (fun w' => UC U (c0 || orC (fun p => s2C (A p) (B p)) (r * c)) (n0 + 2 * ((r * c : Nat) : Int)) w' ∧ Mk U w w') w e w' := by
 have hlt := Blk.lt h
 obtain ⟨G, s3, x0, x1, x2⟩ := alloc3 w #[.int .i64 r, .int .i64 c, .slice (some ⟨b, o, none⟩) (r * c) cap] 38 #[.int .i64 r, .int .i64 c, .slice (some ⟨b2, o2, none⟩) (r * c) cap2] 38 #[.int .i64 0, .int .i64 0, .slice none 0 0] 38
 have RK := hide (matReckonM U 0 71 (enters_of Tryz.func71 (by kernel_rfl) rfl) s2N s2C 2 (by omega) (fun _ => True) (fun _ _ _ _ => trivial) c0 n0 hn r c b o cap b2 o2 cap2 A B hr hc hA hB _ (Blk.grown h G) trivial (fun cc nn x y wx bo hx hy hnn hbo hu _ hrow => addTwoM U x y cc nn bo 2 wx hx hy hnn hu hrow hbo) (fun j hj => gat G (za j hj)) (fun j hj => gat G (zb j hj)) n4 n5)
 have HB := hide x2
 have HG := hide (And.intro G (And.intro s3 hlt))
 obtain ⟨len, hlen⟩ : ∃ q, r * c = q := ⟨_, rfl⟩
 simp only [hlen] at RK HG HB
 rw [hlen]
 clear G s3 x0 x1 x2 h hlt za zb hA hB hr hc hlen n4 n5 hn
 go_enter Tryz.func31, Tryz.ntmps31
 go_wp2_with fail
 generalize (((w.alloc (.cells #[.int .i64 r, .int .i64 c, .slice (some ⟨b, o, none⟩) len cap] 38)).alloc (.cells #[.int .i64 r, .int .i64 c, .slice (some ⟨b2, o2, none⟩) len cap2] 38)).alloc (.cells #[.int .i64 0, .int .i64 0, .slice none 0 0] 38)) = w1 at *
 refine (unhide RK).mono ?_
 rintro e w5 ⟨ao, cp, Lb, rfl, h1, h3, h4, u5, mk5⟩
 have lU : Hid (U < w.heap.size) := (unhide HG).2.2
 have b3 : Blk (w.heap.size + 1 + 1) #[.int .i64 0, .int .i64 0, .slice none 0 0] 38 w5 := Blk.mk (unhide HB) mk5 (by have := unhide lU; omega)
 have e0 : w5.cell? ⟨w.heap.size + 1 + 1, 0, none⟩ = some (.int .i64 0) := Blk.cell b3 0
 have e1 : w5.cell? ⟨w.heap.size + 1 + 1, 1, none⟩ = some (.int .i64 0) := Blk.cell b3 1
 have e2 : w5.cell? ⟨w.heap.size + 1 + 1, 2, none⟩ = some (.slice none 0 0) := Blk.cell b3 2
 have f := Blk.free b3
 have R := hide (And.intro b3 (And.intro h1 (And.intro h3 (And.intro h4 (And.intro u5 mk5)))))
 clear b3 h1 h3 h4 u5 mk5 RK
 go_wp2
 obtain ⟨b3, h1, h3, h4, u5, mk5⟩ := unhide R
 have P := putM b3 (.int .i64 r) (.int .i64 c) (.slice ao len cp)
 generalize (((w5.setCell ⟨w.heap.size + 1 + 1, 0, none⟩ (.int .i64 r)).setCell ⟨w.heap.size + 1 + 1, 1, none⟩ (.int .i64 c)).setCell ⟨w.heap.size + 1 + 1, 2, none⟩ (.slice ao len cp)) = wE at *
 have c0 : wE.cell? ⟨w.heap.size + 1 + 1, 0, none⟩ = some (.int .i64 r) := Blk.cell P.1 0
 have c1 : wE.cell? ⟨w.heap.size + 1 + 1, 1, none⟩ = some (.int .i64 c) := Blk.cell P.1 1
 have c2 : wE.cell? ⟨w.heap.size + 1 + 1, 2, none⟩ = some (.slice ao len cp) := Blk.cell P.1 2
 refine bodyPost_ret (v := .tuple #[.agg #[.int .i64 r, .int .i64 c, .slice ao len cp], .int .i64 0]) (by simp [results, Tryz.results31, go_sem, c0, c1, c2]) rfl ?_
 have hu := unhide lU
 have hs := (unhide HG).2.1
 have mw : Mk U w w5 := (Mk.of (Mod.of (unhide HG).1)).trans mk5
 exact ⟨_, _, Lb, rfl, by omega, h3.imp id (fun h => ⟨h.1, Blk.keep h.2 P.2 (by omega)⟩), h4, Blk.keep u5 P.2 (by omega), mw.new P.2 (by omega)⟩
set_option maxHeartbeats 2000000 in
theorem matScale_ok (U : Nat) (c0 : Bool) (n0 s : Int) (hs : I64 s) (hn : 0 ≤ n0 ∧ n0 < 1152921504606846976) (r c b o cap : Nat) (A : Nat → Int) (hr : 1 ≤ r ∧ r ≤ 12) (hc : 1 ≤ c ∧ c ≤ 12) (hA : ∀ j, j < r * c → I64 (A j)) (w : World) (h : UC U c0 n0 w) (za : ∀ j, j < r * c → w.cell? ⟨b, o + j, none⟩ = some (.int .i64 (A j))) (n4 : b ≠ U) :
  Calls Tryz.prog 44 #[.pointer (some ⟨U, 0, none⟩), .agg #[.int .i64 r, .int .i64 c, .slice (some ⟨b, o, none⟩) (r * c) cap], .int .i64 s] w fun e w' => MatP r c (r * c) (fun p => m2N (A p) s) 0 (fun w' => UC U (c0 || orC (fun p => m2C (A p) s) (r * c)) (n0 + 2 * ((r * c : Nat) : Int)) w' ∧ Mk U w w') w e w' := by
 have hlt := Blk.lt h
 obtain ⟨G, s5, bu, ba, bs, br, bx⟩ := alloc5 w #[.pointer (some ⟨U, 0, none⟩)] 26 #[.int .i64 r, .int .i64 c, .slice (some ⟨b, o, none⟩) (r * c) cap] 38 #[.int .i64 s] 3 #[.int .i64 0, .int .i64 0, .slice none 0 0] 38 #[.int .i64 r, .int .i64 c, .slice (some ⟨b, o, none⟩) (r * c) cap] 38
 have RF := hide (refuse1 U c0 n0 ⟨hn.1, by omega⟩ r c (some ⟨b, o, none⟩) (r * c) cap (w.heap.size + 1 + 1 + 1 + 1) 0 (Or.inl ⟨⟨by omega, by omega, by rw [Int.natCast_mul]⟩, rfl⟩) _ (Blk.grown h G) bx (by omega))
 have MD : Hid (∀ wx, Mk U w wx → UC U c0 n0 wx → Blk w.heap.size #[.pointer (some ⟨U, 0, none⟩)] 26 wx → Blk (w.heap.size + 1) #[.int .i64 r, .int .i64 c, .slice (some ⟨b, o, none⟩) (r * c) cap] 38 wx → Blk (w.heap.size + 1 + 1) #[.int .i64 s] 3 wx →
   Calls Tryz.prog 66 #[.int .i64 r, .int .i64 c, .func (.func 92) #[] #[.pointer (some ⟨w.heap.size, 0, none⟩), .pointer (some ⟨w.heap.size + 1, 0, none⟩), .pointer (some ⟨w.heap.size + 1 + 1, 0, none⟩)]] wx fun e w' => MadeP r c (fun p => m2N (A p) s) (fun w' => UC U (c0 || orC (fun p => m2C (A p) s) (r * c)) (n0 + 2 * ((r * c : Nat) : Int)) w' ∧ Mk U wx w') wx e w') := by
  intro wx mx ux xu xa xs
  refine madeU U c0 n0 2 (by omega) (fun p => m2C (A p) s) 92 (enters_of Tryz.func92 (by kernel_rfl) rfl) _ r c hr hc (fun p => m2N (A p) s) wx hn ux (fun cc nn i k a hi hk hnn ua ma => ?_)
  exact scale1 U cc nn hnn r c i k b o cap w.heap.size (w.heap.size + 1) (w.heap.size + 1 + 1) s A hr hc hi hk hs hA a ua (Blk.mk xu ma (by omega)) (Blk.mk xa ma (by omega)) (Blk.mk xs ma (by omega)) (fun j hj => ma.cell (mx.cell (za j hj) n4) n4) (by omega) (by omega) (by omega) n4
 have HB := hide (And.intro bu (And.intro ba (And.intro bs br)))
 have HG := hide (And.intro G (And.intro s5 hlt))
 obtain ⟨len, hlen⟩ : ∃ q, r * c = q := ⟨_, rfl⟩
 simp only [hlen] at RF HG HB MD
 rw [hlen]
 have HL := hide hlen
 clear G s5 bu ba bs br bx h hlt za hA hr hc hlen n4 hn hs
 go_enter Tryz.func44, Tryz.ntmps44
 go_wp2_with fail
 generalize (((((w.alloc (.cells #[.pointer (some ⟨U, 0, none⟩)] 26)).alloc (.cells #[.int .i64 r, .int .i64 c, .slice (some ⟨b, o, none⟩) len cap] 38)).alloc (.cells #[.int .i64 s] 3)).alloc (.cells #[.int .i64 0, .int .i64 0, .slice none 0 0] 38)).alloc (.cells #[.int .i64 r, .int .i64 c, .slice (some ⟨b, o, none⟩) len cap] 38)) = w1 at *
 refine (unhide RF).mono ?_
 rintro e w2 ⟨rfl, u2, m2⟩
 have M2 : Hid (Mk U w w2) := Mk.of ((Mod.of (unhide HG).1).trans m2)
 have Z2 : Hid (w.heap.size + 1 + 1 + 1 + 1 + 1 ≤ w2.heap.size) := by have := (unhide HG).2.1; have := m2.2.2.2.2; show _ ≤ _; omega
 obtain ⟨bu, ba, bs, br⟩ := unhide HB
 have lU : Hid (U < w.heap.size) := (unhide HG).2.2
 have bu2 := Blk.keep bu m2 (by have := unhide lU; omega)
 have ba2 := Blk.keep ba m2 (by have := unhide lU; omega)
 have bs2 := Blk.keep bs m2 (by have := unhide lU; omega)
 have br2 := Blk.keep br m2 (by have := unhide lU; omega)
 have p0 : w2.cell? ⟨w.heap.size + 1, 0, none⟩ = some (.int .i64 r) := Blk.cell ba2 0
 have p1 : w2.cell? ⟨w.heap.size + 1, 1, none⟩ = some (.int .i64 c) := Blk.cell ba2 1
 have M4 := hide (unhide MD w2 (unhide M2) u2 bu2 ba2 bs2)
 have HR := hide br2
 clear bu ba bs br bu2 ba2 bs2 br2 u2 m2 RF HB MD
 go_wp2_with fail
 refine (unhide M4).mono ?_
 rintro e w5 ⟨Lb, h1, rfl, h3, u5, mk5⟩
 have b3 : Blk (w.heap.size + 1 + 1 + 1) #[.int .i64 0, .int .i64 0, .slice none 0 0] 38 w5 := Blk.mk (unhide HR) mk5 (by have := unhide lU; omega)
 have e0 : w5.cell? ⟨w.heap.size + 1 + 1 + 1, 0, none⟩ = some (.int .i64 0) := Blk.cell b3 0
 have e1 : w5.cell? ⟨w.heap.size + 1 + 1 + 1, 1, none⟩ = some (.int .i64 0) := Blk.cell b3 1
 have e2 : w5.cell? ⟨w.heap.size + 1 + 1 + 1, 2, none⟩ = some (.slice none 0 0) := Blk.cell b3 2
 have f := Blk.free b3
 have R := hide (And.intro b3 (And.intro h1 (And.intro h3 (And.intro u5 mk5))))
 clear b3 h1 h3 u5 mk5 M4 p0 p1
 go_wp2
 obtain ⟨b3, h1, h3, u5, mk5⟩ := unhide R
 have P := putM b3 (.int .i64 r) (.int .i64 c) (.slice (some ⟨Lb, 0, none⟩) (r * c) (r * c))
 generalize (((w5.setCell ⟨w.heap.size + 1 + 1 + 1, 0, none⟩ (.int .i64 r)).setCell ⟨w.heap.size + 1 + 1 + 1, 1, none⟩ (.int .i64 c)).setCell ⟨w.heap.size + 1 + 1 + 1, 2, none⟩ (.slice (some ⟨Lb, 0, none⟩) (r * c) (r * c))) = wE at *
 have c0 : wE.cell? ⟨w.heap.size + 1 + 1 + 1, 0, none⟩ = some (.int .i64 r) := Blk.cell P.1 0
 have c1 : wE.cell? ⟨w.heap.size + 1 + 1 + 1, 1, none⟩ = some (.int .i64 c) := Blk.cell P.1 1
 have c2 : wE.cell? ⟨w.heap.size + 1 + 1 + 1, 2, none⟩ = some (.slice (some ⟨Lb, 0, none⟩) (r * c) (r * c)) := Blk.cell P.1 2
 refine bodyPost_ret (v := .tuple #[.agg #[.int .i64 r, .int .i64 c, .slice (some ⟨Lb, 0, none⟩) (r * c) (r * c)], .int .i64 0]) (by simp [results, Tryz.results44, go_sem, c0, c1, c2]) rfl ?_
 have hz := unhide Z2
 have hu := unhide lU
 have mw := unhide M2
 have hl' := unhide HL
 subst hl'
 exact ⟨_, _, Lb, rfl, by omega, Or.inr ⟨rfl, Blk.keep h3 P.2 (by omega)⟩, Nat.le_refl _, Blk.keep u5 P.2 (by omega), (mw.trans mk5).new P.2 (by omega)⟩
def oneL (l : List Int) : Nat → Int := fun i => ix l i * 4294967296
theorem lits_small {l : List Int} (h : ∀ x ∈ l, -1000000 ≤ x ∧ x ≤ 1000000) : ∀ i, i < l.length → -1000000 ≤ ix l i ∧ ix l i ≤ 1000000 := by
 intro i hi
 have : ix l i = l[i] := by simp [ix, hi]
 rw [this]
 exact h _ (List.getElem_mem _)
end Go.Proofs.YtjobgjcfkomhpaaGreat
namespace Go.Proofs.YtjobgjcfkomhpaaGreat
open Go.RowKit Go.Shelf Go.Proofs.Wd
set_option maxRecDepth 10000
section
variable {w : World} {U : Nat} {P : Bool → Prop} {D : Int} {bx : List (Nat × Array Value)} {rows : List (Option Addr × Nat × (Nat → Int))} {wx w' : World}
end
theorem mulR (U : Nat) (r m c : Nat) (hr : 1 ≤ r ∧ r ≤ 12) (hm : 1 ≤ m ∧ m ≤ 12) (hc : 1 ≤ c ∧ c ≤ 12) (a1 a2 : Option Addr) (p1 p2 : Nat) (A B : Nat → Int) (hp : r * m ≤ p1) (hA : ∀ j, j < r * m → I64 (A j)) (hB : ∀ j, j < m * c → I64 (B j)) (w : World) (ra : Row w a1 (r * m) A ∧ Off U (r * m) a1) (rb : Row w a2 (m * c) B ∧ Off U (m * c) a2) (c0 : Bool) (n0 : Int) (hn : 0 ≤ n0 ∧ n0 < 1152921504606846976) (h : UC U c0 n0 w) :
  Calls Tryz.prog 30 #[.pointer (some ⟨U, 0, none⟩), .agg #[.int .i64 r, .int .i64 m, .slice a1 (r * m) p1], .agg #[.int .i64 m, .int .i64 c, .slice a2 (m * c) p2]] w fun e w' => MatP r c (r * c) (mulZ A B m c) 0 (fun w' => UC U (c0 || orC (mulG A B m c) (r * c)) (n0 + 2 * m * ((r * c : Nat) : Int)) w' ∧ Mk U w w') w e w' := by
 have k1 := mul12n r m hr hm
 have k2 := mul12n m c hm hc
 obtain ⟨b, o, rfl, za⟩ := ra.1.some k1.1
 obtain ⟨b2, o2, rfl, zb⟩ := rb.1.some k2.1
 exact matMul_ok U c0 n0 hn r m c b o p1 b2 o2 p2 A B hr hm hc hp hA hB w h za zb (off_at ra.2 k1.1) (off_at rb.2 k2.1)
theorem sumR (U : Nat) (r c : Nat) (hr : 1 ≤ r ∧ r ≤ 12) (hc : 1 ≤ c ∧ c ≤ 12) (a1 a2 : Option Addr) (p1 p2 : Nat) (A B : Nat → Int) (hA : ∀ j, j < r * c → I64 (A j)) (hB : ∀ j, j < r * c → I64 (B j)) (w : World) (ra : Row w a1 (r * c) A ∧ Off U (r * c) a1) (rb : Row w a2 (r * c) B ∧ Off U (r * c) a2) (c0 : Bool) (n0 : Int) (hn : 0 ≤ n0 ∧ n0 < 1152921504606846976) (h : UC U c0 n0 w) :
  Calls Tryz.prog 31 #[.pointer (some ⟨U, 0, none⟩), .agg #[.int .i64 r, .int .i64 c, .slice a1 (r * c) p1], .agg #[.int .i64 r, .int .i64 c, .slice a2 (r * c) p2]] w fun e w' => MatP r c (r * c) (fun p => s2N (A p) (B p)) 0 (fun w' => UC U (c0 || orC (fun p => s2C (A p) (B p)) (r * c)) (n0 + 2 * ((r * c : Nat) : Int)) w' ∧ Mk U w w') w e w' := by
 have k1 := mul12n r c hr hc
 obtain ⟨b, o, rfl, za⟩ := ra.1.some k1.1
 obtain ⟨b2, o2, rfl, zb⟩ := rb.1.some k1.1
 exact matSum_ok U c0 n0 hn r c b o p1 b2 o2 p2 A B hr hc hA hB w h za zb (off_at ra.2 k1.1) (off_at rb.2 k1.1)
theorem scaleR (U : Nat) (s : Int) (hs : I64 s) (r c : Nat) (hr : 1 ≤ r ∧ r ≤ 12) (hc : 1 ≤ c ∧ c ≤ 12) (a1 : Option Addr) (p1 : Nat) (A : Nat → Int) (hA : ∀ j, j < r * c → I64 (A j)) (w : World) (ra : Row w a1 (r * c) A ∧ Off U (r * c) a1) (c0 : Bool) (n0 : Int) (hn : 0 ≤ n0 ∧ n0 < 1152921504606846976) (h : UC U c0 n0 w) :
  Calls Tryz.prog 44 #[.pointer (some ⟨U, 0, none⟩), .agg #[.int .i64 r, .int .i64 c, .slice a1 (r * c) p1], .int .i64 s] w fun e w' => MatP r c (r * c) (fun p => m2N (A p) s) 0 (fun w' => UC U (c0 || orC (fun p => m2C (A p) s) (r * c)) (n0 + 2 * ((r * c : Nat) : Int)) w' ∧ Mk U w w') w e w' := by
 have k1 := mul12n r c hr hc
 obtain ⟨b, o, rfl, za⟩ := ra.1.some k1.1
 exact matScale_ok U c0 n0 s hs hn r c b o p1 A hr hc hA w h za (off_at ra.2 k1.1)
end Go.Proofs.YtjobgjcfkomhpaaGreat
namespace Go.Proofs.YtjobgjcfkomhpaaGreat
open Go.RowKit Go.Shelf Go.Proofs.Wd
set_option maxRecDepth 10000
section
variable {P : Program} {ops : Array Oper} {Q : Exit → Act → World → Prop} {md : Region.Mode} {S : World → Prop} {g : Nat}
theorem region_cutP {T : Type} {id : Nat} {dr : Bool} {a : Act} {w : World} (acts : Act → T → Act) (R : T → World → Prop) (h : (Code.region id ops dr).wp P (fun e a' w' => e = .normal ∧ ∃ t, R t w' ∧ a' = acts a t) a w) (fin : ∀ t w', R t w' → Q .normal (acts a t) w') : (Code.region id ops dr).wp P Q a w :=
 Code.wp_mono (fun e a' w' h => by obtain ⟨rfl, t, hR, rfl⟩ := h; exact fin t w' hR) h
theorem pick2_GP {i j fuel : Nat} {listed : Array Bool} {a : Act} {w : World} (hr : Region.ready md ops listed = [i, j])
  (h1 : ∀ K : Act → World → Prop, (∀ a' w', (i ≠ g → S w') → wpAnyG P md ops (NoPanic Q) S g fuel (listed.setIfInBounds i true) a' w' → K a' w') → wpOp P ops (NoPanic Q) i K a w)
  (h2 : ∀ K : Act → World → Prop, (∀ a' w', (j ≠ g → S w') → wpAnyG P md ops (NoPanic Q) S g fuel (listed.setIfInBounds j true) a' w' → K a' w') → wpOp P ops (NoPanic Q) j K a w) : wpAnyG P md ops (NoPanic Q) S g (fuel + 1) listed a w :=
 ⟨fun h0 => by (rw [hr] at h0; cases h0), fun q hq => by
  rw [hr] at hq
  simp only [List.mem_cons, List.not_mem_nil, or_false] at hq
  rcases hq with rfl | rfl
  ·exact h1 _ (fun a' w' x y => ⟨x, y⟩)
  ·exact h2 _ (fun a' w' x y => ⟨x, y⟩)⟩
end
set_option maxRecDepth 50000 in
set_option maxHeartbeats 1000000 in
theorem clonePoly (b o n cap : Nat) (Z : Nat → Int) (h1 : 1 ≤ n) (hn : n ≤ 1000000) (w : World) (hr : Row w (some ⟨b, o, none⟩) n Z) :
  Calls Tryz.prog 88 #[.slice (some ⟨b, o, none⟩) n cap] w fun e w' => ∃ B cap', e = .returned (.slice (some ⟨B, 0, none⟩) n cap') ∧ n ≤ cap' ∧ w.heap.size ≤ B ∧ Own B n Z w' ∧ Kp w w' := by
 obtain ⟨i0, hi, hz0, hz1, hz2⟩ := info_parts Tryz.infoInt
 have OM := hide (World.ownsRow_made (base := w.heap.size) (e := 3) (size := 1) w #[] 0 (Nat.le_refl _) (by unfold maxLen; omega) (by simp))
 have NEWH : Hid (∀ j u, ((List.range n).map fun i => Value.int .i64 (Z i))[j]? = some u → (w.alloc (.cells #[] 3)).cell? ((⟨b, o, none⟩ : Addr).add j) = some u) := by
  intro j u hu
  rw [List.getElem?_map] at hu
  by_cases hj : j < n
  ·rw [List.getElem?_range hj] at hu
   simp at hu
   subst hu
   obtain ⟨b', o', e, hc⟩ := hr.at hj
   cases e
   rw [Go.WideShapes.add_plain]
   exact gat ((Grown.refl _).alloc _ _) hc
  ·rw [List.getElem?_eq_none (by simpa using hj)] at hu
   simp at hu
 have H1 := hide h1
 have q22 : ∀ w : World, (binOp .eql 22 (.slice (some ⟨b, o, none⟩) n cap) (.slice none 0 0)).run Tryz.prog w = .ok (.bool false) w := fun w => Lib.run_eql_slice_nil w _ _ _ n cap 0 0 Tryz.underlying22
 clear hr h1
 go_enter Tryz.func88, Tryz.ntmps88
 go_wp2_with (at_builtin; refine wpList_append_own _ rfl _ _ 22 rfl w.heap.size 3 i0 (.int .i64 0) 1 8 Tryz.underlying22 hi hz0 hz1 hz2 rfl (by decide) _ _ _ rfl (unhide OM) ⟨b, o, none⟩ n cap ((List.range n).map fun i => Value.int .i64 (Z i)) rfl (by simp) (unhide NEWH) (cells_one _ _) (by unfold maxLen; omega) (by omega) (by simp) ?_; intro v' w1 hown' hgrow _)
 rw [Nat.zero_add, List.nil_append] at hown'
 obtain ⟨B, cap2, rfl, hC, hB, own2⟩ := owns_ownC (unhide H1) hown'
 have K1 : Hid (Kp w w1) := Kp.by ((Kp.refl _).alloc _ _) hgrow (fun k e => by have := ((unhide OM).lt k e).1; omega)
 have R1 := hide (And.intro hC (And.intro hB own2))
 clear hown' hgrow hB own2 hC
 go_wp2
 go_ret
 exact ⟨_, _, rfl, (unhide R1).1, (unhide R1).2.1, (unhide R1).2.2, unhide K1⟩
set_option maxHeartbeats 1000000 in
theorem backMk (ao : Option Addr) (len cap : Nat) (w : World) : Calls Tryz.prog 89 #[.slice ao len cap] w fun e w' => e = .returned (.func (.func 124) #[] #[.pointer (some ⟨w.heap.size, 0, none⟩)]) ∧ w' = w.alloc (.cells #[.slice ao len cap] 73) := by
 go_enter Tryz.func89, Tryz.ntmps89
 go_wp2
 go_ret
 exact ⟨rfl, rfl⟩
def encB (X : Nat → MV) (x : Nat) : Array Value := #[.int .i64 (x : Int), .agg #[.int .i64 (X x).R, .int .i64 (X x).C, .slice (X x).ao (X x).len (X x).cap]]
def nextB (n : Nat) (pre : List Nat) (x : Nat) : Prop := x + 1 + pre.length = n
section
attribute [local go_sem] Oper.semAt_some
set_option maxRecDepth 100000 in
set_option maxHeartbeats 4000000 in
theorem back1_in (f l sb n cap : Nat) (ao : Option Addr) (X : Nat → MV) (hf : 1 ≤ f) (hn : n ≤ 1000) (D : Nat → Prop) (dsb : ¬ D sb) (St : World → World → Prop) (J Jx : List Nat → World → Prop)
  (dD : ∀ q, (0 < n → ∃ o, ao = some ⟨q, o, none⟩) → 0 < n → ¬ D q)
  (hY : ∀ pre x W1, J pre W1 → nextB n pre x → YieldAt Fence.wide (f - 1) Tryz.prog l (encB X x) W1 fun e W' => KC D W1 W' ∧ ((e = .returned (.bool true) ∧ J (pre ++ [x]) W' ∧ True) ∨ (e = .returned (.bool false) ∧ Jx (pre ++ [x]) W')))
  (W : World) (hs : Blk sb #[.slice ao n cap] 73 W) (hm : Mats W ao n X) (h0 : J [] W) :
  CallsIn Fence.wide f Tryz.prog 124 #[.func (.yield l) #[] #[], .pointer (some ⟨sb, 0, none⟩)] W fun e W' => (∃ v, e = .returned v) ∧ ((∃ xs : List Nat, xs.length = n ∧ J xs W') ∨ (∃ pre : List Nat, True ∧ Jx pre W')) := by
 have d0 : W.cell? ⟨sb, 0, none⟩ = some (.slice ao n cap) := Blk.cell hs 0
 have wa : wrap64 ((n : Int) - 1) = (n : Int) - 1 := by unfold wrap64; omega
 have HY := hide hY
 have HD := hide dD
 have H0 := hide (And.intro h0 (And.intro hs hm))
 clear hY h0 hs hm dD
 refine callsIn_of_wp Tryz.func124 rfl trivial ?_ rfl
 simp only [Tryz.ntmps124, List.size_toArray, List.length_cons, List.length_nil, Nat.reduceAdd, Nat.reduceSub, Array.replicate_succ, Array.replicate_zero, List.push_toArray, List.append_toArray, List.nil_append, List.cons_append]
 gi_wp2
 gi_loopw [3] (fun i wr => ∃ j : Nat, j ≤ n ∧ i = .int .i64 ((n : Int) - 1 - (j : Int)) ∧ Hid ((∃ pre : List Nat, pre.length = j ∧ J pre wr) ∧ Blk sb #[.slice ao n cap] 73 wr ∧ Mats wr ao n X)) (fun i _ => (intOf i + 1).toNat)
 case atStart => exact ⟨0, Nat.zero_le _, by simp, ⟨[], rfl, (unhide H0).1⟩, (unhide H0).2⟩
 case round =>
  obtain ⟨j, hj, rfl, HI⟩ := hrel
  clear H0 d0
  by_cases hlt : j < n
  ·obtain ⟨x, hx⟩ : ∃ x : Nat, (n : Int) - 1 - (j : Int) = (x : Int) := ⟨n - 1 - j, by omega⟩
   have hxn : x < n := by omega
   rw [hx]
   obtain ⟨⟨pre, hp, hJ⟩, hs, hm⟩ := unhide HI
   have d0 : wr.cell? ⟨sb, 0, none⟩ = some (.slice ao n cap) := Blk.cell hs 0
   obtain ⟨b, o, rfl, c0, c1, c2⟩ := hm.at hxn
   obtain ⟨fn, tmps, assign, body, hy, hR⟩ := unhide HY pre x wr hJ (by unfold nextB; omega)
   dsimp only [encB] at hy
   have HS := hide (And.intro hp (And.intro hs hm))
   have i0 : (0 : Int) ≤ (x : Int) := by omega
   have i1 : (x : Int) < (n : Int) := by omega
   have w1 : wrap64 ((x : Int) - 1) = (x : Int) - 1 := by unfold wrap64; omega
   have HX := hide hx
   clear hp hs hm hJ HI hx
   gi_wp2
   refine hR.mono ?_
   rintro e W3 ⟨hk, (⟨rfl, hJ3, _⟩ | ⟨rfl, hJx⟩)⟩
   ·have R3 : Hid ((∃ pre : List Nat, pre.length = j + 1 ∧ J pre W3) ∧ Blk sb #[.slice (some ⟨b, o, none⟩) n cap] 73 W3 ∧ Mats W3 (some ⟨b, o, none⟩) n X) :=
     ⟨⟨_, by rw [List.length_append, (unhide HS).1]; rfl, hJ3⟩, hk.blk (unhide HS).2.1 dsb, (unhide HS).2.2.cells fun q o' v hq hv => hk.cell hv (unhide HD q hq (by omega))⟩
    clear hJ3 hk hR hy HS c0 c1 c2 d0
    gi_wp2
    go_roundw
    case rel => exact ⟨j + 1, by omega, by have := unhide HX; congr 1; omega, R3⟩
    case measure => simp [intOf]
   ·have R3 : Hid (Jx (pre ++ [x]) W3) := hJx
    clear hJx hk hR hy HS c0 c1 c2 d0
    gi_wp2
    refine bodyPost_ret (results_none rfl _ _ _) rfl ?_
    exact ⟨⟨_, rfl⟩, .inr ⟨_, trivial, unhide R3⟩⟩
  ·obtain rfl : j = n := by omega
   have HF : Hid (∃ xs : List Nat, xs.length = j ∧ J xs wr) := (unhide HI).1
   have en : (j : Int) - 1 - (j : Int) = -1 := by omega
   clear HI
   rw [en]
   gi_wp2
   go_end0
   exact ⟨⟨_, rfl⟩, .inl (unhide HF)⟩
end
end Go.Proofs.YtjobgjcfkomhpaaGreat
namespace Go.Proofs.YtjobgjcfkomhpaaGreat
open Go.RowKit Go.Shelf Go.Proofs.Wd
set_option maxRecDepth 10000
theorem slice_toM (ao : Option Addr) (len cap n : Nat) (h : n ≤ cap) (w : World) : (Instr.sliceAt 73 (.slice ao len cap) none (some (.int .i64 n)) none).run Tryz.prog w = .ok (.slice ao n cap) w := by
 have e : Tryz.prog.underlying 73 = some (.slice (Tryz.prog.elem 73)) := by kernel_rfl
 have s1 : (sizeOf (Tryz.prog.elem 73)).run Tryz.prog w = .ok 3 w := by kernel_rfl
 rw [run_sliceAt_slice w 73 _ _ _ _ e, run_slice_h w 73 ao len cap e .i64 n (by omega) (by omega), s1]
 show Result.ok (sliced ao 0 (n : Int).toNat cap 3) w = _
 have a0 : ao.map (fun x => x.add (0 * 3)) = ao := by cases ao <;> simp [Addr.add]
 unfold sliced
 rw [a0]
 simp
def ValP (r c : Int) (len : Nat) (Z : Nat → Int) (err : Int) (X : World → Prop) (w : World) (e : Ending) (w' : World) : Prop :=
 ∃ ao cap B, e = .returned (.tuple #[.agg #[.int .i64 r, .int .i64 c, .slice ao len cap], .int .i64 err]) ∧ len ≤ cap ∧ w.heap.size ≤ B ∧ (len = 0 ∨ (ao = some ⟨B, 0, none⟩ ∧ Own B len Z w')) ∧ X w'
theorem own_own2 {B len : Nat} {Z : Nat → Int} {W W' : World} {row : Option Nat} (h : Own B len Z W) (hg : W.grownBy W' row) (hr : ∀ r, row = some r → ∃ o : Obj, W.heap[r]? = some o ∧ o.isCells = false) : Own B len Z W' := let ⟨cur, h1, h2⟩ := h; ⟨cur, blk_own h1 hg hr, h2⟩
def AtV (w : World) (U r c nn vb : Nat) (t : Int) (c0 : Bool) (n0 : Int) (Z : Nat → Int) (G : Bool) (d : Int) (B cp : Nat) (W : World) : Prop :=
 Blk vb #[.int .i64 r, .int .i64 c, .slice (some ⟨B, 0, none⟩) nn cp] 38 W ∧ Own B nn Z W ∧ nn ≤ cp ∧ w.heap.size ≤ B ∧ UW U (c0 || G) n0 d W ∧ Blk w.heap.size #[.pointer (some ⟨U, 0, none⟩)] 26 W ∧ Blk (w.heap.size + 1) #[.int .i64 t] 3 W ∧ Blk (w.heap.size + 1 + 1) #[.int .i64 0, .int .i64 0, .slice none 0 0] 38 W ∧ Mk U w W ∧ w.heap.size + 3 ≤ vb
theorem AtV.own {w W W' : World} {U r c nn vb B cp b : Nat} {t n0 d : Int} {c0 G : Bool} {Z : Nat → Int} {row : Option Nat} (h : AtV w U r c nn vb t c0 n0 Z G d B cp W) (hB : w.heap.size ≤ b) (hg : W.grownBy W' row) (hr : ∀ r, row = some r → b ≤ r ∧ ∃ o : Obj, W.heap[r]? = some o ∧ o.isCells = false) : AtV w U r c nn vb t c0 n0 Z G d B cp W' := by
 have hr' : ∀ r, row = some r → ∃ o : Obj, W.heap[r]? = some o ∧ o.isCells = false := fun r e => (hr r e).2
 obtain ⟨h1, h2, h3, h4, ⟨q, q1, q2, q3⟩, h5, h6, h7, h8, h9⟩ := h
 exact ⟨blk_own h1 hg hr', own_own2 h2 hg hr', h3, h4, ⟨q, q1, q2, blk_own q3 hg hr'⟩, blk_own h5 hg hr', blk_own h6 hg hr', blk_own h7 hg hr', mk_own h8 hB hg hr, h9⟩
theorem AtV.put {w W W' : World} {U r c nn vb B cp B2 cp2 : Nat} {t n0 d d' q' : Int} {c0 G G' : Bool} {Z Y : Nat → Int} (h : AtV w U r c nn vb t c0 n0 Z G d B cp W) (lU : U < w.heap.size) (m : Mk U W W') (u : UC U (c0 || G') q' W') (hq : n0 ≤ q') (hq2 : q' ≤ n0 + d') (hb : Blk B2 (ints nn Y) 3 W') (hB2 : W.heap.size ≤ B2) (hc : nn ≤ cp2) :
  AtV w U r c nn vb t c0 n0 Y G' d' B2 cp2 (((W'.setCell ⟨vb, 0, none⟩ (.int .i64 r)).setCell ⟨vb, 1, none⟩ (.int .i64 c)).setCell ⟨vb, 2, none⟩ (.slice (some ⟨B2, 0, none⟩) nn cp2)) ∧
   KC (fun k => k = U ∨ k = vb) W (((W'.setCell ⟨vb, 0, none⟩ (.int .i64 r)).setCell ⟨vb, 1, none⟩ (.int .i64 c)).setCell ⟨vb, 2, none⟩ (.slice (some ⟨B2, 0, none⟩) nn cp2)) ∧
   KeepsOthers W (((W'.setCell ⟨vb, 0, none⟩ (.int .i64 r)).setCell ⟨vb, 1, none⟩ (.int .i64 c)).setCell ⟨vb, 2, none⟩ (.slice (some ⟨B2, 0, none⟩) nn cp2)) ∧
   Blk vb #[.int .i64 r, .int .i64 c, .slice (some ⟨B, 0, none⟩) nn cp] 38 W' ∧ Mk U w (((W'.setCell ⟨vb, 0, none⟩ (.int .i64 r)).setCell ⟨vb, 1, none⟩ (.int .i64 c)).setCell ⟨vb, 2, none⟩ (.slice (some ⟨B2, 0, none⟩) nn cp2)) := by
 obtain ⟨h1, h2, h3, h4, ⟨q0, q1, q2, q3⟩, h5, h6, h7, h8, h9⟩ := h
 have lv := Blk.lt h1
 have b1 := Blk.mk h1 m (by omega)
 have P := putM b1 (.int .i64 r) (.int .i64 c) (.slice (some ⟨B2, 0, none⟩) nn cp2)
 have hw := h8.2.2.2
 have K : Mk U w (((W'.setCell ⟨vb, 0, none⟩ (.int .i64 r)).setCell ⟨vb, 1, none⟩ (.int .i64 c)).setCell ⟨vb, 2, none⟩ (.slice (some ⟨B2, 0, none⟩) nn cp2)) := (h8.trans m).new P.2 (by omega)
 refine ⟨⟨P.1, Own.of (Blk.keep hb P.2 (by omega)), hc, by omega, ⟨q', hq, hq2, Blk.keep u P.2 (by omega)⟩, Blk.keep (Blk.mk h5 m (by omega)) P.2 (by omega), Blk.keep (Blk.mk h6 m (by omega)) P.2 (by omega), Blk.keep (Blk.mk h7 m (by omega)) P.2 (by omega), K, h9⟩, ?_, ?_, b1, K⟩
 ·refine KC.of (fun i hi hD => ?_) (Nat.le_trans m.2.2.2 P.2.2.2.2.2)
  rw [P.2.2.2.1 i (by have := m.2.2.2; omega) (fun e => hD (Or.inr e))]
  exact m.2.2.1 i hi (fun e => hD (Or.inl e))
 ·exact ((StT.mk (N := 0) m q3 (Nat.zero_le _)).1.trans (KeepsOthers.setCell _ _ _)).trans ((KeepsOthers.setCell _ _ _).trans (KeepsOthers.setCell _ _ _))
theorem AtV.kp {w W W' : World} {U r c nn vb B cp : Nat} {t n0 d : Int} {c0 G : Bool} {Z : Nat → Int} (h : AtV w U r c nn vb t c0 n0 Z G d B cp W) (k : Kp W W') : AtV w U r c nn vb t c0 n0 Z G d B cp W' := by
 obtain ⟨h1, h2, h3, h4, ⟨q, q1, q2, q3⟩, h5, h6, h7, h8, h9⟩ := h
 exact ⟨Blk.kp h1 k, h2.kp k, h3, h4, ⟨q, q1, q2, Blk.kp q3 k⟩, Blk.kp h5 k, Blk.kp h6 k, Blk.kp h7 k, h8.trans (Mk.kp k), h9⟩
section
attribute [local go_sem] Oper.semAt_some
set_option maxRecDepth 100000 in
set_option maxHeartbeats 16000000 in
theorem polyAt_ok (U r c nn n cap : Nat) (ao : Option Addr) (c0 : Bool) (n0 t : Int) (hn0 : 0 ≤ n0 ∧ n0 < 1000000000000000000) (ht : I64 t) (hr : 1 ≤ r ∧ r ≤ 12) (hc : 1 ≤ c ∧ c ≤ 12) (hnn : r * c = nn) (hn : n ≤ 24) (hcap : n + 1 ≤ cap) (X : Nat → MV) (hX : ∀ i, i ≤ n → (X i).R = r ∧ (X i).C = c ∧ (X i).len = nn) (hI : ∀ i, i ≤ n → ∀ j, j < nn → I64 ((X i).Z j)) (w : World) (h : UC U c0 n0 w) (hm : Mats w ao (n + 1) X) (hrow : ∀ i, i ≤ n → Row w (X i).ao nn (X i).Z) (ho : ∀ i, i ≤ n → Off U nn (X i).ao) (hoM : Off U (n + 1) ao) :
  Calls Tryz.prog 42 #[.pointer (some ⟨U, 0, none⟩), .slice ao (n + 1) cap, .int .i64 t] w fun e w' => ValP r c nn (horZ (fun i => (X i).Z) n t n) 0 (fun w' => UW U (c0 || horC (fun i => (X i).Z) n t nn n) n0 100000 w' ∧ Mk U w w') w e w' := by
 have k2 := mul12n r c hr hc
 rw [hnn] at k2
 have okA : okP (n + 1) X := ⟨⟨by omega, by omega⟩, fun i hi => by
  obtain ⟨e1, e2, e3⟩ := hX i (by omega)
  obtain ⟨f1, f2, f3⟩ := hX 0 (by omega)
  rw [e1, e2, e3, f1, f2]
  exact ⟨⟨by omega, by omega, by rw [← hnn, Int.natCast_mul]⟩, rfl, rfl⟩⟩
 have lU := Blk.lt h
 obtain ⟨b, o, rfl, hcell⟩ := hm.resolve_left (by omega)
 have bU : b ≠ U := hoM (by omega) _ rfl
 obtain ⟨lb, lo, hlo, hlc⟩ := (hrow n (Nat.le_refl _)).some k2.1
 have lU2 : lb ≠ U := ho n (Nat.le_refl _) (by omega) _ hlo
 have PL : Hid (∀ wx, Mk U w wx → Calls Tryz.prog 87 #[.slice (some ⟨b, o, none⟩) (n + 1) cap] wx fun e w' => e = .returned (.bool true) ∧ Grown wx w') := fun wx m => by
  have := polyPolynomial (some ⟨b, o, none⟩) (n + 1) cap X (by omega) wx (Or.inr ⟨b, o, rfl, fun i hi j hj => by
   have e := hcell i hi j hj
   have hs : ∃ v, (X i).cells[j]? = some v := ⟨_, Array.getElem?_eq_getElem (by show j < 3; exact hj)⟩
   obtain ⟨v, hv⟩ := hs
   rw [hv] at e ⊢
   exact m.cell e bU⟩)
  rwa [okPB_yes okA] at this
 have HC : Hid (∀ i, i ≤ n → ∀ wx, Mk U w wx → wx.cell? ⟨b, o + i * 3, none⟩ = some (.int .i64 r) ∧ wx.cell? ⟨b, o + i * 3 + 1, none⟩ = some (.int .i64 c) ∧ wx.cell? ⟨b, o + i * 3 + 2, none⟩ = some (.slice (X i).ao nn (X i).cap)) := fun i hi wx m => by
  obtain ⟨e1, e2, e3⟩ := hX i hi
  have q0 := hcell i (by omega) 0 (by omega)
  have q1 := hcell i (by omega) 1 (by omega)
  have q2 := hcell i (by omega) 2 (by omega)
  rw [show (X i).cells[0]? = some (.int .i64 (X i).R) from rfl, e1] at q0
  rw [show (X i).cells[1]? = some (.int .i64 (X i).C) from rfl, e2] at q1
  rw [show (X i).cells[2]? = some (.slice (X i).ao (X i).len (X i).cap) from rfl, e3] at q2
  exact ⟨m.cell q0 bU, m.cell q1 bU, m.cell q2 bU⟩
 have HM : Hid (∀ wx, Mk U w wx → Mats wx (some ⟨b, o, none⟩) n X) := fun wx m => Or.inr ⟨b, o, rfl, fun i hi j hj => by
  have e := hcell i (by omega) j hj
  have hs : ∃ v, (X i).cells[j]? = some v := ⟨_, Array.getElem?_eq_getElem (by show j < 3; exact hj)⟩
  obtain ⟨v, hv⟩ := hs
  rw [hv] at e ⊢
  exact m.cell e bU⟩
 have HR : Hid (∀ i, i ≤ n → ∀ wx, Mk U w wx → Row wx (X i).ao nn (X i).Z ∧ Off U nn (X i).ao) := fun i hi wx m => ⟨(hrow i hi).mk m (ho i hi), ho i hi⟩
 have CL : Hid (∀ wx, Mk U w wx → Calls Tryz.prog 88 #[.slice (some ⟨lb, lo, none⟩) nn (X n).cap] wx fun e w' => ∃ B cap', e = .returned (.slice (some ⟨B, 0, none⟩) nn cap') ∧ nn ≤ cap' ∧ wx.heap.size ≤ B ∧ Own B nn (X n).Z w' ∧ Kp wx w') := fun wx m => by
  have := (hrow n (Nat.le_refl _)).mk m (ho n (Nat.le_refl _))
  rw [hlo] at this
  exact clonePoly lb lo nn (X n).cap (X n).Z k2.1 (by omega) wx this
 have SC : Hid (∀ Z B cp wx (k : Bool) (q : Int), 0 ≤ q ∧ q < 1152921504606846976 → (∀ j, j < nn → I64 (Z j)) → UC U k q wx → Row wx (some ⟨B, 0, none⟩) nn Z → B ≠ U → Calls Tryz.prog 44 #[.pointer (some ⟨U, 0, none⟩), .agg #[.int .i64 r, .int .i64 c, .slice (some ⟨B, 0, none⟩) nn cp], .int .i64 t] wx fun e w' => MatP r c nn (fun p => m2N (Z p) t) 0 (fun w' => UC U (k || orC (fun p => m2C (Z p) t) nn) (q + 2 * (nn : Int)) w' ∧ Mk U wx w') wx e w') := by
  intro Z B cp wx k q hq hZ hu hr' hB
  have := scaleR U t ht r c hr hc (some ⟨B, 0, none⟩) cp Z (by rw [hnn]; exact hZ) wx (by rw [hnn]; exact ⟨hr', off_blk hB⟩) k q hq hu
  rw [hnn] at this
  exact this
 have SU : Hid (∀ i, i ≤ n → ∀ Z B cp wx (k : Bool) (q : Int), 0 ≤ q ∧ q < 1152921504606846976 → (∀ j, j < nn → I64 (Z j)) → UC U k q wx → Row wx (some ⟨B, 0, none⟩) nn Z → B ≠ U → Mk U w wx → Calls Tryz.prog 31 #[.pointer (some ⟨U, 0, none⟩), .agg #[.int .i64 r, .int .i64 c, .slice (some ⟨B, 0, none⟩) nn cp], .agg #[.int .i64 r, .int .i64 c, .slice (X i).ao nn (X i).cap]] wx fun e w' => MatP r c nn (fun p => s2N (Z p) ((X i).Z p)) 0 (fun w' => UC U (k || orC (fun p => s2C (Z p) ((X i).Z p)) nn) (q + 2 * (nn : Int)) w' ∧ Mk U wx w') wx e w') := by
  intro i hi Z B cp wx k q hq hZ hu hr' hB m
  have := sumR U r c hr hc (some ⟨B, 0, none⟩) (X i).ao cp (X i).cap Z (X i).Z (by rw [hnn]; exact hZ) (by rw [hnn]; exact hI i hi) wx (by rw [hnn]; exact ⟨hr', off_blk hB⟩) (by rw [hnn]; exact ⟨(hrow i hi).mk m (ho i hi), ho i hi⟩) k q hq hu
  rw [hnn] at this
  exact this
 have HH := hide (And.intro h (And.intro lU (And.intro bU (And.intro k2 (And.intro hn0 (And.intro hI hX))))))
 have G : Grown w (((w.alloc (.cells #[.pointer (some ⟨U, 0, none⟩)] 26)).alloc (.cells #[.int .i64 t] 3)).alloc (.cells #[.int .i64 0, .int .i64 0, .slice none 0 0] 38)) := (((Grown.refl _).alloc _ _).alloc _ _).alloc _ _
 have B1 : Hid (Blk w.heap.size #[.pointer (some ⟨U, 0, none⟩)] 26 (((w.alloc (.cells #[.pointer (some ⟨U, 0, none⟩)] 26)).alloc (.cells #[.int .i64 t] 3)).alloc (.cells #[.int .i64 0, .int .i64 0, .slice none 0 0] 38)) ∧ Blk (w.heap.size + 1) #[.int .i64 t] 3 (((w.alloc (.cells #[.pointer (some ⟨U, 0, none⟩)] 26)).alloc (.cells #[.int .i64 t] 3)).alloc (.cells #[.int .i64 0, .int .i64 0, .slice none 0 0] 38)) ∧ Blk (w.heap.size + 1 + 1) #[.int .i64 0, .int .i64 0, .slice none 0 0] 38 (((w.alloc (.cells #[.pointer (some ⟨U, 0, none⟩)] 26)).alloc (.cells #[.int .i64 t] 3)).alloc (.cells #[.int .i64 0, .int .i64 0, .slice none 0 0] 38)) ∧ (((w.alloc (.cells #[.pointer (some ⟨U, 0, none⟩)] 26)).alloc (.cells #[.int .i64 t] 3)).alloc (.cells #[.int .i64 0, .int .i64 0, .slice none 0 0] 38)).heap.size = w.heap.size + 3) := by
  refine ⟨Blk.grown (Blk.grown (Blk.new w _ _) ((Grown.refl _).alloc _ _)) ((Grown.refl _).alloc _ _), Blk.grown (blk_new2 w _ _ _) ((Grown.refl _).alloc _ _), ?_, by simp⟩
  have := Blk.new ((w.alloc (.cells #[.pointer (some ⟨U, 0, none⟩)] 26)).alloc (.cells #[.int .i64 t] 3)) #[.int .i64 0, .int .i64 0, .slice none 0 0] 38
  simp only [World.size_alloc] at this
  exact this
 have HG := hide G
 have i1 : (n : Int) < (n : Int) + 1 := by omega
 have i0 : (0 : Int) ≤ (n : Int) := by omega
 have wn : wrap64 (n : Int) = (n : Int) := by unfold wrap64; omega
 have wn1 : wrap64 ((n : Int) + 1 - 1) = (n : Int) := by unfold wrap64; omega
 have SL := fun w => slice_toM (some ⟨b, o, none⟩) (n + 1) cap n (by omega) w
 have HL := hide (And.intro hlo (And.intro hn hcap))
 clear hm hcell okA hrow ho hoM hlc hlo lU2 G h lU bU k2 hn0 hI hX hr hc hnn ht hn hcap
 refine (callsIn_wide (n := 6)).1 ?_
 refine callsIn_of_wp_marks Tryz.func42 rfl trivial ?_ rfl
 simp only [Tryz.ntmps42, List.size_toArray, List.length_cons, List.length_nil, Nat.reduceAdd, Nat.reduceSub, Array.replicate_succ, Array.replicate_zero, List.push_toArray, List.append_toArray, List.nil_append, List.cons_append]
 gi_wp2_with fail
 generalize (((w.alloc (.cells #[.pointer (some ⟨U, 0, none⟩)] 26)).alloc (.cells #[.int .i64 t] 3)).alloc (.cells #[.int .i64 0, .int .i64 0, .slice none 0 0] 38)) = w1 at *
 refine wpIn_wide.2 ?_
 have y0 : w1.drew.cell? ⟨w.heap.size, 0, none⟩ = some (.pointer (some ⟨U, 0, none⟩)) := Blk.cell (w := w1) (unhide B1).1 0
 refine region_G (fun w' => w'.cell? ⟨w.heap.size, 0, none⟩ = some (.pointer (some ⟨U, 0, none⟩))) 4 (by kernel_rfl) y0 (fun hHeld => ?_)
 refine take_G (i := 0) (d := 13) (v := .pointer (some ⟨U, 0, none⟩)) rfl rfl (by kernel_rfl) (by kernel_rfl) (by kernel_rfl) (by kernel_rfl) (by kernel_rfl) (Or.inl ⟨by rfl, ?_⟩) hHeld ?_
 ·intro wS hSw
  clear hHeld
  go_simp
 (try simp only [Act.put, List.setIfInBounds_toArray, List.set_cons_zero, List.set_cons_succ])
 refine take_G (i := 1) (d := 14) (v := .slice (some ⟨b, o, none⟩) (n + 1) cap) rfl rfl (by kernel_rfl) (by kernel_rfl) (by kernel_rfl) (by kernel_rfl) (by kernel_rfl) (Or.inl ⟨by rfl, ?_⟩) hHeld ?_
 ·intro wS hSw
  clear hHeld
  go_simp
 (try simp only [Act.put, List.setIfInBounds_toArray, List.set_cons_zero, List.set_cons_succ])
 refine step_G (i := 2) (by kernel_rfl) (fun K hK => ?_)
 refine wpOp_of rfl rfl ?_
 unfold Oper.wp
 go_simp
 refine (unhide PL w1.drew (Mk.kp (show Kp w w1 from Kp.of (unhide HG)))).mono ?_
 rintro e w2 ⟨rfl, g2⟩
 have y1 := gat g2 y0
 have GG : Hid (Grown w1 w2) := gtrans ((Grown.refl w1).drew) g2
 refine hK _ _ (fun _ => y1) ?_
 clear hK K g2 y0 hHeld
 have hHeld := y1
 (try simp only [Act.put, List.setIfInBounds_toArray, List.set_cons_zero, List.set_cons_succ])
 have RF := hide (polyRefuse U c0 n0 ⟨(unhide HH).2.2.2.2.1.1, by have := (unhide HH).2.2.2.2.1.2; omega⟩ true w2 (Blk.grown (Blk.grown (unhide HH).1 (unhide HG)) (unhide GG)))
 refine step_G (i := 3) (by kernel_rfl) (fun K hK => ?_)
 refine wpOp_of rfl rfl ?_
 unfold Oper.wp
 go_simp
 refine (unhide RF).mono ?_
 rintro e w3 ⟨rfl, u3, m3⟩
 have hU := (unhide HH).2.1
 have M3 : Mk U w w3 := (Mk.kp (Kp.of (gtrans (unhide HG) (unhide GG)))).trans (Mk.of m3)
 have B3 : Hid (Blk w.heap.size #[.pointer (some ⟨U, 0, none⟩)] 26 w3 ∧ Blk (w.heap.size + 1) #[.int .i64 t] 3 w3 ∧ Blk (w.heap.size + 1 + 1) #[.int .i64 0, .int .i64 0, .slice none 0 0] 38 w3 ∧ UC U c0 n0 w3 ∧ Mk U w w3) := ⟨Blk.keep (Blk.grown (unhide B1).1 (unhide GG)) m3 (by omega), Blk.keep (Blk.grown (unhide B1).2.1 (unhide GG)) m3 (by omega), Blk.keep (Blk.grown (unhide B1).2.2.1 (unhide GG)) m3 (by omega), u3, M3⟩
 refine hK _ _ (fun _ => Blk.cell (unhide B3).1 0) ?_
 clear hK K u3 m3 M3 hU hHeld y1 RF
 simp only [errB, if_true]
 (try simp only [Act.put, List.setIfInBounds_toArray, List.set_cons_zero, List.set_cons_succ])
 refine step_G (i := 4) (by kernel_rfl) (fun K hK => ?_)
 refine wpOp_of rfl rfl ?_
 unfold Oper.wp
 go_simp
 refine hK _ _ (fun h => absurd rfl h) ?_
 clear hK K
 (try simp only [Act.put, List.setIfInBounds_toArray, List.set_cons_zero, List.set_cons_succ])
 refine done_G (by kernel_rfl) ?_
 refine noPanic_normalE ?_
 clear GG B1 PL HG
 obtain ⟨x0, x1, x2⟩ := unhide HC n (Nat.le_refl _) w3 (unhide B3).2.2.2.2

 gi_wp2
 rw [(unhide HL).1]
 have B4 : Hid (Blk w.heap.size #[.pointer (some ⟨U, 0, none⟩)] 26 (w3.alloc (.cells #[.int .i64 r, .int .i64 c, .slice (some ⟨lb, lo, none⟩) nn (X n).cap] 38)) ∧ Blk (w.heap.size + 1) #[.int .i64 t] 3 (w3.alloc (.cells #[.int .i64 r, .int .i64 c, .slice (some ⟨lb, lo, none⟩) nn (X n).cap] 38)) ∧ Blk (w.heap.size + 1 + 1) #[.int .i64 0, .int .i64 0, .slice none 0 0] 38 (w3.alloc (.cells #[.int .i64 r, .int .i64 c, .slice (some ⟨lb, lo, none⟩) nn (X n).cap] 38)) ∧ UC U c0 n0 (w3.alloc (.cells #[.int .i64 r, .int .i64 c, .slice (some ⟨lb, lo, none⟩) nn (X n).cap] 38)) ∧ Mk U w (w3.alloc (.cells #[.int .i64 r, .int .i64 c, .slice (some ⟨lb, lo, none⟩) nn (X n).cap] 38)) ∧ Blk w3.heap.size #[.int .i64 r, .int .i64 c, .slice (some ⟨lb, lo, none⟩) nn (X n).cap] 38 (w3.alloc (.cells #[.int .i64 r, .int .i64 c, .slice (some ⟨lb, lo, none⟩) nn (X n).cap] 38)) ∧ w.heap.size + 3 ≤ w3.heap.size) := by
  have g : Grown w3 (w3.alloc (.cells #[.int .i64 r, .int .i64 c, .slice (some ⟨lb, lo, none⟩) nn (X n).cap] 38)) := (Grown.refl _).alloc _ _
  obtain ⟨b1, b2, b3, b4, b5⟩ := unhide B3
  have := Blk.lt b3
  exact ⟨Blk.grown b1 g, Blk.grown b2 g, Blk.grown b3 g, Blk.grown b4 g, b5.grown g, Blk.new _ _ _, by omega⟩
 clear B3 x0 x1 x2
 generalize w3.alloc (.cells #[.int .i64 r, .int .i64 c, .slice (some ⟨lb, lo, none⟩) nn (X n).cap] 38) = w4 at *
 generalize w3.heap.size = Lx at *
 obtain ⟨q0, hq0⟩ : ∃ q0, q0 = (X n).cap := ⟨_, rfl⟩
 rw [← hq0]
 rw [← hq0] at B4
 have y0 : w4.cell? ⟨Lx, 0, none⟩ = some (.int .i64 r) := Blk.cell (unhide B4).2.2.2.2.2.1 0
 have y1 : w4.cell? ⟨Lx, 1, none⟩ = some (.int .i64 c) := Blk.cell (unhide B4).2.2.2.2.2.1 1
 have y2 : w4.cell? ⟨Lx, 2, none⟩ = some (.slice (some ⟨lb, lo, none⟩) nn q0) := Blk.cell (unhide B4).2.2.2.2.2.1 2
 rw [← hq0] at CL
 clear hq0
 refine wpIn_wide.2 ?_
 refine region_cutP (T := Nat × Nat × Nat) (fun _ u => { tmps := #[.pointer (some ⟨U, 0, none⟩), .slice (some ⟨b, o, none⟩) (n + 1) cap, .int .i64 t, .pointer (some ⟨w.heap.size, 0, none⟩), undef, .pointer (some ⟨w.heap.size + 1, 0, none⟩), .pointer (some ⟨w.heap.size + 1 + 1, 0, none⟩), .int .i64 0, .int .i64 0, .pointer (some ⟨Lx, 0, none⟩), .pointer (some ⟨u.2.2, 0, none⟩), undef, undef, .pointer (some ⟨U, 0, none⟩), .slice (some ⟨b, o, none⟩) (n + 1) cap, .bool true, .int .i64 0, .int .i64 0, .bool false, undef, undef, .slice (some ⟨b, o, none⟩) (n + 1) cap, .slice (some ⟨b, o, none⟩) (n + 1) cap, .int .i64 ((n : Int) + 1), .int .i64 (n : Int), .pointer (some ⟨b, o + n * 3, none⟩), .agg #[.int .i64 r, .int .i64 c, .slice (some ⟨lb, lo, none⟩) nn q0], .pointer (some ⟨Lx, 0, none⟩), .int .i64 r, .pointer (some ⟨Lx, 1, none⟩), .int .i64 c, .pointer (some ⟨Lx, 2, none⟩), .slice (some ⟨lb, lo, none⟩) nn q0, .slice (some ⟨u.1, 0, none⟩) nn u.2.1, .agg #[.int .i64 r, .int .i64 c, .slice (some ⟨u.1, 0, none⟩) nn u.2.1], undef, undef, undef, undef, undef, undef, undef, undef, undef, undef, undef, undef, undef, undef, undef, undef, undef, undef, undef, undef, undef, undef, undef], defers := [] }) (fun u w5 => AtV w U r c nn u.2.2 t c0 n0 (X n).Z false 0 u.1 u.2.1 w5) ?_ ?_
 ·refine region_G (fun w' => w'.cell? ⟨Lx, 0, none⟩ = some (.int .i64 r) ∧ w'.cell? ⟨Lx, 1, none⟩ = some (.int .i64 c) ∧ w'.cell? ⟨Lx, 2, none⟩ = some (.slice (some ⟨lb, lo, none⟩) nn q0)) 9 (by kernel_rfl) ⟨y0, y1, y2⟩ (fun hHeld => ?_)
  refine take_G (i := 0) (d := 27) (v := .pointer (some ⟨Lx, 0, none⟩)) rfl rfl (by kernel_rfl) (by kernel_rfl) (by kernel_rfl) (by kernel_rfl) (by kernel_rfl) (Or.inl ⟨by rfl, ?_⟩) hHeld ?_
  ·intro wS hSw
   obtain ⟨z0, z1, z2⟩ := hSw
   clear hHeld
   go_simp
  (try simp only [Act.put, List.setIfInBounds_toArray, List.set_cons_zero, List.set_cons_succ])
  refine take_G (i := 1) (d := 28) (v := .int .i64 r) rfl rfl (by kernel_rfl) (by kernel_rfl) (by kernel_rfl) (by kernel_rfl) (by kernel_rfl) (Or.inl ⟨by rfl, ?_⟩) hHeld ?_
  ·intro wS hSw
   obtain ⟨z0, z1, z2⟩ := hSw
   clear hHeld
   go_simp
  (try simp only [Act.put, List.setIfInBounds_toArray, List.set_cons_zero, List.set_cons_succ])
  refine take_G (i := 2) (d := 29) (v := .pointer (some ⟨Lx, 1, none⟩)) rfl rfl (by kernel_rfl) (by kernel_rfl) (by kernel_rfl) (by kernel_rfl) (by kernel_rfl) (Or.inl ⟨by rfl, ?_⟩) hHeld ?_
  ·intro wS hSw
   obtain ⟨z0, z1, z2⟩ := hSw
   clear hHeld
   go_simp
  (try simp only [Act.put, List.setIfInBounds_toArray, List.set_cons_zero, List.set_cons_succ])
  refine take_G (i := 3) (d := 30) (v := .int .i64 c) rfl rfl (by kernel_rfl) (by kernel_rfl) (by kernel_rfl) (by kernel_rfl) (by kernel_rfl) (Or.inl ⟨by rfl, ?_⟩) hHeld ?_
  ·intro wS hSw
   obtain ⟨z0, z1, z2⟩ := hSw
   clear hHeld
   go_simp
  (try simp only [Act.put, List.setIfInBounds_toArray, List.set_cons_zero, List.set_cons_succ])
  refine take_G (i := 4) (d := 31) (v := .pointer (some ⟨Lx, 2, none⟩)) rfl rfl (by kernel_rfl) (by kernel_rfl) (by kernel_rfl) (by kernel_rfl) (by kernel_rfl) (Or.inl ⟨by rfl, ?_⟩) hHeld ?_
  ·intro wS hSw
   obtain ⟨z0, z1, z2⟩ := hSw
   clear hHeld
   go_simp
  (try simp only [Act.put, List.setIfInBounds_toArray, List.set_cons_zero, List.set_cons_succ])
  refine take_G (i := 5) (d := 32) (v := .slice (some ⟨lb, lo, none⟩) nn q0) rfl rfl (by kernel_rfl) (by kernel_rfl) (by kernel_rfl) (by kernel_rfl) (by kernel_rfl) (Or.inl ⟨by rfl, ?_⟩) hHeld ?_
  ·intro wS hSw
   obtain ⟨z0, z1, z2⟩ := hSw
   clear hHeld
   go_simp
  (try simp only [Act.put, List.setIfInBounds_toArray, List.set_cons_zero, List.set_cons_succ])
  refine pick2_GP (i := 6) (j := 8) (by kernel_rfl) (fun K hK => ?_) (fun K hK => ?_)
  ·refine wpOp_of rfl rfl ?_
   unfold Oper.wp
   go_simp
   refine (unhide CL w4.drew (unhide B4).2.2.2.2.1).mono ?_
   rintro e w5 ⟨Bl, cap2, rfl, hc, hB, own, k3⟩
   have k45 : Kp w4 w5 := k3
   have hb0 := Blk.kp (unhide B4).2.2.2.2.2.1 k45
   have d0 : w5.cell? ⟨Lx, 0, none⟩ = some (.int .i64 r) := Blk.cell hb0 0
   have d1 : w5.cell? ⟨Lx, 1, none⟩ = some (.int .i64 c) := Blk.cell hb0 1
   have d2 : w5.cell? ⟨Lx, 2, none⟩ = some (.slice (some ⟨lb, lo, none⟩) nn q0) := Blk.cell hb0 2
   have R3 : Hid (nn ≤ cap2 ∧ w4.heap.size ≤ Bl ∧ Own Bl nn (X n).Z w5 ∧ Kp w4 w5) := ⟨hc, hB, own, k45⟩
   clear hc hB own k3 hb0 k45 hHeld y0 y1 y2
   refine hK _ _ (fun _ => ⟨d0, d1, d2⟩) ?_
   clear hK K
   have hHeld := And.intro d0 (And.intro d1 d2)
   (try simp only [Act.put, List.setIfInBounds_toArray, List.set_cons_zero, List.set_cons_succ])
   refine take_G (i := 7) (d := 34) (v := .agg #[.int .i64 r, .int .i64 c, .slice (some ⟨Bl, 0, none⟩) nn cap2]) rfl rfl (by kernel_rfl) (by kernel_rfl) (by kernel_rfl) (by kernel_rfl) (by kernel_rfl) (Or.inl ⟨by rfl, ?_⟩) hHeld ?_
   ·intro wS hSw
    obtain ⟨z0, z1, z2⟩ := hSw
    clear hHeld
    go_simp
   (try simp only [Act.put, List.setIfInBounds_toArray, List.set_cons_zero, List.set_cons_succ])
   refine step_G (i := 8) (by kernel_rfl) (fun K hK => ?_)
   refine wpOp_of rfl rfl ?_
   unfold Oper.wp
   go_simp
   have gz : Grown w5 (w5.alloc (.cells #[.int .i64 0, .int .i64 0, .slice none 0 0] 38)) := (Grown.refl _).alloc _ _
   refine hK _ _ (fun _ => ⟨gat gz d0, gat gz d1, gat gz d2⟩) ?_
   clear hK K
   (try simp only [Act.put, List.setIfInBounds_toArray, List.set_cons_zero, List.set_cons_succ])
   refine step_G (i := 9) (by kernel_rfl) (fun K hK => ?_)
   refine wpOp_of rfl rfl ?_
   unfold Oper.wp
   go_simp
   refine hK _ _ (fun h => absurd rfl h) ?_
   clear hK K
   (try simp only [Act.put, List.setIfInBounds_toArray, List.set_cons_zero, List.set_cons_succ])
   refine done_G (by kernel_rfl) ?_
   refine noPanic_normalE ?_
   obtain ⟨hc, hB, own, k45⟩ := unhide R3
   obtain ⟨b1, b2, b3, b4, b5, b6, b7⟩ := unhide B4
   have lb6 := Blk.lt b6
   have s3 := k45.2.2.2
   have hw := b5.2.2.2
   have g5 : Kp w4 (w5.alloc (.cells #[.int .i64 r, .int .i64 c, .slice (some ⟨Bl, 0, none⟩) nn cap2] 38)) := k45.alloc _ _
   exact ⟨rfl, (Bl, cap2, w5.heap.size), ⟨Blk.new w5 _ _, own.kp ((Kp.refl w5).alloc _ _), hc, by show w.heap.size ≤ Bl; omega, ⟨n0, by omega, by omega, by rw [Bool.or_false]; exact Blk.kp b4 g5⟩, Blk.kp b1 g5, Blk.kp b2 g5, Blk.kp b3 g5, b5.trans (Mk.kp g5), by show w.heap.size + 3 ≤ w5.heap.size; omega⟩, rfl⟩
  ·refine wpOp_of rfl rfl ?_
   unfold Oper.wp
   go_simp
   have gz : Grown w4 (w4.alloc (.cells #[.int .i64 0, .int .i64 0, .slice none 0 0] 38)).drew := (show Grown w4 (w4.drew.alloc (.cells #[.int .i64 0, .int .i64 0, .slice none 0 0] 38)) from ((Grown.refl w4).drew).alloc _ _)
   have bz : Blk w4.heap.size #[.int .i64 0, .int .i64 0, .slice none 0 0] 38 (w4.alloc (.cells #[.int .i64 0, .int .i64 0, .slice none 0 0] 38)).drew := (show Blk w4.heap.size #[.int .i64 0, .int .i64 0, .slice none 0 0] 38 (w4.alloc (.cells #[.int .i64 0, .int .i64 0, .slice none 0 0] 38)) from Blk.new w4 _ _)
   generalize (w4.alloc (.cells #[.int .i64 0, .int .i64 0, .slice none 0 0] 38)).drew = wz at *
   have d0 := gat gz y0
   have d1 := gat gz y1
   have d2 := gat gz y2
   have K2 : Hid (Mk U w wz ∧ Kp w4 wz ∧ Blk w4.heap.size #[.int .i64 0, .int .i64 0, .slice none 0 0] 38 wz) := ⟨(unhide B4).2.2.2.2.1.grown gz, Kp.of gz, bz⟩
   refine hK _ _ (fun _ => ⟨d0, d1, d2⟩) ?_
   clear hK K gz bz hHeld y0 y1 y2
   (try simp only [Act.put, List.setIfInBounds_toArray, List.set_cons_zero, List.set_cons_succ])
   refine step_G (i := 6) (by kernel_rfl) (fun K hK => ?_)
   refine wpOp_of rfl rfl ?_
   unfold Oper.wp
   go_simp
   refine (unhide CL _ (unhide K2).1).mono ?_
   rintro e w5 ⟨Bl, cap2, rfl, hc, hB, own, k3⟩
   have k45 : Kp w4 w5 := (unhide K2).2.1.trans k3
   have bz := Blk.kp (unhide K2).2.2 k3
   have hb0 := Blk.kp (unhide B4).2.2.2.2.2.1 k45
   have d0 : w5.cell? ⟨Lx, 0, none⟩ = some (.int .i64 r) := Blk.cell hb0 0
   have d1 : w5.cell? ⟨Lx, 1, none⟩ = some (.int .i64 c) := Blk.cell hb0 1
   have d2 : w5.cell? ⟨Lx, 2, none⟩ = some (.slice (some ⟨lb, lo, none⟩) nn q0) := Blk.cell hb0 2
   have l2 : w4.heap.size < wz.heap.size := Blk.lt (unhide K2).2.2
   have e0 : w5.cell? ⟨w4.heap.size, 0, none⟩ = some (.int .i64 0) := Blk.cell bz 0
   have e1 : w5.cell? ⟨w4.heap.size, 1, none⟩ = some (.int .i64 0) := Blk.cell bz 1
   have e2 : w5.cell? ⟨w4.heap.size, 2, none⟩ = some (.slice none 0 0) := Blk.cell bz 2
   have ff := Blk.free bz
   have R3 : Hid (nn ≤ cap2 ∧ wz.heap.size ≤ Bl ∧ Own Bl nn (X n).Z w5 ∧ Kp w4 w5 ∧ Blk w4.heap.size #[.int .i64 0, .int .i64 0, .slice none 0 0] 38 w5 ∧ w4.heap.size < wz.heap.size) := ⟨hc, hB, own, k45, bz, l2⟩
   clear hc hB own k3 hb0 k45 bz l2
   refine hK _ _ (fun _ => ⟨d0, d1, d2⟩) ?_
   clear hK K
   (try simp only [Act.put, List.setIfInBounds_toArray, List.set_cons_zero, List.set_cons_succ])
   have hHeld := And.intro d0 (And.intro d1 d2)
   refine take_G (i := 7) (d := 34) (v := .agg #[.int .i64 r, .int .i64 c, .slice (some ⟨Bl, 0, none⟩) nn cap2]) rfl rfl (by kernel_rfl) (by kernel_rfl) (by kernel_rfl) (by kernel_rfl) (by kernel_rfl) (Or.inl ⟨by rfl, ?_⟩) hHeld ?_
   ·intro wS hSw
    obtain ⟨z0, z1, z2⟩ := hSw
    clear hHeld
    go_simp
   (try simp only [Act.put, List.setIfInBounds_toArray, List.set_cons_zero, List.set_cons_succ])
   refine step_G (i := 9) (by kernel_rfl) (fun K hK => ?_)
   refine wpOp_of rfl rfl ?_
   unfold Oper.wp
   go_simp
   refine hK _ _ (fun h => absurd rfl h) ?_
   clear hK K
   (try simp only [Act.put, List.setIfInBounds_toArray, List.set_cons_zero, List.set_cons_succ])
   refine done_G (by kernel_rfl) ?_
   refine noPanic_normalE ?_
   obtain ⟨hc, hB, own, k45, bz, l2⟩ := unhide R3
   obtain ⟨b1, b2, b3, b4, b5, b6, b7⟩ := unhide B4
   have lb6 := Blk.lt b6
   have s3 := k45.2.2.2
   have hw := b5.2.2.2
   have hU := (unhide HH).2.1
   have P := putM bz (.int .i64 r) (.int .i64 c) (.slice (some ⟨Bl, 0, none⟩) nn cap2)
   have g5 : Kp w4 (((w5.setCell ⟨w4.heap.size, 0, none⟩ (.int .i64 r)).setCell ⟨w4.heap.size, 1, none⟩ (.int .i64 c)).setCell ⟨w4.heap.size, 2, none⟩ (.slice (some ⟨Bl, 0, none⟩) nn cap2)) := k45.mod P.2 (Nat.le_refl _)
   exact ⟨rfl, (Bl, cap2, w4.heap.size), ⟨P.1, own.mk (Mk.of P.2) (by show Bl ≠ w4.heap.size; omega), hc, by show w.heap.size ≤ Bl; omega, ⟨n0, by omega, by omega, by rw [Bool.or_false]; exact Blk.kp b4 g5⟩, Blk.kp b1 g5, Blk.kp b2 g5, Blk.kp b3 g5, b5.trans (Mk.kp g5), by show w.heap.size + 3 ≤ w4.heap.size; omega⟩, rfl⟩

 ·rintro ⟨Bl, cap2, vb⟩ w5 hV
  dsimp only at hV ⊢
  have V5 := hide hV
  clear hV y0 y1 y2 CL B4
  have SL2 := fun w => (by rw [wn]; exact SL w : (Instr.sliceAt 73 (.slice (some ⟨b, o, none⟩) (n + 1) cap) none (some (.int .i64 (wrap64 (n : Int)))) none).run Tryz.prog w = .ok (.slice (some ⟨b, o, none⟩) n cap) w)
  clear wn wn1
  gi_wp2_with fail
  refine ⟨trivial, ?_⟩
  refine (callsIn_wide.2 (backMk _ _ _ _)).mono ?_
  rintro e w6 ⟨rfl, rfl⟩
  gi_wp2_with fail
  obtain ⟨W0, hW0⟩ : ∃ W0, w5.alloc (.cells #[.slice (some ⟨b, o, none⟩) n cap] 73) = W0 := ⟨_, rfl⟩
  rw [hW0]
  have ST : Hid (AtV w U r c nn vb t c0 n0 (X n).Z false 0 Bl cap2 W0 ∧ Blk w5.heap.size #[.slice (some ⟨b, o, none⟩) n cap] 73 W0 ∧ W0.heap.size = w5.heap.size + 1 ∧ vb < w5.heap.size) := by
   have k : Kp w5 W0 := by rw [← hW0]; exact Kp.of ((Grown.refl _).alloc _ _)
   have b9 := Blk.new w5 #[.slice (some ⟨b, o, none⟩) n cap] 73
   rw [hW0] at b9
   exact ⟨(unhide V5).kp k, b9, by rw [← hW0]; simp, Blk.lt (unhide V5).1⟩
  clear hW0 V5 SL SL2
  obtain ⟨hV0, hsb, hsz, lvb⟩ := unhide ST
  obtain ⟨_, lU, bU, k2, hn0, hI, hX⟩ := unhide HH
  generalize w5.heap.size = sb at *
  have hvb : w.heap.size + 3 ≤ vb := hV0.2.2.2.2.2.2.2.2.2
  have hM0 : Mk U w W0 := hV0.2.2.2.2.2.2.2.2.1
  refine range_own (P := Tryz.prog) (encs := encB X) (St := fun _ _ => False) (D := fun q => q = U ∨ q = vb) (Px := nextB n) (Pp := fun _ => True) (S := fun xs _ => xs.length = n) (Sp := fun _ _ => True) rfl (by omega) (gf := 124) (lb := #[.pointer (some ⟨sb, 0, none⟩)]) rfl trivial (enters_of Tryz.func124 (by kernel_rfl) rfl) (fun _ => rfl)
   (fun _ _ _ _ h => h.elim)
   (fun l J Jx W hg hJ hY h0 => ?seq)
   (fun pre W => pre.length ≤ n ∧ W0.heap.size ≤ W.heap.size ∧ ∃ B cp, AtV w U r c nn vb t c0 n0 (horZ (fun i => (X i).Z) n t pre.length) (horC (fun i => (X i).Z) n t nn pre.length) ((pre.length : Int) * 1000) B cp W)
   (fun _ _ _ => False)
   (fun pre W W' row h hg hr => let ⟨h1, hs, B, cp, h2⟩ := h; ⟨h1, Nat.le_trans hs hg.size, B, cp, h2.own (by have := hM0.2.2.2; omega) hg hr⟩)
   (fun c pre W W' row h hg hr => h.elim)
   (fun _ _ _ _ h _ _ => h)
   (fun _ _ _ _ h _ _ => h)
   (fun pre X Y h s => s.elim)
   (fun pre W h => trivial)
   ⟨Nat.zero_le _, Nat.le_refl _, Bl, cap2, by simpa [horZ, horC] using hV0⟩
   (fun x a' W => ∃ Bx, W0.heap.size ≤ Bx ∧ Blk Bx (X x).cells 38 W ∧ a' = { tmps := #[.pointer (some ⟨U, 0, none⟩), .slice (some ⟨b, o, none⟩) (n + 1) cap, .int .i64 t, .pointer (some ⟨w.heap.size, 0, none⟩), undef, .pointer (some ⟨w.heap.size + 1, 0, none⟩), .pointer (some ⟨w.heap.size + 1 + 1, 0, none⟩), .int .i64 0, .int .i64 0, .pointer (some ⟨Lx, 0, none⟩), .pointer (some ⟨vb, 0, none⟩), undef, .pointer (some ⟨Bx, 0, none⟩), .pointer (some ⟨U, 0, none⟩), .slice (some ⟨b, o, none⟩) (n + 1) cap, .bool true, .int .i64 0, .int .i64 0, .bool false, undef, undef, .slice (some ⟨b, o, none⟩) (n + 1) cap, .slice (some ⟨b, o, none⟩) (n + 1) cap, .int .i64 ((n : Int) + 1), .int .i64 (n : Int), .pointer (some ⟨b, o + n * 3, none⟩), .agg #[.int .i64 r, .int .i64 c, .slice (some ⟨lb, lo, none⟩) nn q0], .pointer (some ⟨Lx, 0, none⟩), .int .i64 r, .pointer (some ⟨Lx, 1, none⟩), .int .i64 c, .pointer (some ⟨Lx, 2, none⟩), .slice (some ⟨lb, lo, none⟩) nn q0, .slice (some ⟨Bl, 0, none⟩) nn cap2, .agg #[.int .i64 r, .int .i64 c, .slice (some ⟨Bl, 0, none⟩) nn cap2], .slice (some ⟨b, o, none⟩) (n + 1) cap, .slice (some ⟨b, o, none⟩) (n + 1) cap, .int .i64 ((n : Int) + 1), .int .i64 (wrap64 (n : Int)), .slice (some ⟨b, o, none⟩) n cap, .func (.func 124) #[] #[.pointer (some ⟨sb, 0, none⟩)], .int .i64 (x : Int), .agg #[.int .i64 (X x).R, .int .i64 (X x).C, .slice (X x).ao (X x).len (X x).cap], undef, undef, undef, undef, undef, undef, undef, undef, undef, undef, undef, undef, undef, undef, undef], defers := [] })
   (fun x a' _ W W' row h hg hr => let ⟨Bx, h1, h2, h3⟩ := h; ⟨Bx, h1, blk_own h2 hg (fun r e => (hr r e).2), h3⟩)
   ?assign ?body ?done ?stop
  case seq =>
   have gk : ∀ c cs T, Blk c cs T W0 → Blk c cs T W := fun c cs T h => (hg.block c (Blk.lt h) (by simp)).trans h
   exact back1_in _ l sb n cap (some ⟨b, o, none⟩) X (by omega) (by have := (unhide HL).2.1; omega) _ (by omega) (fun _ _ => False) J Jx (fun q hq h => by obtain ⟨o', e⟩ := hq h; cases e; have lb : b < w.heap.size := heap_gt ((unhide HC n (Nat.le_refl _) w (Mk.refl _ _)).1); omega) hY W (gk _ _ _ hsb) ((unhide HM W0 hM0).cells fun q o' v _ hv => hg.cell hv (by simp)) h0
  case assign =>
   intro l pre x W K hI2 hK
   dsimp only [encB]
   have HI := hide hI2
   have HKK := hide hK
   clear hK
   clear hI hX hV0 hsb k2 hn0 hM0 hI2
   gi_wp2
   obtain ⟨h1, hs, B, cp, h2⟩ := unhide HI
   exact (unhide HKK) _ _ ((KeepsOthers.alloc _ _).from _) (KC.of (fun q hq _ => gblock ((Grown.refl _).alloc _ _) hq) (by simp)) ⟨h1, Nat.le_trans hs (by simp), B, cp, h2.kp (Kp.of ((Grown.refl _).alloc _ _))⟩ ⟨W.heap.size, hs, Blk.new _ _ _, rfl⟩
  case body =>
   rintro l pre x a' W ⟨h1, hs, B, cp, h2⟩ ⟨Bx, hBx, bX, rfl⟩ hnx
   obtain ⟨j, hj⟩ : ∃ j, pre.length = j := ⟨_, rfl⟩
   have hxj : x = n - (j + 1) ∧ x ≤ n ∧ j + 1 ≤ n := by unfold nextB at hnx; omega
   rw [hj] at h1 h2
   have hb := Blk.lt bX
   have h24 := (unhide HL).2.1
   obtain ⟨e1, e2, e3⟩ := hX x hxj.2.1
   dsimp only
   rw [e1, e2, e3]
   have bX2 : Blk Bx #[.int .i64 r, .int .i64 c, .slice (X x).ao nn (X x).cap] 38 W := by
    have t := bX
    unfold MV.cells at t
    rw [e1, e2, e3] at t
    exact t
   obtain ⟨cnt, q1, q2, hu⟩ := h2.2.2.2.2.1
   have hB := h2.2.2.2.1
   have z0 : W.cell? ⟨vb, 0, none⟩ = some (.int .i64 r) := Blk.cell h2.1 0
   have z1 : W.cell? ⟨vb, 1, none⟩ = some (.int .i64 c) := Blk.cell h2.1 1
   have z2 : W.cell? ⟨vb, 2, none⟩ = some (.slice (some ⟨B, 0, none⟩) nn cp) := Blk.cell h2.1 2
   have u0 : W.cell? ⟨w.heap.size, 0, none⟩ = some (.pointer (some ⟨U, 0, none⟩)) := Blk.cell h2.2.2.2.2.2.1 0
   have t0 : W.cell? ⟨w.heap.size + 1, 0, none⟩ = some (.int .i64 t) := Blk.cell h2.2.2.2.2.2.2.1 0
   have hIj : ∀ p, p < nn → I64 (horZ (fun i => (X i).Z) n t j p) := horZ_I64 _ n t nn (fun p hp => hI n (Nat.le_refl _) p hp) j
   obtain ⟨V, hV⟩ : ∃ V, horZ (fun i => (X i).Z) n t j = V := ⟨_, rfl⟩
   obtain ⟨G, hG⟩ : ∃ G, horC (fun i => (X i).Z) n t nn j = G := ⟨_, rfl⟩
   rw [hV] at h2 hIj
   rw [hG] at h2 hu
   have EV : Hid (horZ (fun i => (X i).Z) n t (j + 1) = hoZ V (X x).Z t ∧ horC (fun i => (X i).Z) n t nn (j + 1) = (G || hoC V (X x).Z t nn)) := by
    rw [← hV, ← hG, hxj.1]
    exact ⟨rfl, rfl⟩
   have S1 := hide (unhide SC V B cp W (c0 || G) cnt (by omega) hIj hu (h2.2.1.row) (by have := Blk.lt hu; omega))
   have HS := hide (And.intro h2 (And.intro hu (And.intro q1 (And.intro q2 (And.intro bX2 (And.intro hBx (And.intro hs (And.intro hj (And.intro hxj h1)))))))))
   have HN := hide (And.intro hn0 (And.intro k2 (And.intro lU (And.intro hvb (And.intro lvb (And.intro hsz hM0))))))
   have HNE : Hid (w.heap.size ≠ vb ∧ w.heap.size + 1 ≠ vb ∧ Bx ≠ vb ∧ Bx ≠ U ∧ w.heap.size ≠ U ∧ w.heap.size + 1 ≠ U) := by
    have := hM0.2.2.2
    refine ⟨?_, ?_, ?_, ?_, ?_, ?_⟩ <;> omega
   have n1 : w.heap.size ≠ vb := (unhide HNE).1
   have n2 : w.heap.size + 1 ≠ vb := (unhide HNE).2.1
   have n3 : Bx ≠ vb := (unhide HNE).2.2.1
   have nn0 : nn ≠ 0 := by omega
   clear h24 h1 h2 hu q1 q2 bX bX2 hBx hs hj hxj hnx hb e1 e2 e3 hB hV hG hIj hI hX hV0 hsb hM0 hn0 k2 lU bU hvb lvb hsz ST
   gi_wp2_with fail
   refine ⟨trivial, ?_⟩
   refine (CallsIn.inRound l (callsIn_wide (n := 3).2 (unhide S1))).mono ?_
   rintro e w6 ⟨_, cp2, B2, rfl, hB2, hb2, hcp2, hu2, m2⟩
   obtain ⟨rfl, hbn⟩ := hb2.resolve_left nn0
   have P := hide ((unhide HS).1.put (G' := G || orC (fun p => m2C (V p) t) nn) (d' := (j : Int) * 1000 + 288) (unhide HN).2.2.1 m2 (by rw [← Bool.or_assoc]; exact hu2) (by have := (unhide HS).2.2.1; omega) (by have := (unhide HS).2.2.2.1; have := (unhide HN).2.1.2; omega) hbn hB2 hcp2)
   have z0 : w6.cell? ⟨vb, 0, none⟩ = some (.int .i64 r) := Blk.cell (unhide P).2.2.2.1 0
   have z1 : w6.cell? ⟨vb, 1, none⟩ = some (.int .i64 c) := Blk.cell (unhide P).2.2.2.1 1
   have z2 : w6.cell? ⟨vb, 2, none⟩ = some (.slice (some ⟨B, 0, none⟩) nn cp) := Blk.cell (unhide P).2.2.2.1 2
   have ff := Blk.free (unhide P).2.2.2.1
   have u0 : w6.cell? ⟨w.heap.size, 0, none⟩ = some (.pointer (some ⟨U, 0, none⟩)) := m2.cell (Blk.cell (unhide HS).1.2.2.2.2.2.1 0) (unhide HNE).2.2.2.2.1
   have bX6 := Blk.mk (unhide HS).2.2.2.2.1 m2 (unhide HNE).2.2.2.1
   have x0 : w6.cell? ⟨Bx, 0, none⟩ = some (.int .i64 r) := Blk.cell bX6 0
   have x1 : w6.cell? ⟨Bx, 1, none⟩ = some (.int .i64 c) := Blk.cell bX6 1
   have x2 : w6.cell? ⟨Bx, 2, none⟩ = some (.slice (X x).ao nn (X x).cap) := Blk.cell bX6 2
   clear hB2 hb2 hbn hcp2 hu2 m2 S1 bX6
   gi_wp2_with fail
   obtain ⟨cn2, r1, r2, hu6⟩ := (unhide P).1.2.2.2.2.1
   have hm6 := (unhide P).2.2.2.2
   have hr6 := (unhide P).1.2.1.row
   have S2 := hide (unhide SU x (unhide HS).2.2.2.2.2.2.2.2.1.2.1 (fun p => m2N (V p) t) B2 cp2 _ (c0 || (G || orC (fun p => m2C (V p) t) nn)) cn2 ⟨by have := (unhide HN).1.1; omega, by have := (unhide HN).1.2; have := (unhide HL).2.1; have := (unhide HS).2.2.2.2.2.2.2.2.1.2.2; omega⟩ (fun p _ => m2N_I64 _ _) hu6 hr6 (by have := Blk.lt hu6; have := (unhide P).1.2.2.2.1; have := (unhide HN).2.2.1; omega) hm6)
   have R6 := hide (And.intro r1 r2)
   clear hu6 hm6 hr6 r1 r2 z0 z1 z2 ff u0 t0 x0 x1 x2
   refine ⟨trivial, ?_⟩
   refine (CallsIn.inRound l (callsIn_wide (n := 3).2 (unhide S2))).mono ?_
   rintro e w7 ⟨_, cp3, B3, rfl, hB3, hb3, hcp3, hu3, m3⟩
   obtain ⟨rfl, hbn⟩ := hb3.resolve_left nn0
   have P2 := hide ((unhide P).1.put (G' := G || orC (fun p => m2C (V p) t) nn || orC (fun p => s2C (m2N (V p) t) ((X x).Z p)) nn) (d' := ((j + 1 : Nat) : Int) * 1000) (unhide HN).2.2.1 m3 (by rw [← Bool.or_assoc]; exact hu3) (by have := (unhide R6).1; omega) (by have := (unhide R6).2; have := (unhide HN).2.1.2; omega) hbn hB3 hcp3)
   clear hB3 hb3 hbn hcp3 hu3 m3 S2
   have z0 : w7.cell? ⟨vb, 0, none⟩ = some (.int .i64 r) := Blk.cell (unhide P2).2.2.2.1 0
   have z1 : w7.cell? ⟨vb, 1, none⟩ = some (.int .i64 c) := Blk.cell (unhide P2).2.2.2.1 1
   have z2 : w7.cell? ⟨vb, 2, none⟩ = some (.slice (some ⟨B2, 0, none⟩) nn cp2) := Blk.cell (unhide P2).2.2.2.1 2
   have ff := Blk.free (unhide P2).2.2.2.1
   generalize (((w6.setCell ⟨vb, 0, none⟩ (.int .i64 r)).setCell ⟨vb, 1, none⟩ (.int .i64 c)).setCell ⟨vb, 2, none⟩ (.slice (some ⟨B2, 0, none⟩) nn cp2)) = wa at *
   gi_wp2
   obtain ⟨_, _, _, _, _, _, s7, s8, s9, s10⟩ := unhide HS
   refine ⟨((unhide P).2.2.1.trans (unhide P2).2.2.1).from _, (unhide P).2.1.trans (unhide P2).2.1, by rw [List.length_append, s8]; exact s9.2.2, Nat.le_trans s7 ((unhide P).2.1.trans (unhide P2).2.1).2, B3, cp3, ?_⟩
   have e1 : (pre ++ [x]).length = j + 1 := by rw [List.length_append, s8]; rfl
   rw [e1, (unhide EV).1, (unhide EV).2]
   have t := (unhide P2).1
   rw [Bool.or_assoc] at t
   exact t
  case done =>
   rintro d xs W hd hl ⟨h1, hs, B, cp, h2⟩ hDf
   rw [hl] at h2
   have h24 := (unhide HL).2.1
   have z0 : W.cell? ⟨vb, 0, none⟩ = some (.int .i64 r) := Blk.cell h2.1 0
   have z1 : W.cell? ⟨vb, 1, none⟩ = some (.int .i64 c) := Blk.cell h2.1 1
   have z2 : W.cell? ⟨vb, 2, none⟩ = some (.slice (some ⟨B, 0, none⟩) nn cp) := Blk.cell h2.1 2
   have y0 : W.cell? ⟨w.heap.size + 1 + 1, 0, none⟩ = some (.int .i64 0) := Blk.cell h2.2.2.2.2.2.2.2.1 0
   have y1 : W.cell? ⟨w.heap.size + 1 + 1, 1, none⟩ = some (.int .i64 0) := Blk.cell h2.2.2.2.2.2.2.2.1 1
   have y2 : W.cell? ⟨w.heap.size + 1 + 1, 2, none⟩ = some (.slice none 0 0) := Blk.cell h2.2.2.2.2.2.2.2.1 2
   have ff := Blk.free h2.2.2.2.2.2.2.2.1
   have HS := hide (And.intro h2 (And.intro hs (And.intro (show w.heap.size + 3 ≤ W0.heap.size by omega) (And.intro lU (And.intro h24 hM0)))))
   clear h1 hs h2 hI hX hV0 hsb hM0 hn0 k2 lU bU hvb lvb hsz ST h24
   gi_wp2
   obtain ⟨h2, hs, hvb, lU, h24, hM0⟩ := unhide HS
   obtain ⟨v1, v2, v3, v4, ⟨cnt, q1, q2, hu⟩, v6, v7, v8, v9, v10⟩ := h2
   have P := putM v8 (.int .i64 r) (.int .i64 c) (.slice (some ⟨B, 0, none⟩) nn cp)
   have hz := v9.2.2.2
   have lB : B < W.heap.size := by obtain ⟨cur, c1, _⟩ := v2; exact Blk.lt c1
   have oB : B ≠ w.heap.size + 1 + 1 := by obtain ⟨cur, c1, _⟩ := v2; exact blk_ne c1 v8 (by decide +kernel)
   have kD := (((KeepsOthers.setCell W ⟨w.heap.size + 1 + 1, 0, none⟩ (.int .i64 r)).trans (KeepsOthers.setCell _ ⟨w.heap.size + 1 + 1, 1, none⟩ (.int .i64 c))).trans (KeepsOthers.setCell _ ⟨w.heap.size + 1 + 1, 2, none⟩ (.slice (some ⟨B, 0, none⟩) nn cp))).same d _ hDf rfl
   have hd2 : w.heap.size + 3 ≤ d := by omega
   generalize (((W.setCell ⟨w.heap.size + 1 + 1, 0, none⟩ (.int .i64 r)).setCell ⟨w.heap.size + 1 + 1, 1, none⟩ (.int .i64 c)).setCell ⟨w.heap.size + 1 + 1, 2, none⟩ (.slice (some ⟨B, 0, none⟩) nn cp)) = WW at *
   have gD := grownBy_putObj' WW d (.deferred none)
   have b2 := Blk.by P.1 gD (fun e => by cases e; omega)
   have oD : B ≠ d := by
    intro e
    obtain ⟨cur, c1, _⟩ := v2.mk (Mk.of P.2) oB
    rw [← e] at kD
    rw [show WW.heap[B]? = _ from c1] at kD
    cases kD
   have o2 := (v2.mk (Mk.of P.2) oB).by gD (fun e => oD (by simpa using e))
   have u2 := Blk.by (Blk.keep hu P.2 (by omega)) gD (fun e => by cases e; omega)
   have m2 := (v9.new P.2 (by omega)).by gD (fun k e => by cases e; omega)
   refine ⟨by simp, .inl ⟨_, _, rfl, run_takeDeferred kD, ?_⟩⟩
   have c0' : (WW.putObj d (.deferred none)).cell? ⟨w.heap.size + 1 + 1, 0, none⟩ = some (.int .i64 r) := Blk.cell b2 0
   have c1' : (WW.putObj d (.deferred none)).cell? ⟨w.heap.size + 1 + 1, 1, none⟩ = some (.int .i64 c) := Blk.cell b2 1
   have c2' : (WW.putObj d (.deferred none)).cell? ⟨w.heap.size + 1 + 1, 2, none⟩ = some (.slice (some ⟨B, 0, none⟩) nn cp) := Blk.cell b2 2
   generalize WW.putObj d (.deferred none) = WP at *
   refine ⟨.tuple #[.agg #[.int .i64 r, .int .i64 c, .slice (some ⟨B, 0, none⟩) nn cp], .int .i64 0], by simp [results, Tryz.results42, go_sem, c0', c1', c2'], ?_⟩
   exact ⟨_, _, B, rfl, v3, v4, Or.inr ⟨rfl, o2⟩, ⟨cnt, q1, by omega, u2⟩, m2⟩
  case stop =>
   rintro d c pre W hd _ h
   exact h.elim
end
end Go.Proofs.YtjobgjcfkomhpaaGreat
